/- Large and small letters in names of fields and in hosts, and blanks around values, play no part: tollgatelaw09.HeadLetters answers true, for all heads of the bound of the second form and all seeds. The tables of the library's are as the card ties them (lz_of). -/
import Derived.Test.YtmmiadlmdjfepaaDoorHl2
import Derived.Test.YtmmiadlmdjfepaaDoorHw1
import Derived.Test.YtmmiadlmdjfepaaDoorLzu
import Derived.Test.YtmmiadlmdjfepaaDoorHdf
import Derived.Test.YtmmiadlmdjfepaaDoorHdv
import Derived.Test.YtmmiadlmdjfepaaDoorTie
import Derived.Test.YtmmiadlmdjfepaaDoorCards
import Derived.Lay
import Derived.MakeChecks
import Derived.SevenTiedAt
import Derived.Stop.Joined
import Derived.Test.YtmmiadlmdjfepaaDoorBulk
import Derived.JoinedCond
namespace Go.Proofs.YtmmiadlmdjfepaaDoor.headLettersUpto
open Go.ChangeShapes Go.WideShapes Go.ChangeAt Go.RowKit
set_option linter.unusedVariables false

theorem own : ownKnob Tryd.prog.godebug = none := by kernel_rfl
theorem laidOut : laidOutB Tryd.prog = true := by kernel_rfl

theorem le47 {h : Hd} (hl : HdLe 1048576 h) : HdLe 140737488355328 h := hl.mono (by decide)
theorem wr47 {h : Hd} (hl : HdLe 1048576 h) : h.fields.length ≤ 32 → (writtenL h).length ≤ 140737488355328 := fun hk => by
  have := written_bound hl 32 hk
  omega
theorem firstT0 (m p : Tx) : (stS m ++ (⟨#[32]⟩ : ByteArray)) ++ stS p = stS (m ++ 32 :: p) := by
  rw [show (⟨#[32]⟩ : ByteArray) = stS [32] from rfl, stS_app, stS_app]; simp
theorem firstT1 (a q : Tx) : stS a ++ ((⟨#[63]⟩ : ByteArray) ++ stS q) = stS (a ++ 63 :: q) := by
  rw [show (⟨#[63]⟩ : ByteArray) = stS [63] from rfl, stS_app, stS_app]; simp
theorem firstT2 (a : Tx) : stS a ++ (⟨#[32, 72, 84, 84, 80, 47, 49, 46, 49, 13, 10]⟩ : ByteArray) = stS (a ++ 32 :: (versionL ++ crlf)) := by
  rw [show (⟨#[32, 72, 84, 84, 80, 47, 49, 46, 49, 13, 10]⟩ : ByteArray) = stS (32 :: (versionL ++ crlf)) from rfl, stS_app]
/-- The text so far. -/
def txt (h : Hd) (ls : List Tx) : Tx := line0 h ++ crlf ++ endedL ls
theorem txt0 (h : Hd) : txt h [] = (if h.query = [] then h.method ++ 32 :: h.path else (h.method ++ 32 :: h.path) ++ 63 :: h.query) ++ 32 :: (versionL ++ crlf) := by
  unfold txt line0 targL
  split <;> simp [endedL]
theorem txt_snoc (h : Hd) (ls : List Tx) (l : Tx) : txt h (ls ++ [l]) = txt h ls ++ (l ++ crlf) := by
  unfold txt
  simp [endedL, List.append_assoc]
theorem lineS (a n b v : Tx) : stS a ++ (((((stS n ++ (⟨#[58]⟩ : ByteArray)) ++ stS b) ++ stS v) ++ stS b) ++ (⟨#[13, 10]⟩ : ByteArray)) = stS (a ++ ((n ++ 58 :: (b ++ (v ++ b))) ++ crlf)) := by
  rw [show (⟨#[58]⟩ : ByteArray) = stS [58] from rfl, show (⟨#[13, 10]⟩ : ByteArray) = stS crlf from rfl, stS_app, stS_app, stS_app, stS_app, stS_app, stS_app]
  congr 2
  simp
theorem idx4 (seed j : Nat) (h : seed < 4294967296) : ∃ k : Nat, k < 4 ∧ bits .and .u32 ((seed : Int) / 2 ^ (j % 16)) 3 = (k : Int) := by
  refine ⟨(seed / 2 ^ (j % 16)) &&& 3, ?_, ?_⟩
  · have : (seed / 2 ^ (j % 16)) &&& 3 ≤ 3 := Nat.and_le_right
    omega
  · have := u32_and_nat (seed / 2 ^ (j % 16)) 3 (Nat.lt_of_le_of_lt (Nat.div_le_self _ _) h) (by decide)
    rw [← this]
    congr 1
set_option maxRecDepth 20000 in
set_option maxHeartbeats 16000000 in
theorem walk (h : Hd) (sp : Option Addr) (c : Nat) (seed : Nat) (w : World) (hF : FdsAt w sp h.fields) (hl : HdLe 1048576 h) (hseed : seed < 4294967296) (hLz : Lz w) :
    Calls Tryd.prog 8 #[hdVal h sp c, .int .u32 (seed : Int)] w fun e w' => e = .returned (.bool true) ∧ Below w.heap.size w w' := by
  have B1 := hide (show Below w.heap.size w (w.alloc (.cells #[.string (stS h.method), .string (stS h.path), .string (stS h.query), .string (stS h.host), .slice sp h.fields.length c] 25)) from (Below.refl _ _).alloc (Nat.le_refl _) _)
  have X1 := hide (heap_new w (.cells #[.string (stS h.method), .string (stS h.path), .string (stS h.query), .string (stS h.host), .slice sp h.fields.length c] 25))
  have k0 := box_cell (unhide X1) 0 _ rfl
  have k1 := box_cell (unhide X1) 1 _ rfl
  have k2 := box_cell (unhide X1) 2 _ rfl
  have k3 := box_cell (unhide X1) 3 _ rfl
  have k4 := box_cell (unhide X1) 4 _ rfl
  have LV := hide (show ∀ U, Below w.heap.size w U → Calls Tryd.prog 12 #[] U fun e w' => e = .returned (.bool true) ∧ Below U.heap.size U w' from fun U hb => live9_calls U (hLz.later hb))
  have WC := hide (fun U (hu : Below w.heap.size w U) => write_calls h sp c U (hF.later hu) (le47 hl) (wr47 hl))
  cases hw : writeL h with
  | bad n =>
    have WC2 := hide (show ∀ U, Below w.heap.size w U → Calls Tryd.prog 14 #[hdVal h sp c] U fun e w' => e = .returned (.tuple #[.slice none 0 0, .int .i64 (n : Int)]) ∧ Below U.heap.size U w' from fun U hu => (unhide WC U hu).mono fun e w' he => by
      obtain ⟨h1, h2⟩ := he
      unfold WriteEnd at h1
      rw [hw] at h1
      exact ⟨h1, h2⟩)
    have hn : n = 4 ∨ n = 6 := by
      unfold writeL at hw
      split at hw
      · split at hw
        · cases hw; exact .inr rfl
        · split at hw
          · cases hw; exact .inr rfl
          · cases hw
      · cases hw; exact .inl rfl
    clear hw WC hF hl hLz
    unfold hdVal at WC2 ⊢
    rcases hn with rfl | rfl
    all_goals
      go_enter Tryd.func8, Tryd.ntmps8
      go_wp2_with (first
        | (go_at_call 14; refine (unhide WC2 _ (unhide B1)).mono ?_; rintro e W1 ⟨rfl, hb1⟩; have H1 := chain B1 hb1)
        | (go_at_call 12; refine (unhide LV _ (unhide H1)).mono ?_; rintro e W2 ⟨rfl, hb2⟩; have H2 := chain H1 hb2))
      go_ret
      exact ⟨rfl, unhide H2⟩
  | ok b =>
    obtain ⟨hmb, hf32, hw20, rfl⟩ := write_ok hw
    have WC2 := hide (show ∀ U, Below w.heap.size w U → Calls Tryd.prog 14 #[hdVal h sp c] U fun e w' => (∃ g q, e = .returned (.tuple #[.slice (some ⟨g, 0, none⟩) (writtenL h).length q, .int .i64 0])) ∧ Below U.heap.size U w' from fun U hu => (unhide WC U hu).mono fun e w' he => by
      obtain ⟨h1, h2⟩ := he
      unfold WriteEnd at h1
      rw [hw] at h1
      obtain ⟨g, q, h3, _⟩ := h1
      exact ⟨⟨g, q, h3⟩, h2⟩)
    have hwpos : 0 < (writtenL h).length := by rw [written_len]; omega
    have hwpi : (0 : Int) < ((writtenL h).length : Int) := by omega
    have LP := hide (fun ls hls hlen => letters_parse hmb hf32 (ls := ls) hls hlen)
    have FO := hide (show ∀ f ∈ h.fields, fdOk f = true from fun f hf => List.all_eq_true.1 hmb.f f hf)
    have HLZ := hide (show ∀ U, Below w.heap.size w U → Lz U from fun U hu => hLz.later hu)
    have HZ := hide hl.f.2
    have HF := hide hF
    have smz : (stS h.method).size ≤ 1048576 := hl.m
    have spz : (stS h.path).size ≤ 1048576 := hl.p
    have sqz : (stS h.query).size ≤ 1048576 := hl.q
    have sxz : (stS h.host).size ≤ 1048576 := hl.x
    have U0 := hide (txt0 h)
    have TL := hide (show (txt h []).length ≤ 3145800 by
      have h1 := hl.m
      have h2 := hl.p
      have h3 := hl.q
      rw [txt0]
      split
      · simp [versionL, crlf]; omega
      · simp [versionL, crlf]; omega)
    have hnil : (⟨#[]⟩ : ByteArray).toList = [] := by rw [ByteArray.toList_eq]
    have hqn := str_nil (stS h.query)
    rw [stS_list] at hqn
    have LG := hide (fun (s : ByteArray) (hs : s.size ≤ 1048576) U => large_calls s hs seed hseed U)
    clear hw WC hF hl hLz hmb hw20 hwpos
    generalize hwl : (writtenL h).length = wl at *
    clear hwl
    unfold hdVal at WC2 ⊢
    generalize hnn : h.fields.length = n at *
    have HN := hide hnn
    clear hnn
    rcases Bool.eq_false_or_eq_true h.query.isEmpty with he | he
    focus
      rw [he] at hqn
      rw [if_pos (List.isEmpty_iff.1 he)] at U0
      have S0 := hide (show ((stS h.method ++ (⟨#[32]⟩ : ByteArray)) ++ stS h.path) ++ (⟨#[32, 72, 84, 84, 80, 47, 49, 46, 49, 13, 10]⟩ : ByteArray) = stS (txt h []) by rw [firstT0, firstT2, unhide U0])
      clear he U0
      go_enter Tryd.func8, Tryd.ntmps8
      go_wp2_with (first
        | (go_at_call 14; refine (unhide WC2 _ (unhide B1)).mono ?_; rintro e W1 ⟨⟨g1, q1, rfl⟩, hb1⟩
           have H1 := chain B1 hb1
           have p0 := cell_later hb1 k0
           have p1 := cell_later hb1 k1
           have p2 := cell_later hb1 k2
           have p3 := cell_later hb1 k3
           have p4 := cell_later hb1 k4
           clear hb1 k0 k1 k2 k3 k4))
    rotate_left
    focus
      rw [he] at hqn
      rw [if_neg (fun e => by rw [e] at he; cases he)] at U0
      have S0 := hide (show ((((stS h.method ++ (⟨#[32]⟩ : ByteArray)) ++ stS h.path) ++ ((⟨#[63]⟩ : ByteArray) ++ stS h.query)) ++ (⟨#[32, 72, 84, 84, 80, 47, 49, 46, 49, 13, 10]⟩ : ByteArray)) = stS (txt h []) by rw [firstT0, firstT1, firstT2, unhide U0])
      clear he U0
      go_enter Tryd.func8, Tryd.ntmps8
      go_wp2_with (first
        | (go_at_call 14; refine (unhide WC2 _ (unhide B1)).mono ?_; rintro e W1 ⟨⟨g1, q1, rfl⟩, hb1⟩
           have H1 := chain B1 hb1
           have p0 := cell_later hb1 k0
           have p1 := cell_later hb1 k1
           have p2 := cell_later hb1 k2
           have p3 := cell_later hb1 k3
           have p4 := cell_later hb1 k4
           clear hb1 k0 k1 k2 k3 k4))
    all_goals
      clear WC2 X1 B1 hqn
      go_loopw [7, 8] (fun s i wr => ∃ (j : Nat) (ls : List Tx), j ≤ n ∧ s = .string (stS (txt h ls)) ∧ i = .int .i64 (j : Int) ∧ Hid (LinesOk (h.fields.take j) ls) ∧ Hid ((txt h ls).length ≤ 3145800 + j * 2097170) ∧ Hid (Below W1.heap.size W1 wr)) (fun _ i _ => n - (intOf i).toNat)
      case atStart => exact ⟨0, [], by omega, by rw [← unhide S0], rfl, hide .nil, TL, hide (Below.refl _ _)⟩
      case round =>
        obtain ⟨j, ls, hj, rfl, rfl, LK, TB, B⟩ := hrel
        have v0 := cell_later (unhide B) p0
        have v1 := cell_later (unhide B) p1
        have v2 := cell_later (unhide B) p2
        have v3 := cell_later (unhide B) p3
        have v4 := cell_later (unhide B) p4
        have FB := hide (show Below w.heap.size w wr from (unhide H1).trans ((unhide B).mono (unhide H1).size))
        have htl := unhide TB
        have hss : (stS (txt h ls)).size ≤ 140737488355328 := by rw [stS_size]; omega
        by_cases hjn : j < n
        · have y0 : (0 : Int) ≤ (j : Int) := by omega
          have y1 : (j : Int) < (n : Int) := by omega
          have hjl : j < h.fields.length := by rw [unhide HN]; exact hjn
          obtain ⟨gg, oo, rfl, q0, q1'⟩ := unhide HF j hjl
          have a0 := cell_later (unhide FB) q0
          have a1 := cell_later (unhide FB) q1'
          have hz := unhide HZ _ (List.getElem_mem hjl)
          have hok := unhide FO _ (List.getElem_mem hjl)
          have LS := hide (show ∀ l, LineOk h.fields[j] l → LinesOk (h.fields.take (j + 1)) (ls ++ [l]) from fun l hl => by
            rw [List.take_add_one, List.getElem?_eq_getElem hjl, Option.toList_some]
            exact (unhide LK).snoc hl)
          have hw : IntKind.i64.wrap ((j : Int) + 1) = ((j + 1 : Nat) : Int) := by rw [IntKind.wrap_i64]; omega
          clear q0 q1'
          generalize h.fields[j] = t at *
          obtain ⟨tn, tv⟩ := t
          simp only at a0 a1 hz
          obtain ⟨hz1, hz2⟩ := hz
          have OK := hide (fun t v b h1 h2 h3 => line_ok (f := ⟨tn, tv⟩) hok (t := t) (v := v) (b := b) h1 h2 h3)
          have zn : (stS tn).size ≤ 1048576 := hz1
          have zv : (stS tv).size ≤ 1048576 := hz2
          have hhe := host_eq (stS tn)
          rw [stS_list] at hhe
          clear hok
          obtain ⟨k, hk4, hbits⟩ := idx4 seed j hseed
          have hk : k = 0 ∨ k = 1 ∨ k = 2 ∨ k = 3 := by omega
          have BW := hide (((unhide B).alloc (unhide B).size (.cells #[.string (stS tn), .string (stS tv)] 43)).alloc (Nat.le_trans (unhide B).size ((Below.refl wr.heap.size wr).alloc (Nat.le_refl _) (.cells #[.string (stS tn), .string (stS tv)] 43)).size) (.cells #[.string ⟨#[]⟩, .string ⟨#[32]⟩, .string ⟨#[9]⟩, .string ⟨#[32, 9, 32]⟩] 9))
          have xA := heap_new wr (.cells #[.string (stS tn), .string (stS tv)] 43)
          have d0 := box_cell (later_block ((Below.refl _ _).alloc (Nat.le_refl _) (.cells #[.string ⟨#[]⟩, .string ⟨#[32]⟩, .string ⟨#[9]⟩, .string ⟨#[32, 9, 32]⟩] 9)) xA) 0 _ rfl
          have LN := hide (unhide LG (stS tn) zn)
          have LVv := hide (unhide LG (stS tv) zv)
          rw [stS_list] at LN LVv
          have HZ1 := hide hz1
          have HZ2 := hide hz2
          clear xA hk4
          rcases hk with rfl | rfl | rfl | rfl
          · have hb0 : bits .and .u32 ((seed : Int) / 2 ^ (j % 16)) 3 = 0 := hbits
            clear hbits
            cases hhn : (tn == hostName) with
            | true =>
              rw [hhn] at hhe
              have PV := hide (show ∀ t v, Lrg tn t → Lrg tv v → LineOk ⟨tn, tv⟩ (t ++ 58 :: ([] ++ (v ++ []))) from fun t v h1 h2 => unhide OK t v [] h1 ⟨fun hn => absurd (eq_of_beq hhn) hn, h2⟩ (by decide))
              clear hhn OK
              go_wp2_with (first
                | (go_at_call 19; have hV : LVv = LVv := rfl; clear hV; refine (unhide LVv _).mono ?_; rintro e V1 ⟨⟨v1x, rfl, hr2⟩, hb2⟩
                   have R2 := hide hr2
                   have zt2 : (stS v1x).size ≤ 1048576 := by rw [stS_size, hr2.len]; exact unhide HZ2
                   have B2 := chain BW hb2
                   have d1 := cell_later hb2 d0
                   clear hb2 hr2 LVv)
                | (go_at_call 19; refine (unhide LN _).mono ?_; rintro e V2 ⟨⟨t1, rfl, hr1⟩, hb3⟩
                   have R1 := hide hr1
                   have zt1 : (stS t1).size ≤ 1048576 := by rw [stS_size, hr1.len]; exact unhide HZ1
                   have B3 := chain B2 hb3
                   clear hb3 hr1))
              have E3 := hide (show stS (txt h ls) ++ (((((stS t1 ++ (⟨#[58]⟩ : ByteArray)) ++ (⟨#[]⟩ : ByteArray)) ++ stS v1x) ++ (⟨#[]⟩ : ByteArray)) ++ (⟨#[13, 10]⟩ : ByteArray)) = stS (txt h (ls ++ [t1 ++ 58 :: ([] ++ (v1x ++ []))])) by rw [show (⟨#[]⟩ : ByteArray) = stS [] from rfl, lineS, txt_snoc])
              have LQ := hide (show (txt h (ls ++ [t1 ++ 58 :: ([] ++ (v1x ++ []))])).length ≤ 3145800 + (j + 1) * 2097170 by
                have a1 := (unhide R1).len
                have a2 := unhide HZ1
                have a3 := unhide HZ2
                have a4 := (unhide R2).len
                rw [txt_snoc]
                simp only [List.length_append, List.length_cons, List.length_nil, crlf]
                omega)
              go_roundw
              case rel => exact ⟨j + 1, ls ++ [t1 ++ 58 :: ([] ++ (v1x ++ []))], by omega, by rw [← unhide E3], by first | rfl | (rw [hw]), hide (unhide LS _ (unhide PV t1 v1x (unhide R1) (unhide R2))), LQ, B3⟩
              case measure => simp [intOf]; omega
            | false =>
              rw [hhn] at hhe
              have PV := hide (show ∀ t, Lrg tn t → LineOk ⟨tn, tv⟩ (t ++ 58 :: ([] ++ (tv ++ []))) from fun t h1 => unhide OK t tv [] h1 ⟨fun _ => rfl, Lrg.refl tv⟩ (by decide))
              clear hhn OK
              go_wp2_with (first
                | (go_at_call 19; refine (unhide LN _).mono ?_; rintro e V2 ⟨⟨t1, rfl, hr1⟩, hb3⟩
                   have R1 := hide hr1
                   have zt1 : (stS t1).size ≤ 1048576 := by rw [stS_size, hr1.len]; exact unhide HZ1
                   have B3 := chain BW hb3
                   clear hb3 hr1))
              have E3 := hide (show stS (txt h ls) ++ (((((stS t1 ++ (⟨#[58]⟩ : ByteArray)) ++ (⟨#[]⟩ : ByteArray)) ++ stS tv) ++ (⟨#[]⟩ : ByteArray)) ++ (⟨#[13, 10]⟩ : ByteArray)) = stS (txt h (ls ++ [t1 ++ 58 :: ([] ++ (tv ++ []))])) by rw [show (⟨#[]⟩ : ByteArray) = stS [] from rfl, lineS, txt_snoc])
              have LQ := hide (show (txt h (ls ++ [t1 ++ 58 :: ([] ++ (tv ++ []))])).length ≤ 3145800 + (j + 1) * 2097170 by
                have a1 := (unhide R1).len
                have a2 := unhide HZ1
                have a3 := unhide HZ2
                rw [txt_snoc]
                simp only [List.length_append, List.length_cons, List.length_nil, crlf]
                omega)
              go_roundw
              case rel => exact ⟨j + 1, ls ++ [t1 ++ 58 :: ([] ++ (tv ++ []))], by omega, by rw [← unhide E3], by first | rfl | (rw [hw]), hide (unhide LS _ (unhide PV t1 (unhide R1))), LQ, B3⟩
              case measure => simp [intOf]; omega
          · have hb0 : bits .and .u32 ((seed : Int) / 2 ^ (j % 16)) 3 = 1 := hbits
            clear hbits
            cases hhn : (tn == hostName) with
            | true =>
              rw [hhn] at hhe
              have PV := hide (show ∀ t v, Lrg tn t → Lrg tv v → LineOk ⟨tn, tv⟩ (t ++ 58 :: ([32] ++ (v ++ [32]))) from fun t v h1 h2 => unhide OK t v [32] h1 ⟨fun hn => absurd (eq_of_beq hhn) hn, h2⟩ (by decide))
              clear hhn OK
              go_wp2_with (first
                | (go_at_call 19; have hV : LVv = LVv := rfl; clear hV; refine (unhide LVv _).mono ?_; rintro e V1 ⟨⟨v1x, rfl, hr2⟩, hb2⟩
                   have R2 := hide hr2
                   have zt2 : (stS v1x).size ≤ 1048576 := by rw [stS_size, hr2.len]; exact unhide HZ2
                   have B2 := chain BW hb2
                   have d1 := cell_later hb2 d0
                   clear hb2 hr2 LVv)
                | (go_at_call 19; refine (unhide LN _).mono ?_; rintro e V2 ⟨⟨t1, rfl, hr1⟩, hb3⟩
                   have R1 := hide hr1
                   have zt1 : (stS t1).size ≤ 1048576 := by rw [stS_size, hr1.len]; exact unhide HZ1
                   have B3 := chain B2 hb3
                   clear hb3 hr1))
              have E3 := hide (show stS (txt h ls) ++ (((((stS t1 ++ (⟨#[58]⟩ : ByteArray)) ++ (⟨#[32]⟩ : ByteArray)) ++ stS v1x) ++ (⟨#[32]⟩ : ByteArray)) ++ (⟨#[13, 10]⟩ : ByteArray)) = stS (txt h (ls ++ [t1 ++ 58 :: ([32] ++ (v1x ++ [32]))])) by rw [show (⟨#[32]⟩ : ByteArray) = stS [32] from rfl, lineS, txt_snoc])
              have LQ := hide (show (txt h (ls ++ [t1 ++ 58 :: ([32] ++ (v1x ++ [32]))])).length ≤ 3145800 + (j + 1) * 2097170 by
                have a1 := (unhide R1).len
                have a2 := unhide HZ1
                have a3 := unhide HZ2
                have a4 := (unhide R2).len
                rw [txt_snoc]
                simp only [List.length_append, List.length_cons, List.length_nil, crlf]
                omega)
              go_roundw
              case rel => exact ⟨j + 1, ls ++ [t1 ++ 58 :: ([32] ++ (v1x ++ [32]))], by omega, by rw [← unhide E3], by first | rfl | (rw [hw]), hide (unhide LS _ (unhide PV t1 v1x (unhide R1) (unhide R2))), LQ, B3⟩
              case measure => simp [intOf]; omega
            | false =>
              rw [hhn] at hhe
              have PV := hide (show ∀ t, Lrg tn t → LineOk ⟨tn, tv⟩ (t ++ 58 :: ([32] ++ (tv ++ [32]))) from fun t h1 => unhide OK t tv [32] h1 ⟨fun _ => rfl, Lrg.refl tv⟩ (by decide))
              clear hhn OK
              go_wp2_with (first
                | (go_at_call 19; refine (unhide LN _).mono ?_; rintro e V2 ⟨⟨t1, rfl, hr1⟩, hb3⟩
                   have R1 := hide hr1
                   have zt1 : (stS t1).size ≤ 1048576 := by rw [stS_size, hr1.len]; exact unhide HZ1
                   have B3 := chain BW hb3
                   clear hb3 hr1))
              have E3 := hide (show stS (txt h ls) ++ (((((stS t1 ++ (⟨#[58]⟩ : ByteArray)) ++ (⟨#[32]⟩ : ByteArray)) ++ stS tv) ++ (⟨#[32]⟩ : ByteArray)) ++ (⟨#[13, 10]⟩ : ByteArray)) = stS (txt h (ls ++ [t1 ++ 58 :: ([32] ++ (tv ++ [32]))])) by rw [show (⟨#[32]⟩ : ByteArray) = stS [32] from rfl, lineS, txt_snoc])
              have LQ := hide (show (txt h (ls ++ [t1 ++ 58 :: ([32] ++ (tv ++ [32]))])).length ≤ 3145800 + (j + 1) * 2097170 by
                have a1 := (unhide R1).len
                have a2 := unhide HZ1
                have a3 := unhide HZ2
                rw [txt_snoc]
                simp only [List.length_append, List.length_cons, List.length_nil, crlf]
                omega)
              go_roundw
              case rel => exact ⟨j + 1, ls ++ [t1 ++ 58 :: ([32] ++ (tv ++ [32]))], by omega, by rw [← unhide E3], by first | rfl | (rw [hw]), hide (unhide LS _ (unhide PV t1 (unhide R1))), LQ, B3⟩
              case measure => simp [intOf]; omega
          · have hb0 : bits .and .u32 ((seed : Int) / 2 ^ (j % 16)) 3 = 2 := hbits
            clear hbits
            cases hhn : (tn == hostName) with
            | true =>
              rw [hhn] at hhe
              have PV := hide (show ∀ t v, Lrg tn t → Lrg tv v → LineOk ⟨tn, tv⟩ (t ++ 58 :: ([9] ++ (v ++ [9]))) from fun t v h1 h2 => unhide OK t v [9] h1 ⟨fun hn => absurd (eq_of_beq hhn) hn, h2⟩ (by decide))
              clear hhn OK
              go_wp2_with (first
                | (go_at_call 19; have hV : LVv = LVv := rfl; clear hV; refine (unhide LVv _).mono ?_; rintro e V1 ⟨⟨v1x, rfl, hr2⟩, hb2⟩
                   have R2 := hide hr2
                   have zt2 : (stS v1x).size ≤ 1048576 := by rw [stS_size, hr2.len]; exact unhide HZ2
                   have B2 := chain BW hb2
                   have d1 := cell_later hb2 d0
                   clear hb2 hr2 LVv)
                | (go_at_call 19; refine (unhide LN _).mono ?_; rintro e V2 ⟨⟨t1, rfl, hr1⟩, hb3⟩
                   have R1 := hide hr1
                   have zt1 : (stS t1).size ≤ 1048576 := by rw [stS_size, hr1.len]; exact unhide HZ1
                   have B3 := chain B2 hb3
                   clear hb3 hr1))
              have E3 := hide (show stS (txt h ls) ++ (((((stS t1 ++ (⟨#[58]⟩ : ByteArray)) ++ (⟨#[9]⟩ : ByteArray)) ++ stS v1x) ++ (⟨#[9]⟩ : ByteArray)) ++ (⟨#[13, 10]⟩ : ByteArray)) = stS (txt h (ls ++ [t1 ++ 58 :: ([9] ++ (v1x ++ [9]))])) by rw [show (⟨#[9]⟩ : ByteArray) = stS [9] from rfl, lineS, txt_snoc])
              have LQ := hide (show (txt h (ls ++ [t1 ++ 58 :: ([9] ++ (v1x ++ [9]))])).length ≤ 3145800 + (j + 1) * 2097170 by
                have a1 := (unhide R1).len
                have a2 := unhide HZ1
                have a3 := unhide HZ2
                have a4 := (unhide R2).len
                rw [txt_snoc]
                simp only [List.length_append, List.length_cons, List.length_nil, crlf]
                omega)
              go_roundw
              case rel => exact ⟨j + 1, ls ++ [t1 ++ 58 :: ([9] ++ (v1x ++ [9]))], by omega, by rw [← unhide E3], by first | rfl | (rw [hw]), hide (unhide LS _ (unhide PV t1 v1x (unhide R1) (unhide R2))), LQ, B3⟩
              case measure => simp [intOf]; omega
            | false =>
              rw [hhn] at hhe
              have PV := hide (show ∀ t, Lrg tn t → LineOk ⟨tn, tv⟩ (t ++ 58 :: ([9] ++ (tv ++ [9]))) from fun t h1 => unhide OK t tv [9] h1 ⟨fun _ => rfl, Lrg.refl tv⟩ (by decide))
              clear hhn OK
              go_wp2_with (first
                | (go_at_call 19; refine (unhide LN _).mono ?_; rintro e V2 ⟨⟨t1, rfl, hr1⟩, hb3⟩
                   have R1 := hide hr1
                   have zt1 : (stS t1).size ≤ 1048576 := by rw [stS_size, hr1.len]; exact unhide HZ1
                   have B3 := chain BW hb3
                   clear hb3 hr1))
              have E3 := hide (show stS (txt h ls) ++ (((((stS t1 ++ (⟨#[58]⟩ : ByteArray)) ++ (⟨#[9]⟩ : ByteArray)) ++ stS tv) ++ (⟨#[9]⟩ : ByteArray)) ++ (⟨#[13, 10]⟩ : ByteArray)) = stS (txt h (ls ++ [t1 ++ 58 :: ([9] ++ (tv ++ [9]))])) by rw [show (⟨#[9]⟩ : ByteArray) = stS [9] from rfl, lineS, txt_snoc])
              have LQ := hide (show (txt h (ls ++ [t1 ++ 58 :: ([9] ++ (tv ++ [9]))])).length ≤ 3145800 + (j + 1) * 2097170 by
                have a1 := (unhide R1).len
                have a2 := unhide HZ1
                have a3 := unhide HZ2
                rw [txt_snoc]
                simp only [List.length_append, List.length_cons, List.length_nil, crlf]
                omega)
              go_roundw
              case rel => exact ⟨j + 1, ls ++ [t1 ++ 58 :: ([9] ++ (tv ++ [9]))], by omega, by rw [← unhide E3], by first | rfl | (rw [hw]), hide (unhide LS _ (unhide PV t1 (unhide R1))), LQ, B3⟩
              case measure => simp [intOf]; omega
          · have hb0 : bits .and .u32 ((seed : Int) / 2 ^ (j % 16)) 3 = 3 := hbits
            clear hbits
            cases hhn : (tn == hostName) with
            | true =>
              rw [hhn] at hhe
              have PV := hide (show ∀ t v, Lrg tn t → Lrg tv v → LineOk ⟨tn, tv⟩ (t ++ 58 :: ([32, 9, 32] ++ (v ++ [32, 9, 32]))) from fun t v h1 h2 => unhide OK t v [32, 9, 32] h1 ⟨fun hn => absurd (eq_of_beq hhn) hn, h2⟩ (by decide))
              clear hhn OK
              go_wp2_with (first
                | (go_at_call 19; have hV : LVv = LVv := rfl; clear hV; refine (unhide LVv _).mono ?_; rintro e V1 ⟨⟨v1x, rfl, hr2⟩, hb2⟩
                   have R2 := hide hr2
                   have zt2 : (stS v1x).size ≤ 1048576 := by rw [stS_size, hr2.len]; exact unhide HZ2
                   have B2 := chain BW hb2
                   have d1 := cell_later hb2 d0
                   clear hb2 hr2 LVv)
                | (go_at_call 19; refine (unhide LN _).mono ?_; rintro e V2 ⟨⟨t1, rfl, hr1⟩, hb3⟩
                   have R1 := hide hr1
                   have zt1 : (stS t1).size ≤ 1048576 := by rw [stS_size, hr1.len]; exact unhide HZ1
                   have B3 := chain B2 hb3
                   clear hb3 hr1))
              have E3 := hide (show stS (txt h ls) ++ (((((stS t1 ++ (⟨#[58]⟩ : ByteArray)) ++ (⟨#[32, 9, 32]⟩ : ByteArray)) ++ stS v1x) ++ (⟨#[32, 9, 32]⟩ : ByteArray)) ++ (⟨#[13, 10]⟩ : ByteArray)) = stS (txt h (ls ++ [t1 ++ 58 :: ([32, 9, 32] ++ (v1x ++ [32, 9, 32]))])) by rw [show (⟨#[32, 9, 32]⟩ : ByteArray) = stS [32, 9, 32] from rfl, lineS, txt_snoc])
              have LQ := hide (show (txt h (ls ++ [t1 ++ 58 :: ([32, 9, 32] ++ (v1x ++ [32, 9, 32]))])).length ≤ 3145800 + (j + 1) * 2097170 by
                have a1 := (unhide R1).len
                have a2 := unhide HZ1
                have a3 := unhide HZ2
                have a4 := (unhide R2).len
                rw [txt_snoc]
                simp only [List.length_append, List.length_cons, List.length_nil, crlf]
                omega)
              go_roundw
              case rel => exact ⟨j + 1, ls ++ [t1 ++ 58 :: ([32, 9, 32] ++ (v1x ++ [32, 9, 32]))], by omega, by rw [← unhide E3], by first | rfl | (rw [hw]), hide (unhide LS _ (unhide PV t1 v1x (unhide R1) (unhide R2))), LQ, B3⟩
              case measure => simp [intOf]; omega
            | false =>
              rw [hhn] at hhe
              have PV := hide (show ∀ t, Lrg tn t → LineOk ⟨tn, tv⟩ (t ++ 58 :: ([32, 9, 32] ++ (tv ++ [32, 9, 32]))) from fun t h1 => unhide OK t tv [32, 9, 32] h1 ⟨fun _ => rfl, Lrg.refl tv⟩ (by decide))
              clear hhn OK
              go_wp2_with (first
                | (go_at_call 19; refine (unhide LN _).mono ?_; rintro e V2 ⟨⟨t1, rfl, hr1⟩, hb3⟩
                   have R1 := hide hr1
                   have zt1 : (stS t1).size ≤ 1048576 := by rw [stS_size, hr1.len]; exact unhide HZ1
                   have B3 := chain BW hb3
                   clear hb3 hr1))
              have E3 := hide (show stS (txt h ls) ++ (((((stS t1 ++ (⟨#[58]⟩ : ByteArray)) ++ (⟨#[32, 9, 32]⟩ : ByteArray)) ++ stS tv) ++ (⟨#[32, 9, 32]⟩ : ByteArray)) ++ (⟨#[13, 10]⟩ : ByteArray)) = stS (txt h (ls ++ [t1 ++ 58 :: ([32, 9, 32] ++ (tv ++ [32, 9, 32]))])) by rw [show (⟨#[32, 9, 32]⟩ : ByteArray) = stS [32, 9, 32] from rfl, lineS, txt_snoc])
              have LQ := hide (show (txt h (ls ++ [t1 ++ 58 :: ([32, 9, 32] ++ (tv ++ [32, 9, 32]))])).length ≤ 3145800 + (j + 1) * 2097170 by
                have a1 := (unhide R1).len
                have a2 := unhide HZ1
                have a3 := unhide HZ2
                rw [txt_snoc]
                simp only [List.length_append, List.length_cons, List.length_nil, crlf]
                omega)
              go_roundw
              case rel => exact ⟨j + 1, ls ++ [t1 ++ 58 :: ([32, 9, 32] ++ (tv ++ [32, 9, 32]))], by omega, by rw [← unhide E3], by first | rfl | (rw [hw]), hide (unhide LS _ (unhide PV t1 (unhide R1))), LQ, B3⟩
              case measure => simp [intOf]; omega
        · obtain rfl : j = n := by omega
          have hjj : ¬ (j : Int) < (j : Int) := by omega
          have ET : h.fields.take j = h.fields := List.take_of_length_le (by rw [unhide HN]; exact Nat.le_refl _)
          rw [ET] at LK
          have G1 := hide (show stS (txt h ls) ++ (⟨#[13, 10]⟩ : ByteArray) = stS (txt h ls ++ crlf) by rw [show (⟨#[13, 10]⟩ : ByteArray) = stS crlf from rfl, stS_app])
          have EQ := hide (show txt h ls ++ crlf = endedL (line0 h :: ls) ++ crlf by unfold txt; simp [endedL])
          have zs : (stS (txt h ls)).size = (txt h ls).length := rfl
          by_cases h20 : (txt h ls).length + 2 ≤ 2048
          · have q20 : ¬ (2048 : Int) < ((stS (txt h ls)).size : Int) + 2 := by rw [zs]; omega
            obtain ⟨gs, kk, hgs, hpar⟩ := unhide LP ls (unhide LK) (by rw [← unhide EQ, List.length_append]; exact h20)
            rw [← unhide EQ] at hpar
            have GS := hide hgs
            have hgl : gs.length = j := by rw [hgs.len]; exact unhide HN
            obtain ⟨cc, V3, hcv, hc3, hb3, v3x⟩ := conv_bytes wr (stS (txt h ls) ++ (⟨#[13, 10]⟩ : ByteArray))
            have hz3 : (stS (txt h ls) ++ (⟨#[13, 10]⟩ : ByteArray)).size = (txt h ls).length + 2 := by rw [unhide G1, stS_size, List.length_append]; rfl
            have F3 := chain FB v3x
            have PC := hide (show Calls Tryd.prog 10 #[.slice (some ⟨wr.heap.size, 0, none⟩) ((txt h ls).length + 2) cc] V3 fun e w' => (∃ sp4 c4, e = .returned (.tuple #[.agg #[.string (stS h.method), .string (stS h.path), .string (stS h.query), .string (stS h.host), .slice sp4 j c4], .int .i64 (kk : Int), .int .i64 0]) ∧ FdsAt w' sp4 gs) ∧ Below V3.heap.size V3 w' by
              have h5 := parseB_calls wr V3 (stS (txt h ls) ++ (⟨#[13, 10]⟩ : ByteArray)) wr.heap.size cc hc3 hb3 (unhide HLZ V3 (unhide F3))
              rw [hz3] at h5
              refine h5.mono fun e w' he => ⟨?_, he.2⟩
              have h6 := he.1
              rw [unhide G1, stS_list] at h6
              unfold ParseRes at h6
              rw [hpar] at h6
              obtain ⟨sp4, c4, e1, e2, _⟩ := h6
              rw [show (⟨h.method, h.path, h.query, h.host, gs⟩ : Hd).fields.length = j from hgl] at e1
              exact ⟨sp4, c4, e1, e2⟩)
            rw [hz3] at hcv
            have g0 := cell_later v3x v0
            have g1x := cell_later v3x v1
            have g2 := cell_later v3x v2
            have g3 := cell_later v3x v3
            have g4 := cell_later v3x v4
            have HGL := hide hgl
            have em : ((stS h.method).toList == (stS h.method).toList) = true := by simp
            have ep : ((stS h.path).toList == (stS h.path).toList) = true := by simp
            have eq' : ((stS h.query).toList == (stS h.query).toList) = true := by simp
            have ex : ((stS h.host).toList == (stS h.host).toList) = true := by simp
            clear hgs hpar hc3 hb3 v3x hz3 ET EQ G1 LP LG v0 v1 v2 v3 zs h20 hgl htl hjn
            generalize (txt h ls).length = ln at *
            generalize stS (txt h ls) = ss at *
            generalize stS h.method = sm at *
            generalize stS h.path = spa at *
            generalize stS h.query = sq at *
            generalize stS h.host = sx at *
            go_wp2_with fail
            refine (unhide PC).mono ?_
            rintro e V4 ⟨⟨sp4, c4, rfl, hf4⟩, v4x⟩
            have F4 := chain F3 v4x
            have a5 : Below V4.heap.size V4 (V4.alloc (.cells #[.string sm, .string spa, .string sq, .string sx, .slice sp4 j c4] 25)) := (Below.refl _ _).alloc (Nat.le_refl _) _
            have F5 := chain F4 a5
            have X5 := heap_new V4 (.cells #[.string sm, .string spa, .string sq, .string sx, .slice sp4 j c4] 25)
            have HF4 := hide (hf4.later a5)
            have i0 := cell_later a5 (cell_later v4x g0)
            have i1 := cell_later a5 (cell_later v4x g1x)
            have i2 := cell_later a5 (cell_later v4x g2)
            have i3 := cell_later a5 (cell_later v4x g3)
            have i4 := cell_later a5 (cell_later v4x g4)
            have l0 := box_cell X5 0 _ rfl
            have l1 := box_cell X5 1 _ rfl
            have l2 := box_cell X5 2 _ rfl
            have l3 := box_cell X5 3 _ rfl
            have l4 := box_cell X5 4 _ rfl
            clear hf4 v4x X5 g0 g1x g2 g3 g4 PC hcv a5
            go_wp2_with fail
            clear i0 i1 i2 i3 l0 l1 l2 l3
            generalize V4.alloc (.cells #[.string sm, .string spa, .string sq, .string sx, .slice sp4 j c4] 25) = V5 at *
            go_loopw [15] (fun i wr => ∃ a : Nat, a ≤ j ∧ i = .int .i64 (a : Int) ∧ Hid (Below V5.heap.size V5 wr)) (fun i _ => j - (intOf i).toNat)
            case atStart => exact ⟨0, by omega, rfl, hide (Below.refl _ _)⟩
            case round =>
              obtain ⟨a, ha, rfl, BX⟩ := hrel
              have FX := hide ((unhide F5).trans ((unhide BX).mono (unhide F5).size))
              have m4 := cell_later (unhide BX) i4
              have n4 := cell_later (unhide BX) l4
              by_cases haj : a < j
              · have y0 : (0 : Int) ≤ (a : Int) := by omega
                have y1 : (a : Int) < (j : Int) := by omega
                have hal : a < h.fields.length := by rw [unhide HN]; exact haj
                have hal2 : a < gs.length := by rw [unhide HGL]; exact haj
                have hfr := (unhide GS).get a hal hal2
                obtain ⟨b1, o1, rfl, r0, r1⟩ := unhide HF a hal
                obtain ⟨b2, o2, rfl, r2, r3⟩ := unhide HF4 a hal2
                have s0 := cell_later (unhide FX) r0
                have s1 := cell_later (unhide FX) r1
                have s2 := cell_later (unhide BX) r2
                have s3 := cell_later (unhide BX) r3
                have hz := unhide HZ _ (List.getElem_mem hal)
                have hw : IntKind.i64.wrap ((a : Int) + 1) = ((a + 1 : Nat) : Int) := by rw [IntKind.wrap_i64]; omega
                clear r0 r1 r2 r3
                generalize h.fields[a] = f at *
                generalize gs[a] = g at *
                obtain ⟨fn, fv⟩ := f
                obtain ⟨gn, gv⟩ := g
                obtain ⟨f1, f2, _, f4⟩ := hfr
                simp only at s0 s1 s2 s3 hz f1 f2 f4
                subst f1
                obtain ⟨hz1, hz2⟩ := hz
                have hhe := host_eq (stS gn)
                rw [stS_list] at hhe
                have zn : (stS gn).size ≤ 9223372036854775807 := by rw [stS_size]; omega
                have zv : (stS fv).size ≤ 9223372036854775807 := by rw [stS_size]; omega
                have enn : ((stS gn).toList == (stS gn).toList) = true := by simp
                have evv : ((stS fv).toList == (stS fv).toList) = true := by simp
                have BD := hide (show ∀ k, Below V5.heap.size V5 (wr.drewN k) from fun k => ⟨(unhide BX).os, (unhide BX).tape, (unhide BX).output, (unhide BX).size, (unhide BX).block⟩)
                cases hhn : (gn == hostName) with
                | true =>
                  rw [hhn] at hhe
                  clear hhn f2 f4
                  go_wp2_with fail
                  go_quiet (fail)
                  go_wp2
                  exact ⟨⟨a + 1, by omega, by first | rfl | (rw [hw]) | go_num, unhide BD _⟩, by simp [intOf]; omega⟩
                | false =>
                  rw [hhn] at hhe
                  obtain rfl : gv = fv := f2 (fun e => by rw [e] at hhn; cases hhn)
                  clear hhn f2 f4
                  go_wp2_with fail
                  go_quiet (fail)
                  go_wp2
                  exact ⟨⟨a + 1, by omega, by first | rfl | (rw [hw]) | go_num, unhide BD _⟩, by simp [intOf]; omega⟩
              · obtain rfl : a = j := by omega
                have hxx : ¬ (a : Int) < (a : Int) := by omega
                have hwl0 : 0 < wl := by omega
                have hwl1 : decide (0 < wl) = true := decide_eq_true hwl0
                go_wp2_with (go_at_call 12; refine (unhide LV _ (unhide FX)).mono ?_; rintro e V9 ⟨rfl, v9⟩; have F9 := chain FX v9)
                go_ret
                exact ⟨rfl, unhide F9⟩
          · have q20 : (2048 : Int) < ((stS (txt h ls)).size : Int) + 2 := by rw [zs]; omega
            clear ET EQ G1 LP LG zs h20
            go_wp2_with (go_at_call 12; refine (unhide LV _ (unhide FB)).mono ?_; rintro e V9 ⟨rfl, v9⟩; have F9 := chain FB v9)
            go_ret
            exact ⟨rfl, unhide F9⟩

set_option maxRecDepth 100000 in
theorem lifted (os : Os) (started : os.Started) (H : Type) (enc : TypeId × Value → H) (F : Stop.Interp) :
    ReturnsInHanded {} Tryd.checked os 8 .any ((Rows.OpenSpec.upto Rows.headLettersSpec).preRow enc Tryd.prog Tryd.f8 Rows.headLettersUptoRow.domain false Rows.headLettersUptoRow.laid) (((Rows.OpenSpec.upto Rows.headLettersSpec).at F).post enc Tryd.prog Tryd.f8 false true false false) := by
  refine returnsInHanded_of_row (C := Tryd.checked) (s := Rows.OpenSpec.upto Rows.headLettersSpec) own started (by kernel_rfl) Tryd.func8
    (witness_rowZ (enc := enc) (C := Tryd.checked) (World.laidAll Tryd.prog os Rows.headLettersUptoRow.laid) #[.agg #[.string ⟨#[]⟩, .string ⟨#[]⟩, .string ⟨#[]⟩, .string ⟨#[]⟩, .slice none 0 0], .int .u32 0] (World.laidAll_os _ _ _) (World.shaped_of_ZipB (by kernel_rfl) (by kernel_rfl)) (by kernel_rfl)
      (OpenSpec.preRow_of_cond 8 (x := ([.agg [.lit (.string []), .lit (.string []), .lit (.string []), .lit (.string []), .nil], .lit (.int .u32 0)], [], [])) (by kernel_rfl) (by kernel_rfl) (fun k hk => by cases hk; kernel_rfl) (by kernel_rfl)
        (by rw [MakeChecks.laidMetH_plain _ _ _ (by kernel_rfl)]; exact laidMet_laidAll _ (by kernel_rfl) (by kernel_rfl)))) ?_
  intro W base args ds gs before hval0 hW hcnd hcond hsz hL hsh _
  have hk := hcond _ rfl
  have hLz : Lz W := lz_of (by rw [MakeChecks.laidMetH_plain _ _ _ (by kernel_rfl)] at hL; exact hL) hsh
  have hval : ∀ (j : Nat) t v, Tryd.f8.params[j]? = some t → args[j]? = some v → Value.okWide Tryd.prog W .any base t v := hval0
  have hW' := hW
  obtain ⟨p, q, hA0, hV, rfl, hfz, hnd⟩ := hW
  have hA : DataW.TrodAll enc Tryd.prog W 0 (fun _ => true) true Tryd.f8.params.toList args.toList ds p := hA0
  rw [Tryd.params8] at hA hval
  obtain ⟨v0, vs0, d0, ds0, p0, q0, hargs, rfl, rfl, h0, r0⟩ := trodAll_cons hA
  obtain ⟨v1, vs1, d1, ds1, p1, q1, rfl, rfl, rfl, h1, r1⟩ := trodAll_cons r0
  obtain ⟨rfl, rfl, rfl⟩ := trodAll_nil r1
  obtain rfl : args = #[v0, v1] := by cases args; simp_all
  obtain ⟨rfl, rfl⟩ := trodVars_none hV
  have k0 := h0
  have lt0 : ∀ x ∈ p0, x.block < W.heap.size := by obtain ⟨m, hm⟩ := k0; exact DataW.trod_lt m _ _ _ hm
  obtain ⟨e0, a0, c0, rfl, hc0, hF0, hu0, hm0⟩ := open_head (hval 0 25 v0 rfl rfl) h0
  have hl0 : HdLe 1048576 e0 := hu0.mono (Nat.le_trans (bulk_mem (List.mem_append_left _ (by simp : d0 ∈ [d0, _]))) (bulk_bound hk))
  obtain ⟨n1, rfl, rfl, rfl, w1⟩ := open_int Tryd.underlying41 (hval 1 41 v1 rfl rfl) h1
  obtain ⟨n1, rfl, hn1⟩ := u32_nat w1
  clear hA0 hval0
  refine (walk e0 a0 c0 n1 W hF0 hl0 hn1 hLz).mono fun e W' ⟨he, bel⟩ => ?_
  subst he
  exact ⟨_, rfl, _, _, _, [], _, [], hW', trodAll_mk1 (shut_bool Tryd.underlying4 _), (trodAll_cons_mk (Below.trod laidOut (by kernel_rfl) (of_decide_eq_true (by kernel_rfl)) k0 bel lt0) (trodAll_cons_mk (shut_int Tryd.underlying41 w1) trodAll_mk0)), rfl, bel.frame _, fun h => by cases h⟩

theorem proved : Rows.HeadLettersUptoSaid :=
  OpenClaim.holds_of_cond 8 Tryd.f8 rfl rfl rfl rfl rfl rfl rfl ⟨rfl, rfl, rfl, rfl, rfl⟩ rfl rfl rfl rfl rfl (by kernel_rfl) Tryd.func8 (by kernel_rfl)
    (of_decide_eq_true (by kernel_rfl)) (by unfold Func.isWrapper; first | (rw [if_pos (by decide +kernel)]; kernel_rfl) | (rw [if_neg (by decide +kernel)]; exact ⟨rfl, rfl⟩))
    (fun os started H enc _ F => by rw [OpenClaim.pre_eq_preRow]; exact lifted os started H enc F)
theorem card : Rows.HeadLettersUptoCardSaid :=
  Claim7.holds_tied_plain_at .later [] _ _ _ _ proved (fun _ h => by cases h) (by kernel_rfl) (fun _ h => by cases h) headLettersUpto_row_tie rfl ⟨rfl, rfl⟩ (by kernel_rfl) rfl
    (fun f fn hf hfn => by
      obtain rfl : f = 8 := Option.some.inj ((show Tryd.prog.funcNamed "tollgate/tollgatelaw09.HeadLetters" = some 8 by kernel_rfl).symm.trans hf) |>.symm
      obtain rfl : fn = Tryd.f8 := (Option.some.inj (Tryd.func8.symm.trans hfn)).symm
      exact ⟨by kernel_rfl, fun j t ht => by
        rw [Tryd.params8] at ht
        have hm : t ∈ [25, 41] := by simpa using Array.mem_of_getElem? ht
        have hall : ([25, 41].all fun u => !Tryd.prog.wantsStandIn u) = true := by kernel_rfl
        exact (show Tryd.prog.wantsStandIn t = false by simpa using List.all_eq_true.1 hall t hm)⟩)
    (by kernel_rfl)
end Go.Proofs.YtmmiadlmdjfepaaDoor.headLettersUpto
namespace Go.Proofs.YtmmiadlmdjfepaaDoor
theorem headLettersUpto_holds : Rows.HeadLettersUptoCardSaid := headLettersUpto.card
#print axioms headLettersUpto_holds
end Go.Proofs.YtmmiadlmdjfepaaDoor
