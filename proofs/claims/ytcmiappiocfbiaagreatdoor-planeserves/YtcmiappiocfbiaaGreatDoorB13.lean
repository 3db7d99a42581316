/- Heads: a head's text is read. -/
import Derived.Test.YtcmiappiocfbiaaGreatDoorB12
import Derived.Shelf.Bytes.SlIndexWhole
import Derived.Lib.SlBytesConst
section
namespace Go.Proofs.YtcmiappiocfbiaaGreatDoor
open Go.ChangeShapes Go.WideShapes Go.ChangeAt Go.RowKit Go.Lib
set_option linter.unusedVariables false

theorem OwnFd.same {base : Nat} {w w' : World} {sp : Option Addr} {c : Nat} {l : List Fd} (h : OwnFd base w sp c l) (hs : ∀ g, base ≤ g → g < w.heap.size → w'.heap[g]? = w.heap[g]?) : OwnFd base w' sp c l := by
  refine ⟨h.1, ?_⟩
  rcases h.2 with hv | ⟨g, cap, cur, hv, hbg, hg, r⟩
  · exact .inl hv
  · exact .inr ⟨g, cap, cur, hv, hbg, (hs g hbg (Array.getElem?_eq_some_iff.1 hg).1).trans hg, r⟩
theorem setO (W : World) (H i g : Nat) (v : Value) (h : g ≠ H) : (W.setCell ⟨H, i, none⟩ v).heap[g]? = W.heap[g]? := heap_setCell_other W ⟨H, i, none⟩ g v h
theorem setN (W : World) (H i : Nat) (v : Value) : (W.setCell ⟨H, i, none⟩ v).heap.size = W.heap.size := by simp [World.setCell]
theorem RC.far {B : Nat} {w : World} {g : Nat} {T : TypeId} {cs : Array Value} {W W' : World} {base : Nat} (h : RC B w g T cs W) (hb : Below base W W') (hg : g < base) (hB : B ≤ base) : RC B w g T cs W' := ⟨(hb.block g hg).trans h.row, h.low, h.base, h.bel.trans (hb.mono hB)⟩
theorem OwnFd.low {base : Nat} {w : World} {sp : Option Addr} {c : Nat} {l : List Fd} (h : OwnFd base w sp c l) : ∀ x, sp = some x → base ≤ x.block := by
  intro x hx
  subst hx
  rcases h.2 with ⟨hv, _⟩ | ⟨g, cap, cur, hv, hbg, hg, r⟩
  · cases hv
  · simp only [Value.slice.injEq, Option.some.injEq] at hv
    rw [hv.1]; exact hbg
theorem FdsAt.set {W : World} {sp : Option Addr} {l : List Fd} (h : FdsAt W sp l) (g i : Nat) (v : Value) (hne : ∀ x, sp = some x → x.block ≠ g) : FdsAt (W.setCell ⟨g, i, none⟩ v) sp l := by
  intro j hj
  obtain ⟨b, off, e, h1, h2⟩ := h j hj
  have hb : b ≠ g := hne _ e
  exact ⟨b, off, e, by rw [World.cell?_setCell_other _ _ _ _ (fun e => hb (by cases e; rfl))]; exact h1, by rw [World.cell?_setCell_other _ _ _ _ (fun e => hb (by cases e; rfl))]; exact h2⟩
def ReadRes (B : Nat) (t : Tx) (e : Ending) (W : World) : Prop := match readL t with
  | some hd => ∃ sp c, e = .returned (.tuple #[.agg #[.string (stS hd.method), .string (stS hd.path), .string (stS hd.query), .string (stS hd.host), .slice sp hd.fields.length c], .bool true]) ∧ FdsAt W sp hd.fields ∧ (∀ x, sp = some x → B ≤ x.block) ∧ hd.fields.length ≤ 4096 ∧ ∀ f ∈ hd.fields, f.name.length ≤ 4096 ∧ f.value.length ≤ 4096
  | none => ∃ a b c d sp n cc, e = .returned (.tuple #[.agg #[.string a, .string b, .string c, .string d, .slice sp n cc], .bool false])
theorem restL_nil (m p q h : Tx) (fs : List Fd) (k : Nat) : restL m p q h fs k [] = match hostOfL fs with
    | none => none
    | some x => some ⟨m, p, q, if h = [] then x else h, fs⟩ := by
  unfold restL
  have : fieldsL k [] = some [] := by cases k <;> rfl
  rw [this]
  simp only [List.append_nil]
  cases hostOfL fs <;> rfl
theorem restL_no (m p q h : Tx) (fs : List Fd) (k : Nat) (rest : Tx) (hr : rest ≠ []) (hk : rest.length ≤ k) (hf : fieldL (cutL crlf rest).1 = none) : restL m p q h fs k rest = none := by
  unfold restL
  cases k with
  | zero => exact absurd (List.eq_nil_of_length_eq_zero (by omega)) hr
  | succ k => unfold fieldsL; rw [if_neg hr, hf]
theorem restL_yes (m p q h : Tx) (fs : List Fd) (k : Nat) (rest : Tx) (hr : rest ≠ []) (hk : rest.length ≤ k) (f : Fd) (hf : fieldL (cutL crlf rest).1 = some f) : ∃ k', k = k' + 1 ∧ restL m p q h fs k rest = restL m p q h (fs ++ [f]) k' (behindL crlf rest) := by
  cases k with
  | zero => exact absurd (List.eq_nil_of_length_eq_zero (by omega)) hr
  | succ k =>
    refine ⟨k, rfl, ?_⟩
    unfold restL
    conv => lhs; unfold fieldsL
    rw [if_neg hr, hf]
    simp only
    cases fieldsL k (behindL crlf rest) with
    | none => rfl
    | some gs => simp [List.append_assoc]
theorem fieldL_len {line : Tx} {f : Fd} (h : fieldL line = some f) : f.name.length ≤ line.length ∧ f.value.length ≤ line.length := by
  unfold fieldL at h
  split at h
  · cases h
    refine ⟨?_, Nat.le_trans (trimS_len _ _) behindL_len⟩
    show (lowL _).length ≤ _
    unfold lowL Lib.toLowerA
    rw [List.length_map]
    exact cutL_len
  · cases h
theorem RdJ.begin {t : Tx} {w W2 : World} (R : RC w.heap.size w w.heap.size 58 #[.string ⟨#[]⟩, .string ⟨#[]⟩, .string ⟨#[]⟩, .string ⟨#[]⟩, .slice none 0 0] W2) (m p q h rest : Tx) (ok : Bool) (hbd : ok = true → h.length ≤ 64) (hlen : rest.length ≤ 4096) (k : Nat) (hk : rest.length ≤ k) (hread : readL t = if ok then restL m p q h [] k rest else none) :
    RdJ t w W2.heap.size (W2.heap.size + 1) (W2.heap.size + 2) rest ok ((W2.alloc (.cells #[.string (stS m), .string (stS p), .string (stS q), .string (stS h), .slice none 0 0] 58)).alloc (.cells #[.string ⟨#[]⟩, .string ⟨#[]⟩] 86)) := by
  have hg := (Array.getElem?_eq_some_iff.1 R.row).1
  have e1 : (W2.alloc (.cells #[.string (stS m), .string (stS p), .string (stS q), .string (stS h), .slice none 0 0] 58)).heap.size = W2.heap.size + 1 := by simp
  refine ⟨(R.alloc _).alloc _, hg, by omega, by omega, by simp, ⟨_, _, by rw [← e1]; exact heap_new _ _⟩, ⟨m, p, q, h, none, 0, [], k, ?_, OwnFd.ofNil _ _, fun e => ⟨hbd e, fun f hf => by cases hf⟩, by simpa using hlen, hk, hread⟩⟩
  rw [Below.heap_alloc _ _ _ (by rw [e1]; omega)]
  exact heap_new _ _
/-- The world in which a field is appended. -/
def W3of (W2 : World) (F : Nat) (f : Fd) : World := ((W2.setCell ⟨F, 0, none⟩ (.string (stS f.name))).setCell ⟨F, 1, none⟩ (.string (stS f.value))).alloc (.cells #[.string (stS f.name), .string (stS f.value)] 86)
theorem W3_size (W2 : World) (F : Nat) (f : Fd) : (W3of W2 F f).heap.size = W2.heap.size + 1 := by unfold W3of; simp
theorem W3_low (W2 : World) (F : Nat) (f : Fd) (g : Nat) (hg : g < W2.heap.size) (hne : g ≠ F) : (W3of W2 F f).heap[g]? = W2.heap[g]? := by
  unfold W3of; rw [Below.heap_alloc _ _ _ (by rw [setN, setN]; exact hg), setO _ _ _ _ _ hne, setO _ _ _ _ _ hne]
theorem W3_new (W2 : World) (F : Nat) (f : Fd) : (W3of W2 F f).heap[W2.heap.size]? = some (.cells (rowsFd [f]).toArray 86 (0, 0)) := by
  have e : ((W2.setCell ⟨F, 0, none⟩ (.string (stS f.name))).setCell ⟨F, 1, none⟩ (.string (stS f.value))).heap.size = W2.heap.size := by rw [setN, setN]
  rw [← e]; exact heap_new _ _
theorem W3_F (W2 : World) (F : Nat) (f : Fd) (x y : Value) (h : W2.heap[F]? = some (.cells #[x, y] 86 (0, 0))) : (W3of W2 F f).heap[F]? = some (.cells #[.string (stS f.name), .string (stS f.value)] 86 (0, 0)) := by
  unfold W3of
  rw [Below.heap_alloc _ _ _ (by rw [setN, setN]; exact (Array.getElem?_eq_some_iff.1 h).1)]
  exact heap_setCell_same _ F 1 _ _ _ (heap_setCell_same W2 F 0 _ _ _ h)
theorem RdJ.own3 {t : Tx} {w : World} {H F base : Nat} {rest : Tx} {ok : Bool} {W W2 : World} (J : RdJ t w H F base rest ok W) (hb : Below W.heap.size W W2) (f : Fd) {sp : Option Addr} {c : Nat} {fs : List Fd} (ho : OwnFd base W sp c fs) : OwnFd base (W3of W2 F f) sp c fs :=
  (ho.below hb).same (fun g hg hl => W3_low W2 F f g hl (by have := J.blo; omega))
theorem RdJ.next {t : Tx} {w : World} {H F base : Nat} {rest : Tx} {W W2 W4 : World} (J : RdJ t w H F base rest true W) (hb : Below W.heap.size W W2) (f : Fd) {m p q h : Tx} {sp : Option Addr} {c : Nat} {fs : List Fd} {x y : Value}
    (hrow : W.heap[H]? = some (.cells #[.string (stS m), .string (stS p), .string (stS q), .string (stS h), .slice sp fs.length c] 58 (0, 0))) (frow : W.heap[F]? = some (.cells #[x, y] 86 (0, 0)))
    {sp4 : Option Addr} {c4 n : Nat} (hn : fs.length = n) (ho4 : OwnFd base W4 sp4 c4 (fs ++ [f])) (hb4 : Below base (W3of W2 F f) W4) (rest' : Tx) (ok' : Bool) (k' : Nat)
    (hbd : ok' = true → h.length ≤ 64 ∧ ∀ g ∈ fs ++ [f], g.name.length ≤ 4096 ∧ g.value.length ≤ 4096) (hlen : n + 1 + rest'.length ≤ 4096) (hk : rest'.length ≤ k') (hread : readL t = if ok' then restL m p q h (fs ++ [f]) k' rest' else none) :
    RdJ t w H F base rest' ok' (W4.setCell ⟨H, 4, none⟩ (.slice sp4 (n + 1) c4)) := by
  have h1 := J.hlo; have h2 := J.flo; have h3 := J.blo; have h4 := J.bhi
  have hHl : H < W2.heap.size := by have := hb.size; omega
  have hFl : F < W2.heap.size := by have := hb.size; omega
  have hH4 : W4.heap[H]? = some (.cells #[.string (stS m), .string (stS p), .string (stS q), .string (stS h), .slice sp fs.length c] 58 (0, 0)) := by
    rw [hb4.block H (by omega), W3_low W2 F f H hHl (by omega)]; exact later_block hb hrow
  have hF4 : W4.heap[F]? = some (.cells #[.string (stS f.name), .string (stS f.value)] 86 (0, 0)) := by
    rw [hb4.block F (by omega)]; exact W3_F W2 F f x y (later_block hb frow)
  refine ⟨?_, h1, h2, h3, ?_, ⟨stS f.name, stS f.value, ?_⟩, ⟨m, p, q, h, sp4, c4, fs ++ [f], k', ?_, ?_, hbd, ?_, hk, hread⟩⟩
  · have r2 := J.res.later hb
    have r3 : RC w.heap.size w w.heap.size 58 zero5 (W3of W2 F f) := ((r2.other F 0 _ (by omega) (by omega)).other F 1 _ (by omega) (by omega)).alloc _
    exact (r3.far hb4 (by omega) (by omega)).other H 4 _ (by omega) (by omega)
  · rw [setN]; have := hb4.size; rw [W3_size] at this; have := hb.size; omega
  · rw [setO _ _ _ _ _ (by omega)]; exact hF4
  · have e : (fs ++ [f]).length = n + 1 := by rw [List.length_append, hn]; rfl
    rw [e]
    exact heap_setCell_same W4 H 4 _ _ _ hH4
  · exact ho4.same (fun g hg hl => setO _ _ _ _ _ (by omega))
  · rw [List.length_append, hn]; exact hlen
def yesP (t m p q h : Tx) (fs : List Fd) (fn fv rest' : Tx) (okf : Bool) : Prop := okf = true → ∃ k', rest'.length ≤ k' ∧ (h.length ≤ 64 ∧ ∀ g ∈ fs ++ [⟨fn, fv⟩], g.name.length ≤ 4096 ∧ g.value.length ≤ 4096) ∧ readL t = restL m p q h (fs ++ [⟨fn, fv⟩]) k' rest'
def noP (t : Tx) (okf : Bool) : Prop := okf = false → readL t = none
def rdInv (s : ByteArray) (w : World) (a : Act) (W : World) : Prop := ∃ H F base rest ok, RdA s w H F rest ok a ∧ RdJ s.data.toList w H F base rest ok W
theorem head_nil (t : Tx) : ((stS t).toList == []) = t.isEmpty := by rw [str_nil, stS_list]
set_option maxRecDepth 40000 in
set_option maxHeartbeats 16000000 in
theorem read_calls (s : ByteArray) (hs : s.size ≤ 2060) (w : World) (hz : Lz w) : Calls Tryz.prog 51 #[.string s] w fun e w' => ReadRes w.heap.size s.data.toList e w' ∧ Below w.heap.size w w' := by
  have HZ := hide hz
  clear hz
  have R0 := hide (RC.new w 58 zero5)
  unfold zero5 at R0
  go_enter Tryz.func51, Tryz.ntmps51
  go_wp2_with fail
  refine wp_scope_two (rdInv s w) RdM rfl rfl ?_ ?_
  · rintro a W ⟨H, F, base, rest, ok, ⟨u1, u4, u6, u10, u11, u12, u13, u14, u15, u16, u17, u18, u19, u20, u21, u22, u23, u24, u25, u26, u27, u28, u29, u30, u31, u32, u33, u34, u35, u36, u37, u38, u39, u40, u41, u42, u43, u44, u45, u46, u47, u48, u49, u50, u51, u52, u53, u54, u55, u56, rfl⟩, J⟩
    have JH := hide J
    obtain ⟨m, p, q, h, sp, c, fs, k, hrow, hown, hbd, hlen, hk, hread⟩ := J.hrow
    obtain ⟨x0, y0, frow⟩ := J.frow
    have HR := hide hread
    have HO := hide hown
    have HW := hide hrow
    have HF := hide frow
    have HK := hide hk
    have HB := hide hbd
    have LZ := hide ((unhide HZ).later J.res.bel)
    clear J hread hown hrow frow hk hbd
    cases ok with
    | false =>
      have z0 := (unhide JH).res.cell 0 (.string ⟨#[]⟩) rfl
      have z1 := (unhide JH).res.cell 1 (.string ⟨#[]⟩) rfl
      have z2 := (unhide JH).res.cell 2 (.string ⟨#[]⟩) rfl
      have z3 := (unhide JH).res.cell 3 (.string ⟨#[]⟩) rfl
      have z4 := (unhide JH).res.cell 4 (.slice none 0 0) rfl
      have f0 := (unhide JH).res.froz 0
      have f1 := (unhide JH).res.froz 1
      have f2 := (unhide JH).res.froz 2
      have f3 := (unhide JH).res.froz 3
      have f4 := (unhide JH).res.froz 4
      have EE := hide (show readL s.data.toList = none by rw [unhide HR]; rfl)
      go_wp2_with fail
      have R9 := RC.set5 (show RC w.heap.size w w.heap.size 58 #[.string ⟨#[]⟩, .string ⟨#[]⟩, .string ⟨#[]⟩, .string ⟨#[]⟩, .slice none 0 0] W from (unhide JH).res) (.string ⟨#[]⟩) (.string ⟨#[]⟩) (.string ⟨#[]⟩) (.string ⟨#[]⟩) (.slice none 0 0)
      have g0 := R9.cell 0 (.string ⟨#[]⟩) rfl
      have g1 := R9.cell 1 (.string ⟨#[]⟩) rfl
      have g2 := R9.cell 2 (.string ⟨#[]⟩) rfl
      have g3 := R9.cell 3 (.string ⟨#[]⟩) rfl
      have g4 := R9.cell 4 (.slice none 0 0) rfl
      simp (config := { zetaDelta := true }) only [Exit2]
      refine bodyPost_ret (v := .tuple #[.agg #[.string ⟨#[]⟩, .string ⟨#[]⟩, .string ⟨#[]⟩, .string ⟨#[]⟩, .slice none 0 0], .bool false]) ?_ rfl ⟨by unfold ReadRes; rw [unhide EE]; exact ⟨_, _, _, _, _, _, _, rfl⟩, R9.bel⟩
      rw [results_cell_tmp rfl]
      go_simp
      try rfl
    | true =>
      by_cases hr : rest = []
      · subst hr
        have he : ((stS ([] : Tx)).toList == []) = true := head_nil []
        have hsz0 : (stS ([] : Tx)).size ≤ 9223372036854775807 := by decide
        go_wp2_with fail
        refine wp_goto ?_
        refine Or.inr ⟨rfl, ?_⟩
        have HD := hide (show ∀ U, Below W.heap.size W U → Calls Tryz.prog 69 #[.slice sp fs.length c] U fun e w' => e = .returned (hostOfV fs) ∧ Below U.heap.size U w' from fun U hb => hostOf_calls sp c fs fs.length U rfl (by simp [maxLen]; omega) (fun f hf => by have := (unhide HB trivial).2 f hf; simp only [maxLen]; omega) ((unhide HO).at_.later hb))
        have c4 := box_cell (unhide HW) 4 (.slice sp fs.length c) rfl
        have EV := hide (show hostOfV fs = .tuple #[.string (stS ((hostL (seenV fs)).getD [])), .bool (hostsOk fs)] from rfl)
        rw [unhide EV] at HD
        have ER := hide (show readL s.data.toList = match hostOfL fs with
          | none => none
          | some x => some ⟨m, p, q, if h = [] then x else h, fs⟩ by rw [unhide HR]; exact restL_nil m p q h fs k)
        have EY := hide (show hostsOk fs = true → hostOfL fs = some ((hostL (seenV fs)).getD []) from hostOf_yes)
        have EN := hide (show hostsOk fs = false → hostOfL fs = none from hostOf_no)
        generalize (hostL (seenV fs)).getD [] = hx at *
        generalize hostsOk fs = okh at *
        generalize hn : fs.length = n at *
        have hhn := head_nil h
        have hhs : (stS h).size ≤ 9223372036854775807 := by rw [stS_size]; have := (unhide HB trivial).1; omega
        have hne1 : ¬ H = w.heap.size := by have := (unhide JH).hlo; omega
        have hne2 : ¬ w.heap.size = H := by have := (unhide JH).hlo; omega
        have HLO := hide (Nat.le_of_lt (unhide JH).hlo)
        have G0 := hide (show ∀ g, base ≤ g → g ≠ w.heap.size from fun g hg => by have := (unhide JH).hlo; have := (unhide JH).flo; have := (unhide JH).blo; omega)
        have G1 := hide (show ∀ g, base ≤ g → g ≠ H from fun g hg => by have := (unhide JH).flo; have := (unhide JH).blo; omega)
        have LOW := hide (show ∀ x, sp = some x → w.heap.size ≤ x.block from fun x hx => by have := (unhide HO).low x hx; have := (unhide JH).hlo; have := (unhide JH).flo; have := (unhide JH).blo; omega)
        have FL := hide (show fs.length ≤ 4096 ∧ ∀ f ∈ fs, f.name.length ≤ 4096 ∧ f.value.length ≤ 4096 from ⟨by omega, (unhide HB trivial).2⟩)
        cases hh : h.isEmpty with
        | true =>
          rw [hh] at hhn
          have hhe : h = [] := List.isEmpty_iff.1 hh
          have HHE := hide hhe
          clear hhe hh
          go_wp2_with (first | (go_at_call 69; refine (unhide HD _ (Below.refl _ _)).mono ?_; rintro e W1 ⟨rfl, hb1⟩
                                have HB1 := hide hb1
                                have N1 := hide (later_block hb1 (unhide HW))
                                have R1 := hide ((unhide JH).res.later hb1)
                                have c0 := box_cell (unhide N1) 0 (.string (stS m)) rfl
                                have c1 := box_cell (unhide N1) 1 (.string (stS p)) rfl
                                have c2 := box_cell (unhide N1) 2 (.string (stS q)) rfl
                                have c3 := box_cell (unhide N1) 3 (.string (stS h)) rfl
                                have c4 := box_cell (unhide N1) 4 (.slice sp n c) rfl
                                have fz3 : W1.frozen? ⟨H, 3, none⟩ = false := by simp [World.frozen?, unhide N1]
                                have z0 := (unhide R1).cell 0 (.string ⟨#[]⟩) rfl
                                have z1 := (unhide R1).cell 1 (.string ⟨#[]⟩) rfl
                                have z2 := (unhide R1).cell 2 (.string ⟨#[]⟩) rfl
                                have z3 := (unhide R1).cell 3 (.string ⟨#[]⟩) rfl
                                have z4 := (unhide R1).cell 4 (.slice none 0 0) rfl
                                have f0 := (unhide R1).froz 0
                                have f1 := (unhide R1).froz 1
                                have f2 := (unhide R1).froz 2
                                have f3 := (unhide R1).froz 3
                                have f4 := (unhide R1).froz 4))
          have R9 := RC.set5 (((show RC w.heap.size w w.heap.size 58 #[.string ⟨#[]⟩, .string ⟨#[]⟩, .string ⟨#[]⟩, .string ⟨#[]⟩, .slice none 0 0] W1 from unhide R1).other H 3 (.string (stS hx)) hne2 (unhide HLO))) (.string (stS m)) (.string (stS p)) (.string (stS q)) (.string (stS hx)) (.slice sp n c)
          have g0 := R9.cell 0 (.string (stS m)) rfl
          have g1 := R9.cell 1 (.string (stS p)) rfl
          have g2 := R9.cell 2 (.string (stS q)) rfl
          have g3 := R9.cell 3 (.string (stS hx)) rfl
          have g4 := R9.cell 4 (.slice sp n c) rfl
          simp (config := { zetaDelta := true }) only [Exit.noGoto]
          refine bodyPost_ret (v := .tuple #[.agg #[.string (stS m), .string (stS p), .string (stS q), .string (stS hx), .slice sp n c], .bool okh]) ?_ rfl ⟨?_, R9.bel⟩
          · rw [results_cell_tmp rfl]
            go_simp
            try rfl
          · unfold ReadRes
            rw [unhide ER]
            cases okh with
            | true =>
              rw [unhide EY rfl]
              refine ⟨sp, c, by rw [hn]; simp only [unhide HHE, if_true], (OwnFd.same ((unhide HO).below (unhide HB1)) (fun g hg hl => ?_)).at_, unhide LOW, unhide FL⟩
              rw [setO _ _ _ _ _ (unhide G0 g hg), setO _ _ _ _ _ (unhide G0 g hg), setO _ _ _ _ _ (unhide G0 g hg), setO _ _ _ _ _ (unhide G0 g hg), setO _ _ _ _ _ (unhide G0 g hg), setO _ _ _ _ _ (unhide G1 g hg)]
            | false =>
              rw [unhide EN rfl]
              exact ⟨_, _, _, _, _, _, _, rfl⟩
        | false =>
          rw [hh] at hhn
          have HHE := hide (show ¬ h = [] from fun e => by rw [e] at hh; cases hh)
          clear hh
          go_wp2_with (first | (go_at_call 69; refine (unhide HD _ (Below.refl _ _)).mono ?_; rintro e W1 ⟨rfl, hb1⟩
                                have HB1 := hide hb1
                                have N1 := hide (later_block hb1 (unhide HW))
                                have R1 := hide ((unhide JH).res.later hb1)
                                have c0 := box_cell (unhide N1) 0 (.string (stS m)) rfl
                                have c1 := box_cell (unhide N1) 1 (.string (stS p)) rfl
                                have c2 := box_cell (unhide N1) 2 (.string (stS q)) rfl
                                have c3 := box_cell (unhide N1) 3 (.string (stS h)) rfl
                                have c4 := box_cell (unhide N1) 4 (.slice sp n c) rfl
                                have fz3 : W1.frozen? ⟨H, 3, none⟩ = false := by simp [World.frozen?, unhide N1]
                                have z0 := (unhide R1).cell 0 (.string ⟨#[]⟩) rfl
                                have z1 := (unhide R1).cell 1 (.string ⟨#[]⟩) rfl
                                have z2 := (unhide R1).cell 2 (.string ⟨#[]⟩) rfl
                                have z3 := (unhide R1).cell 3 (.string ⟨#[]⟩) rfl
                                have z4 := (unhide R1).cell 4 (.slice none 0 0) rfl
                                have f0 := (unhide R1).froz 0
                                have f1 := (unhide R1).froz 1
                                have f2 := (unhide R1).froz 2
                                have f3 := (unhide R1).froz 3
                                have f4 := (unhide R1).froz 4))
          have R9 := RC.set5 ((show RC w.heap.size w w.heap.size 58 #[.string ⟨#[]⟩, .string ⟨#[]⟩, .string ⟨#[]⟩, .string ⟨#[]⟩, .slice none 0 0] W1 from unhide R1)) (.string (stS m)) (.string (stS p)) (.string (stS q)) (.string (stS h)) (.slice sp n c)
          have g0 := R9.cell 0 (.string (stS m)) rfl
          have g1 := R9.cell 1 (.string (stS p)) rfl
          have g2 := R9.cell 2 (.string (stS q)) rfl
          have g3 := R9.cell 3 (.string (stS h)) rfl
          have g4 := R9.cell 4 (.slice sp n c) rfl
          simp (config := { zetaDelta := true }) only [Exit.noGoto]
          refine bodyPost_ret (v := .tuple #[.agg #[.string (stS m), .string (stS p), .string (stS q), .string (stS h), .slice sp n c], .bool okh]) ?_ rfl ⟨?_, R9.bel⟩
          · rw [results_cell_tmp rfl]
            go_simp
            try rfl
          · unfold ReadRes
            rw [unhide ER]
            cases okh with
            | true =>
              rw [unhide EY rfl]
              refine ⟨sp, c, by rw [hn]; simp only [if_neg (unhide HHE)], (OwnFd.same ((unhide HO).below (unhide HB1)) (fun g hg hl => ?_)).at_, unhide LOW, unhide FL⟩
              rw [setO _ _ _ _ _ (unhide G0 g hg), setO _ _ _ _ _ (unhide G0 g hg), setO _ _ _ _ _ (unhide G0 g hg), setO _ _ _ _ _ (unhide G0 g hg), setO _ _ _ _ _ (unhide G0 g hg)]
            | false =>
              rw [unhide EN rfl]
              exact ⟨_, _, _, _, _, _, _, rfl⟩
      · have he : ((stS rest).toList == []) = false := by
          rw [head_nil]
          cases rest with
          | nil => exact absurd rfl hr
          | cons a b => rfl
        have hsz0 : (stS rest).size ≤ 9223372036854775807 := by rw [stS_size]; omega
        have hll : (cutL crlf rest).1.length ≤ rest.length := cutL_len
        have hlb : (behindL crlf rest).length < rest.length := behindL_lt (by decide) hr
        have CU := hide (show ∀ U, Lz U → Calls Tryz.prog 66 #[.string (stS rest), .string ⟨#[13, 10]⟩] U fun e w' => e = .returned (.tuple #[.string (stS (cutL crlf rest).1), .string (stS (behindL crlf rest)), .bool (cutL crlf rest).2.isSome]) ∧ Below U.heap.size U w' from fun U hz => cut2_calls (stS rest) ⟨#[13, 10]⟩ (by decide) (by rw [stS_size]; omega) U hz)
        have RF := hide (show ∀ U, Lz U → Calls Tryz.prog 68 #[.string (stS (cutL crlf rest).1)] U fun e w' => e = .returned (fieldV (cutL crlf rest).1) ∧ Below U.heap.size U w' from fun U hz => readField_calls (stS (cutL crlf rest).1) (by rw [stS_size]; omega) U hz)
        have YES := hide (show yesP s.data.toList m p q h fs (Lib.toLowerD (cutL [58] (cutL crlf rest).1).1) (trimB (behindL [58] (cutL crlf rest).1)) (behindL crlf rest) (fieldOk (cutL crlf rest).1) from fun hok => by
          have hf := fieldL_yes hok
          obtain ⟨k', hk', hrs⟩ := restL_yes m p q h fs k rest hr (unhide HK) _ hf
          have hfl := fieldL_len hf
          refine ⟨k', by have := unhide HK; omega, ⟨(unhide HB rfl).1, fun g hg => ?_⟩, by rw [unhide HR, if_pos rfl]; exact hrs⟩
          rcases List.mem_append.1 hg with hg | hg
          · exact (unhide HB rfl).2 g hg
          · rw [List.mem_singleton.1 hg]; exact ⟨by have := hfl.1; omega, by have := hfl.2; omega⟩)
        have NO := hide (show noP s.data.toList (fieldOk (cutL crlf rest).1) from fun hok => by
          rw [unhide HR, if_pos rfl]; exact restL_no m p q h fs k rest hr (unhide HK) (fieldL_no hok))
        unfold fieldV at RF
        generalize Lib.toLowerD (cutL [58] (cutL crlf rest).1).1 = fn at *
        generalize trimB (behindL [58] (cutL crlf rest).1) = fv at *
        generalize fieldOk (cutL crlf rest).1 = okf at *
        generalize (cutL crlf rest).2.isSome = d at *
        generalize (cutL crlf rest).1 = line at *
        generalize behindL crlf rest = rest' at *
        generalize hn : fs.length = n at *
        have hmu := hide (show rest'.length < rest.length from hlb)
        have hneFH : ¬ F = H := by have := (unhide JH).flo; omega
        have hneHF : ¬ H = F := by have := (unhide JH).flo; omega
        go_wp2_with (first
          | (go_at_call 66; refine (unhide CU _ (unhide LZ)).mono ?_; rintro e W1 ⟨rfl, hb1⟩; have B1 := hide hb1; clear hb1)
          | (go_at_call 68; refine (unhide RF _ ((unhide LZ).later (unhide B1))).mono ?_; rintro e W2 ⟨rfl, hb2⟩
             have B2 := chain B1 hb2
             clear hb2
             have NF := hide (later_block (unhide B2) (unhide HF))
             have NH := hide (later_block (unhide B2) (unhide HW))
             have a0 := box_cell (unhide NF) 0 (.string x0) rfl
             have a1 := box_cell (unhide NF) 1 (.string y0) rfl
             have b0 : W2.frozen? ⟨F, 0, none⟩ = false := by simp [World.frozen?, unhide NF]
             have b1 : W2.frozen? ⟨F, 1, none⟩ = false := by simp [World.frozen?, unhide NF]
             have c4 := box_cell (unhide NH) 4 (.slice sp n c) rfl
             have OA := hide ((unhide JH).own3 (unhide B2) ⟨fn, fv⟩ (unhide HO))
             have XA := hide (W3_new W2 F ⟨fn, fv⟩)
             have BA := hide (show base ≤ (W3of W2 F ⟨fn, fv⟩).heap.size by rw [W3_size]; have := (unhide JH).bhi; have := (unhide B2).size; omega)
             have HH := hide (show (W3of W2 F ⟨fn, fv⟩).heap[H]? = _ from (W3_low W2 F ⟨fn, fv⟩ H (Array.getElem?_eq_some_iff.1 (unhide NH)).1 hneHF).trans (unhide NH)))
          | (at_builtin; refine unhide ?_))
        refine hide ?_
        have hW3 : ((W2.setCell ⟨F, 0, none⟩ (.string (stS fn))).setCell ⟨F, 1, none⟩ (.string (stS fv))).alloc (.cells #[.string (stS fn), .string (stS fv)] 86) = W3of W2 F ⟨fn, fv⟩ := rfl
        rw [hW3]
        clear hW3
        obtain ⟨W3, hW3⟩ : ∃ W3, W3of W2 F ⟨fn, fv⟩ = W3 := ⟨_, rfl⟩
        have E3 := hide hW3
        rw [hW3] at OA XA BA HH ⊢
        clear hW3
        refine wpList_appendFd rfl (.tmp 39) (.tmp 41) rfl base sp n c fs rfl hn (unhide OA) W2.heap.size [⟨fn, fv⟩] 1 rfl rfl (unhide XA) (by omega) (unhide BA) ?_
        intro sp4 c4' W4 ho4 hb4
        have O4 := hide ho4
        have B4 := hide (show Below base (W3of W2 F ⟨fn, fv⟩) W4 by rw [unhide E3]; exact hb4)
        have NH4 := hide ((hb4.block H (by have := (unhide JH).flo; have := (unhide JH).blo; omega)).trans (unhide HH))
        have e4 := box_cell (unhide NH4) 4 (.slice sp n c) rfl
        have e4f : W4.frozen? ⟨H, 4, none⟩ = false := by simp [World.frozen?, unhide NH4]
        clear ho4 hb4 OA XA BA HH E3
        go_wp2_with fail
        refine wp_goto ?_
        refine Or.inl ⟨rfl, ⟨H, F, base, rest', okf, ⟨_, _, _, _, _, _, _, _, _, _, _, _, _, _, _, _, _, _, _, _, _, _, _, _, _, _, _, _, _, _, _, _, _, _, _, _, _, _, _, _, _, _, _, _, _, _, _, _, _, _, rfl⟩, ?_⟩, ?_⟩
        · subst hn
          cases okf with
          | true =>
            obtain ⟨k', y1, y2, y3⟩ := unhide YES rfl
            exact (unhide JH).next (unhide B2) ⟨fn, fv⟩ (unhide HW) (unhide HF) rfl (unhide O4) (unhide B4) rest' true k' (fun _ => y2) (by have := unhide hmu; omega) y1 (by rw [y3]; rfl)
          | false =>
            exact (unhide JH).next (unhide B2) ⟨fn, fv⟩ (unhide HW) (unhide HF) rfl (unhide O4) (unhide B4) rest' false rest'.length (fun e => by cases e) (by have := unhide hmu; omega) (Nat.le_refl _) (by rw [unhide NO rfl]; rfl)
        · exact unhide hmu
  · intro HL0
    have HL := hide HL0
    clear HL0
    have LZ0 := hide ((unhide HZ).later (unhide R0).bel)
    have CU := hide (show ∀ U, Lz U → Calls Tryz.prog 66 #[.string s, .string ⟨#[13, 10]⟩] U fun e w' => e = .returned (.tuple #[.string (stS (cutL crlf s.data.toList).1), .string (stS (behindL crlf s.data.toList)), .bool (cutL crlf s.data.toList).2.isSome]) ∧ Below U.heap.size U w' from fun U hz => cut2_calls s ⟨#[13, 10]⟩ (by decide) (by omega) U hz)
    have hll : (cutL crlf s.data.toList).1.length ≤ s.size := by have := @cutL_len crlf s.data.toList; simpa using this
    have RQ0 := hide (fun U => readRequest_calls (stS (cutL crlf s.data.toList).1) (by rw [stS_size]; omega) U)
    rw [stS_list] at RQ0
    cases hq : requestL (cutL crlf s.data.toList).1 with
    | none =>
      have EQ := hide (show readL s.data.toList = none by unfold readL; rw [hq])
      have RQ := hide (show ∀ U, Calls Tryz.prog 67 #[.string (stS (cutL crlf s.data.toList).1)] U fun e w' => (∃ m p q h : Tx, e = .returned (.tuple #[.agg #[.string (stS m), .string (stS p), .string (stS q), .string (stS h), .slice none 0 0], .bool false])) ∧ Below U.heap.size U w' from fun U => (unhide RQ0 U).mono fun e w' h => by
        obtain ⟨⟨v, rfl, hv⟩, hb⟩ := h
        unfold requestV at hv; rw [hq] at hv
        obtain ⟨m, p, q, h, rfl⟩ := hv
        exact ⟨⟨m, p, q, h, rfl⟩, hb⟩)
      clear RQ0 hq
      go_wp2_with (first
        | (go_at_call 66; refine (unhide CU _ (unhide LZ0)).mono ?_; rintro e W1 ⟨rfl, hb1⟩; have R1 := hide ((unhide R0).later hb1); clear hb1)
        | (go_at_call 67; refine (unhide RQ _).mono ?_; rintro e W2 ⟨⟨m, p, q, h, rfl⟩, hb2⟩; have R2 := hide ((unhide R1).later hb2); clear hb2))
      refine wp_label ?_
      rename_i hK
      refine hK _ _ ?_
      refine unhide HL _ _ ⟨W2.heap.size, W2.heap.size + 1, W2.heap.size + 2, behindL crlf s.data.toList, false, ⟨_, _, _, _, _, _, _, _, _, _, _, _, _, _, _, _, _, _, _, _, _, _, _, _, _, _, _, _, _, _, _, _, _, _, _, _, _, _, _, _, _, _, _, _, _, _, _, _, _, _, rfl⟩, ?_⟩
      exact RdJ.begin (unhide R2) m p q h _ false (fun e => by cases e) (by have := @behindL_len crlf s.data.toList; simp at this; omega) s.data.toList.length (by exact behindL_len) (unhide EQ)
    | some x =>
      obtain ⟨m, p, q, h⟩ := x
      have HL64 := hide (requestL_len hq)
      have EQ := hide (show readL s.data.toList = restL m p q h [] s.data.toList.length (behindL crlf s.data.toList) by unfold readL; rw [hq]; rfl)
      have RQ := hide (show ∀ U, Calls Tryz.prog 67 #[.string (stS (cutL crlf s.data.toList).1)] U fun e w' => e = .returned (.tuple #[.agg #[.string (stS m), .string (stS p), .string (stS q), .string (stS h), .slice none 0 0], .bool true]) ∧ Below U.heap.size U w' from fun U => (unhide RQ0 U).mono fun e w' h => by
        obtain ⟨⟨v, rfl, hv⟩, hb⟩ := h
        unfold requestV at hv; rw [hq] at hv
        subst hv
        exact ⟨rfl, hb⟩)
      clear RQ0 hq
      go_wp2_with (first
        | (go_at_call 66; refine (unhide CU _ (unhide LZ0)).mono ?_; rintro e W1 ⟨rfl, hb1⟩; have R1 := hide ((unhide R0).later hb1); clear hb1)
        | (go_at_call 67; refine (unhide RQ _).mono ?_; rintro e W2 ⟨rfl, hb2⟩; have R2 := hide ((unhide R1).later hb2); clear hb2))
      refine wp_label ?_
      rename_i hK
      refine hK _ _ ?_
      refine unhide HL _ _ ⟨W2.heap.size, W2.heap.size + 1, W2.heap.size + 2, behindL crlf s.data.toList, true, ⟨_, _, _, _, _, _, _, _, _, _, _, _, _, _, _, _, _, _, _, _, _, _, _, _, _, _, _, _, _, _, _, _, _, _, _, _, _, _, _, _, _, _, _, _, _, _, _, _, _, _, rfl⟩, ?_⟩
      exact RdJ.begin (unhide R2) m p q h _ true (fun _ => unhide HL64) (by have := @behindL_len crlf s.data.toList; simp at this; omega) s.data.toList.length (by exact behindL_len) (unhide EQ)
end Go.Proofs.YtcmiappiocfbiaaGreatDoor
end
/- Heads: what Parse answers. -/
section
namespace Go.Proofs.YtcmiappiocfbiaaGreatDoor
open Go.ChangeShapes Go.WideShapes Go.ChangeAt Go.RowKit Go.Lib
set_option linter.unusedVariables false

/-- Bytes as letters. -/
def txN (l : List Nat) : Tx := l.map UInt8.ofNat
theorem txN_len (l : List Nat) : (txN l).length = l.length := List.length_map _
theorem strOf_tx (l : List Nat) : strOf l = stS (txN l) := rfl
theorem bytesOf_tx (l : List Nat) (hl : ∀ c ∈ l, c < 256) : Lib.bytesOf (l.map Int.ofNat) = txN l := by
  unfold Lib.bytesOf txN
  rw [List.map_map]
  refine List.map_congr_left fun c hc => ?_
  simp
/-- What Parse answers. -/
def ParseRes (t : Tx) (e : Ending) (W : World) : Prop := match parseL t with
  | .ok hd at_ => ∃ sp c, e = .returned (.tuple #[.agg #[.string (stS hd.method), .string (stS hd.path), .string (stS hd.query), .string (stS hd.host), .slice sp hd.fields.length c], .int .i64 (at_ : Int), .int .i64 0]) ∧ FdsAt W sp hd.fields ∧ hd.fields.length ≤ 32 ∧ ∀ f ∈ hd.fields, f.name.length ≤ 4096 ∧ f.value.length ≤ 4096
  | .bad n => e = .returned (.tuple #[.agg #[.string ⟨#[]⟩, .string ⟨#[]⟩, .string ⟨#[]⟩, .string ⟨#[]⟩, .slice none 0 0], .int .i64 0, .int .i64 (n : Int)])
theorem results_cell_tmp2 {fn : Func} {p u v : Tmp} {ty : TypeId} (h : fn.results = #[.cell p ty, .tmp u, .tmp v]) (tmps : Array Value) (P : Program) (w : World) :
    (results fn tmps).run P w = ((asAddr (tmps.getD p undef)).run P w).andThen fun a w1 => ((loadVar ty a).run P w1).andThen fun x w2 => .ok (.tuple #[x, tmps.getD u undef, tmps.getD v undef]) w2 := by
  simp only [results, h]
  simp [Sem.run_bind, Result.andThen]
def sepN : List Nat := [13, 10, 13, 10]
theorem index_calls {W : World} {a : Option Addr} {l : List Nat} {n c B : Nat} (hn : l.length = n) (hc : n ≤ c) (hs : n ≤ 2048) (hz : a = none → c = 0) (hb : BytesAt W a l) (h2 : BytesAt W (some ⟨B, 0, none⟩) sepN) (hL : Lz W) :
    Calls Tryz.prog 50 #[.slice a n c, .slice (some ⟨B, 0, none⟩) 4 4] W fun e w' => e = .returned (.int .i64 (Lib.index (txN l) (crlf ++ crlf))) ∧ Below W.heap.size W w' := by
  cases a with
  | none =>
    have hc0 := hz rfl
    subst hc0
    have hn0 : n = 0 := by omega
    subst hn0
    obtain rfl := List.eq_nil_of_length_eq_zero hn
    refine (Any.bytes_Index_nil Tryz.lays185 (some ⟨B, 0, none⟩) 4 4 W (by decide) (fun h => by cases h)).mono ?_
    rintro e w' ⟨rfl, rfl⟩
    exact ⟨rfl, Below.refl _ _⟩
  | some x =>
    obtain ⟨m, hm⟩ := hL.mx
    have hx : ∀ i, i < n → W.cell? (x.add i) = some (.int .u8 ((l.map Int.ofNat).getD i 0)) := fun i hi => by
      obtain ⟨b, off, e, hcl⟩ := hb.cell i (by omega)
      have e := Option.some.inj e
      subst e
      rw [show ((⟨b, off, none⟩ : Addr).add i) = ⟨b, off + i, none⟩ by simp [Addr.add], hcl]
      congr 2
      rw [List.getD_eq_getElem?_getD, List.getD_eq_getElem?_getD, List.getElem?_map, List.getElem?_eq_getElem (by omega)]
      rfl
    have hy : ∀ i, i < 4 → W.cell? ((⟨B, 0, none⟩ : Addr).add i) = some (.int .u8 (([13, 10, 13, 10] : List Int).getD i 0)) := fun i hi => by
      obtain ⟨b, off, e, hcl⟩ := h2.cell i (by simpa [sepN] using hi)
      simp only [Option.some.injEq, Addr.mk.injEq, and_true] at e
      obtain ⟨rfl, rfl⟩ := e
      rw [show ((⟨B, 0, none⟩ : Addr).add i) = ⟨B, 0 + i, none⟩ by simp [Addr.add]; intro h; exact h.symm, hcl]
      match i, hi with
      | 0, _ => rfl
      | 1, _ => rfl
      | 2, _ => rfl
      | 3, _ => rfl
    refine (Any.bytes_Index_at Tryz.lays185 x ⟨B, 0, none⟩ n c 4 4 (l.map Int.ofNat) [13, 10, 13, 10] m W (by rw [List.length_map]; exact hn) rfl (fun y hy => by obtain ⟨c, hc, rfl⟩ := List.mem_map.1 hy; have := hb.lt c hc; show 0 ≤ (c : Int) ∧ (c : Int) < 256; omega) (by decide) hx hy hc (by omega) (by decide) hm).mono ?_
    rintro e w' ⟨rfl, q, rfl⟩
    rw [bytesOf_tx l hb.lt]
    exact ⟨rfl, below_drewN (Below.refl _ _) _⟩
end Go.Proofs.YtcmiappiocfbiaaGreatDoor
end
