/- Heads, in plain words: large letters and blanks play no part. -/
import Derived.Test.YtmmiadlmdjfepaaDoorHdu
import Derived.Test.YtmmiadlmdjfepaaDoorHr7
import Derived.Test.YtmmiadlmdjfepaaDoorHh1
namespace Go.Proofs.YtmmiadlmdjfepaaDoor
set_option linter.unusedVariables false

/-- A letter, perhaps as a large one. -/
def Big (c d : UInt8) : Prop := d = c ∨ (97 ≤ c.toNat ∧ c.toNat ≤ 122 ∧ d.toNat = c.toNat - 32)
/-- A text, some letters of which are large. -/
inductive Lrg : Tx → Tx → Prop
  | nil : Lrg [] []
  | cons {c d : UInt8} {s t : Tx} : Big c d → Lrg s t → Lrg (c :: s) (d :: t)
theorem Lrg.refl : ∀ (s : Tx), Lrg s s
  | [] => .nil
  | c :: t => .cons (.inl rfl) (Lrg.refl t)
theorem Lrg.snoc {s t : Tx} {c d : UInt8} (h : Lrg s t) (hb : Big c d) : Lrg (s ++ [c]) (t ++ [d]) := by
  induction h with
  | nil => exact .cons hb .nil
  | cons h1 _ ih => exact .cons h1 ih
theorem Lrg.len {s t : Tx} (h : Lrg s t) : t.length = s.length := by
  induction h with
  | nil => rfl
  | cons _ _ ih => simp [ih]
/-- What a large letter has in common with its small one. -/
def alike (c d : UInt8) : Bool := (kindsN d.toNat == kindsN c.toNat) && (Lib.lowerB d == Lib.lowerB c) && ((d == 58) == (c == 58)) && ((d == 46) == (c == 46)) && ([9, 32].contains d == [9, 32].contains c) && ((d == 13) == (c == 13))
theorem big_alike {c d : UInt8} (h : Big c d) : alike c d = true := by
  rcases h with rfl | ⟨h1, h2, h3⟩
  · unfold alike; simp
  · have hall : (List.range 26).all (fun n => alike (UInt8.ofNat (97 + n)) (UInt8.ofNat (65 + n))) = true := by decide +kernel
    have := List.all_eq_true.1 hall (c.toNat - 97) (List.mem_range.2 (by omega))
    have e1 : UInt8.ofNat (97 + (c.toNat - 97)) = c := by rw [show 97 + (c.toNat - 97) = c.toNat by omega]; exact UInt8.ofNat_toNat
    have e2 : UInt8.ofNat (65 + (c.toNat - 97)) = d := by rw [show 65 + (c.toNat - 97) = d.toNat by omega]; exact UInt8.ofNat_toNat
    rwa [e1, e2] at this
structure Alk (c d : UInt8) : Prop where
  k : ∀ n, isK n d = isK n c
  low : Lib.lowerB d = Lib.lowerB c
  c58 : d = 58 ↔ c = 58
  c46 : d = 46 ↔ c = 46
  bl : [9, 32].contains d = [9, 32].contains c
  c13 : d = 13 ↔ c = 13
theorem beq_iff {d c x : UInt8} (h : ((d == x) == (c == x)) = true) : d = x ↔ c = x := by
  have := eq_of_beq h
  rw [Bool.eq_iff_iff, beq_iff_eq, beq_iff_eq] at this
  exact this
theorem alk {c d : UInt8} (h : Big c d) : Alk c d := by
  have h1 := big_alike h
  unfold alike at h1
  simp only [Bool.and_eq_true] at h1
  obtain ⟨⟨⟨⟨⟨a1, a2⟩, a3⟩, a4⟩, a5⟩, a6⟩ := h1
  exact ⟨fun n => by unfold isK; rw [eq_of_beq a1], eq_of_beq a2, beq_iff a3, beq_iff a4, eq_of_beq a5, beq_iff a6⟩
theorem Lrg.low {s t : Tx} (h : Lrg s t) : lowL t = lowL s := by
  induction h with
  | nil => rfl
  | cons h1 _ ih =>
    show Lib.lowerB _ :: lowL _ = Lib.lowerB _ :: lowL _
    rw [(alk h1).low, ih]
theorem Lrg.every {s t : Tx} (h : Lrg s t) (n : Nat) : allK n t = allK n s := by
  induction h with
  | nil => rfl
  | cons h1 _ ih =>
    show (isK n _ && allK n _) = (isK n _ && allK n _)
    rw [(alk h1).k, ih]
theorem Lrg.not13 {s t : Tx} (h : Lrg s t) (hs : (13 : UInt8) ∉ s) : (13 : UInt8) ∉ t := by
  induction h with
  | nil => exact hs
  | cons h1 _ ih =>
    intro e
    rcases List.mem_cons.1 e with e | e
    · exact hs (by rw [← (alk h1).c13.1 e.symm]; simp)
    · exact ih (fun e2 => hs (List.mem_cons_of_mem _ e2)) e
theorem Lrg.not58 {s t : Tx} (h : Lrg s t) (hs : (58 : UInt8) ∉ s) : (58 : UInt8) ∉ t := by
  induction h with
  | nil => exact hs
  | cons h1 _ ih =>
    intro e
    rcases List.mem_cons.1 e with e | e
    · exact hs (by rw [← (alk h1).c58.1 e.symm]; simp)
    · exact ih (fun e2 => hs (List.mem_cons_of_mem _ e2)) e
theorem Lrg.token {s t : Tx} (h : Lrg s t) (hs : isTokenL s = true) : isTokenL t = true := by
  obtain ⟨h1, h2⟩ := Bool.and_eq_true_iff.1 hs
  refine Bool.and_eq_true_iff.2 ⟨?_, by rw [h.every]; exact h2⟩
  cases h with
  | nil => exact h1
  | cons _ _ => rfl
theorem Lrg.go {s t : Tx} (h : Lrg s t) : ∀ b, hostGo b t = hostGo b s := by
  induction h with
  | nil => exact fun b => rfl
  | @cons c d s t h1 _ ih =>
    intro b
    unfold hostGo
    by_cases hc : c = 46
    · rw [if_pos hc, if_pos ((alk h1).c46.2 hc), ih]
    · rw [if_neg hc, if_neg (fun e => hc ((alk h1).c46.1 e)), ih, (alk h1).k]
theorem Lrg.cut {s t : Tx} (h : Lrg s t) : Lrg (cutL [58] s).1 (cutL [58] t).1 ∧ Lrg (behindL [58] s) (behindL [58] t) := by
  induction h with
  | nil => exact ⟨.nil, .nil⟩
  | @cons c d s t h1 h2 ih =>
    have hp : ∀ (x : UInt8) (l : Tx), ([58].isPrefixOf (x :: l) = true ↔ x = 58) := fun x l => by simp [List.isPrefixOf]; exact eq_comm
    unfold behindL at *
    by_cases hc : c = 58
    · have hd := (alk h1).c58.2 hc
      rw [cutL, if_pos ((hp c s).2 hc), cutL, if_pos ((hp d t).2 hd)]
      exact ⟨.nil, h2⟩
    · have hd : ¬ d = 58 := fun e => hc ((alk h1).c58.1 e)
      rw [cutL, if_neg (fun e => hc ((hp c s).1 e)), cutL, if_neg (fun e => hd ((hp d t).1 e))]
      exact ⟨.cons h1 ih.1, ih.2⟩
theorem Lrg.host {s t : Tx} (h : Lrg s t) : hostL t = hostL s := by
  obtain ⟨h1, h2⟩ := h.cut
  unfold hostL isHostL
  rw [h2.len, h2.every, h1.len, h1.go, h1.low]
theorem Lrg.last {s t : Tx} (h : Lrg s t) : t.head?.all (!blank ·) = s.head?.all (!blank ·) ∧ t.getLast?.all (!blank ·) = s.getLast?.all (!blank ·) := by
  have hb : ∀ {c d}, Big c d → blank d = blank c := fun h => (alk h).bl
  refine ⟨?_, ?_⟩
  · cases h with
    | nil => rfl
    | cons h1 _ => simp only [List.head?_cons, Option.all_some]; rw [hb h1]
  · induction h with
    | nil => rfl
    | cons h1 h2 ih =>
      cases h2 with
      | nil => simp only [List.getLast?_singleton, Option.all_some]; rw [hb h1]
      | cons h3 h4 => rw [List.getLast?_cons_cons, List.getLast?_cons_cons]; exact ih
theorem Lrg.value {s t : Tx} (h : Lrg s t) (hs : isValueL s = true) : isValueL t = true := by
  unfold isValueL at hs ⊢
  rw [trim_same] at hs ⊢
  rw [h.every, h.last.1, h.last.2]
  exact hs
theorem trim_trail (c : UInt8) (hc : blank c = true) (l : Tx) : trimB (l ++ [c]) = trimB l := by
  rw [trimB_is, trimB_is, List.reverse_append]
  show (List.dropWhile blank (c :: l.reverse)).reverse.dropWhile blank = _
  rw [List.dropWhile_cons, if_pos hc]
theorem trim_blanks : ∀ (b l : Tx), b.all blank = true → trimB (b ++ l) = trimB l
  | [], l, _ => rfl
  | c :: t, l, h => by
    rw [List.all_cons, Bool.and_eq_true] at h
    rw [List.cons_append, trim_lead c h.1, trim_blanks t l h.2]
theorem trim_behind (l : Tx) : ∀ (b : Tx), b.all blank = true → trimB (l ++ b) = trimB l := by
  have h : ∀ (n : Nat) (b : Tx), b.length = n → b.all blank = true → trimB (l ++ b) = trimB l := fun n => by
    induction n with
    | zero => intro b hb _; rw [List.length_eq_zero_iff.1 hb, List.append_nil]
    | succ n ih =>
      intro b hb ha
      rcases List.eq_nil_or_concat b with rfl | ⟨u, c, rfl⟩
      · simp at hb
      · rw [List.concat_eq_append] at hb ha ⊢
        rw [List.all_append, Bool.and_eq_true] at ha
        rw [← List.append_assoc, trim_trail c (by simpa using ha.2), ih u (by simpa using hb) ha.1]
  exact fun b hb => h _ b rfl hb
/-- A field as it is read back. -/
structure FR (f g : Fd) : Prop where
  n : g.name = f.name
  v : ¬ f.name = hostName → g.value = f.value
  x : f.name = hostName → hostL g.value = hostL f.value
  le : g.value.length = f.value.length
/-- A line that is read as such a field. -/
structure LineOk (f : Fd) (l : Tx) : Prop where
  r : (13 : UInt8) ∉ l
  ne : l ≠ []
  is : ∃ g, FR f g ∧ fieldL l = some g
theorem line_ok {f : Fd} (hf : fdOk f = true) {t v b : Tx} (ht : Lrg f.name t) (hv : (¬ f.name = hostName → v = f.value) ∧ Lrg f.value v) (hb : b.all blank = true) : LineOk f (t ++ 58 :: (b ++ (v ++ b))) := by
  unfold fdOk at hf
  simp only [Bool.and_eq_true] at hf
  obtain ⟨⟨h1, h2⟩, h3⟩ := hf
  have hvv := hv.2.value h3
  have htr : trimB (b ++ (v ++ b)) = v := by rw [trim_blanks b _ hb, trim_behind v b hb]; exact (eq_of_beq (Bool.and_eq_true_iff.1 hvv).2).symm
  have hc : cutL [58] (t ++ 58 :: (b ++ (v ++ b))) = (t, some (b ++ (v ++ b))) := cut1_app (ht.not58 (token_not h1 (by decide))) _
  have b13 : (13 : UInt8) ∉ b := fun e => by have := List.all_eq_true.1 hb 13 e; revert this; decide
  refine ⟨fun e => ?_, by simp, ⟨f.name, v⟩, ⟨rfl, hv.1, fun _ => hv.2.host, hv.2.len⟩, ?_⟩
  · have n1 := ht.not13 (token_not h1 (by decide))
    have n2 := hv.2.not13 (value_not h3 (by decide))
    simp only [List.mem_append, List.mem_cons, n1, n2, b13, or_false, false_or] at e
    revert e; decide
  · unfold fieldL behindL
    rw [hc]
    simp only [Option.isSome_some, Option.getD_some, htr, ht.token h1, hvv]
    rw [ht.low, ← eq_of_beq h2]
    rfl
/-- Lines of fields, one by one. -/
inductive LinesOk : List Fd → List Tx → Prop
  | nil : LinesOk [] []
  | cons {f : Fd} {l : Tx} {fs : List Fd} {ls : List Tx} : LineOk f l → LinesOk fs ls → LinesOk (f :: fs) (l :: ls)
theorem LinesOk.snoc {fs : List Fd} {ls : List Tx} {f : Fd} {l : Tx} (h : LinesOk fs ls) (hl : LineOk f l) : LinesOk (fs ++ [f]) (ls ++ [l]) := by
  induction h with
  | nil => exact .cons hl .nil
  | cons h1 _ ih => exact .cons h1 ih
inductive FRs : List Fd → List Fd → Prop
  | nil : FRs [] []
  | cons {f g : Fd} {fs gs : List Fd} : FR f g → FRs fs gs → FRs (f :: fs) (g :: gs)
theorem LinesOk.all {fs : List Fd} {ls : List Tx} (h : LinesOk fs ls) : (∀ l ∈ ls, (13 : UInt8) ∉ l) ∧ (∀ l ∈ ls, l ≠ []) ∧ ∃ gs, FRs fs gs ∧ fieldsOf ls = some gs := by
  induction h with
  | nil => exact ⟨by simp, by simp, [], .nil, rfl⟩
  | cons h1 _ ih =>
    obtain ⟨a, b, gs, c, d⟩ := ih
    obtain ⟨g, hg, hf⟩ := h1.is
    refine ⟨fun l hl => ?_, fun l hl => ?_, g :: gs, .cons hg c, by rw [fieldsOf, hf, d]; rfl⟩
    · rcases List.mem_cons.1 hl with rfl | hl
      · exact h1.r
      · exact a l hl
    · rcases List.mem_cons.1 hl with rfl | hl
      · exact h1.ne
      · exact b l hl
theorem FRs.len {fs gs : List Fd} (h : FRs fs gs) : gs.length = fs.length := by
  induction h with
  | nil => rfl
  | cons _ _ ih => simp [ih]
theorem FRs.get {fs gs : List Fd} (h : FRs fs gs) : ∀ (i : Nat) (h1 : i < fs.length) (h2 : i < gs.length), FR fs[i] gs[i] := by
  induction h with
  | nil => intro i h1; simp at h1
  | cons hg _ ih =>
    intro i h1 h2
    cases i with
    | zero => exact hg
    | succ i => exact ih i (by simpa using h1) (by simpa using h2)
theorem FRs.hosts {fs gs : List Fd} (h : FRs fs gs) : FRs (hostsOf fs) (hostsOf gs) := by
  induction h with
  | nil => exact .nil
  | @cons f g fs gs hg _ ih =>
    by_cases hn : f.name = hostName
    · rw [hosts_cons f fs hn, hosts_cons g gs (hg.n.trans hn)]
      exact .cons hg ih
    · rw [hosts_skip f fs hn, hosts_skip g gs (fun e => hn (hg.n.symm.trans e))]
      exact ih
theorem FRs.hostOf {fs gs : List Fd} (h : FRs fs gs) {x : Tx} (hx : hostOfL fs = some x) : hostOfL gs = some x := by
  obtain ⟨f, hf⟩ := one_of hx
  have hh := h.hosts
  unfold hostOfL at hx ⊢
  rw [hf] at hh hx
  generalize hgs : hostsOf gs = G at *
  cases hh with
  | cons hg h0 =>
    cases h0 with
    | nil =>
      have hn : f.name = hostName := eq_of_beq (List.mem_filter.1 (by rw [show fs.filter (fun f => f.name == hostName) = [f] from hf]; simp : f ∈ fs.filter _)).2
      simp only at hx ⊢
      rw [hg.x hn]
      exact hx
theorem letters_parse {h : Hd} (e : MayB h) (h32 : h.fields.length ≤ 32) {ls : List Tx} (hl : LinesOk h.fields ls) (hlen : (endedL (line0 h :: ls) ++ crlf).length ≤ 2048) : ∃ gs k, FRs h.fields gs ∧ parseL (endedL (line0 h :: ls) ++ crlf) = .ok ⟨h.method, h.path, h.query, h.host, gs⟩ k := by
  obtain ⟨h13, hne, gs, hg, hf⟩ := hl.all
  have h13' : ∀ x ∈ line0 h :: ls, (13 : UInt8) ∉ x := fun x hx => by
    rcases List.mem_cons.1 hx with rfl | hx
    · exact (lines_13 e).1 _ (by simp [linesH])
    · exact h13 x hx
  have c := cut4_join (line0 h :: ls) (by simp) h13' hne []
  rw [List.append_nil] at c
  have ee : endedL (line0 h :: ls) ++ crlf = joinL (line0 h :: ls) ++ (crlf ++ crlf) := by rw [← joinL_ended (line0 h :: ls) (by simp), List.append_assoc]
  have ht : (endedL (line0 h :: ls) ++ crlf).take 2048 = endedL (line0 h :: ls) ++ crlf := List.take_of_length_le hlen
  refine ⟨gs, (joinL (line0 h :: ls)).length + 4, hg, ?_⟩
  unfold parseL
  rw [ht, ee, c]
  simp only
  have hr : readL (joinL (line0 h :: ls) ++ crlf) = some ⟨h.method, h.path, h.query, h.host, gs⟩ := by
    rw [joinL_ended (line0 h :: ls) (by simp), read_ended _ _ h13']
    unfold readLines
    rw [request_line e.m e.p e.q]
    simp only
    rw [hf]
    simp only
    rw [hg.hostOf e.x]
    rfl
  rw [hr]
  simp only
  rw [if_neg (by rw [hg.len]; omega)]
end Go.Proofs.YtmmiadlmdjfepaaDoor
