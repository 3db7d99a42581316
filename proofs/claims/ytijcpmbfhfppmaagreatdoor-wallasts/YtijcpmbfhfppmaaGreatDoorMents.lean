/- Entries in memory: one's own rows of entries. -/
import Derived.Test.YtijcpmbfhfppmaaGreatDoorRenty
import Derived.Test.YtijcpmbfhfppmaaGreatDoorTmsg
namespace Go.Proofs.YtijcpmbfhfppmaaGreatDoor
open Go.ChangeShapes Go.WideShapes Go.ChangeAt Go.RowKit

/-- The four cells of an entry. -/
def entRow (e : EntN) (h : Option Addr × Nat) : List Value := [.int .i64 (e.1 : Int), .int .i64 (e.2.1 : Int), .int .i64 (e.2.2.1 : Int), .slice h.1 e.2.2.2.length h.2]
def rowsV (es : List EntN) (hs : List (Option Addr × Nat)) : List Value := (es.zip hs).flatMap fun p => entRow p.1 p.2
theorem rowsV_length : ∀ (es : List EntN) (hs : List (Option Addr × Nat)), hs.length = es.length → (rowsV es hs).length = es.length * 4
  | [], [], _ => rfl
  | e :: es, h :: hs, hl => by
    have := rowsV_length es hs (by simpa using hl)
    simp only [rowsV, List.zip_cons_cons, List.flatMap_cons, List.length_append, List.length_cons] at this ⊢
    rw [this]
    simp only [entRow, List.length_cons, List.length_nil]
    omega
theorem rowsV_snoc (es : List EntN) (hs : List (Option Addr × Nat)) (e : EntN) (h : Option Addr × Nat) (hl : hs.length = es.length) : rowsV (es ++ [e]) (hs ++ [h]) = rowsV es hs ++ entRow e h := by
  unfold rowsV
  rw [List.zip_append hl.symm, List.flatMap_append]
  simp
/-- One's own entries, with their data; no two share a block. -/
structure OwnH (base : Nat) (w : World) (sp : Option Addr) (c : Nat) (es : List EntN) (hs : List (Option Addr × Nat)) : Prop where
  len : hs.length = es.length
  row : w.ownsRow base 60 4 (.slice sp es.length c) es.length (rowsV es hs)
  dat : ∀ i, i < es.length → OwnB base w (hs.getD i (none, 0)).1 (hs.getD i (none, 0)).2 (es.getD i default).2.2.2
  apart : ∀ i k, i < k → k < es.length → ∀ g, blk (hs.getD i (none, 0)).1 = some g → blk (hs.getD k (none, 0)).1 ≠ some g
structure OwnEs (base : Nat) (w : World) (sp : Option Addr) (c : Nat) (es : List EntN) : Prop where
  own : ∃ hs : List (Option Addr × Nat), OwnH base w sp c es hs
/-- The same, and all data lie below a block. -/
structure OwnT (base top : Nat) (w : World) (sp : Option Addr) (c : Nat) (es : List EntN) : Prop where
  own : ∃ hs : List (Option Addr × Nat), OwnH base w sp c es hs ∧ ∀ i, i < es.length → ∀ g, blk (hs.getD i (none, 0)).1 = some g → g < top
theorem OwnEs.ex {base : Nat} {w : World} {sp : Option Addr} {c : Nat} {es : List EntN} (h : OwnEs base w sp c es) : ∃ hs : List (Option Addr × Nat), hs.length = es.length ∧ w.ownsRow base 60 4 (.slice sp es.length c) es.length (rowsV es hs) ∧ ∀ i, i < es.length → OwnB base w (hs.getD i (none, 0)).1 (hs.getD i (none, 0)).2 (es.getD i default).2.2.2 := by
  obtain ⟨hs, h⟩ := h.own
  exact ⟨hs, h.len, h.row, h.dat⟩
theorem OwnEs.toT {base : Nat} {w : World} {sp : Option Addr} {c : Nat} {es : List EntN} (h : OwnEs base w sp c es) : OwnT base w.heap.size w sp c es := by
  obtain ⟨hs, h⟩ := h.own
  exact ⟨hs, h, fun i hi g hg => ((h.dat i hi).blk_lt g hg).2⟩
theorem OwnEs.ofNil (base : Nat) (w : World) : OwnEs base w none 0 [] := ⟨[], rfl, w.ownsRow_nil base 60 4, by simp, by simp⟩
theorem ownsRow_far {base : Nat} {w w' : World} {e : TypeId} {size n j : Nat} {v : Value} {xs : List Value} (h : w.ownsRow base e size v n xs) (hg : w.grownBy w' (some j)) (hj : j < base) : w'.ownsRow base e size v n xs := by
  refine ⟨h.1, ?_⟩
  rcases h.2 with hv | ⟨g, cap, cur, hv, hbg, hgg, r⟩
  · exact .inl hv
  · exact .inr ⟨g, cap, cur, hv, hbg, (hg.block g (Array.getElem?_eq_some_iff.1 hgg).1 (fun e => by have := Option.some.inj e; omega)).trans hgg, r⟩
theorem ownsRow_later {base : Nat} {w w' : World} {e : TypeId} {size n : Nat} {v : Value} {xs : List Value} (h : w.ownsRow base e size v n xs) (hb : Below w.heap.size w w') : w'.ownsRow base e size v n xs := by
  refine ⟨h.1, ?_⟩
  rcases h.2 with hv | ⟨g, cap, cur, hv, hbg, hgg, r⟩
  · exact .inl hv
  · exact .inr ⟨g, cap, cur, hv, hbg, (hb.block g (Array.getElem?_eq_some_iff.1 hgg).1).trans hgg, r⟩
theorem OwnH.far {base : Nat} {w w' : World} {sp : Option Addr} {c j : Nat} {es : List EntN} {hs : List (Option Addr × Nat)} (h : OwnH base w sp c es hs) (hg : w.grownBy w' (some j)) (hj : j < base) : OwnH base w' sp c es hs :=
  ⟨h.len, ownsRow_far h.row hg hj, fun i hi => (h.dat i hi).far hg hj, h.apart⟩
theorem OwnH.later {base : Nat} {w w' : World} {sp : Option Addr} {c : Nat} {es : List EntN} {hs : List (Option Addr × Nat)} (h : OwnH base w sp c es hs) (hb : Below w.heap.size w w') : OwnH base w' sp c es hs :=
  ⟨h.len, ownsRow_later h.row hb, fun i hi => (h.dat i hi).later hb, h.apart⟩
theorem OwnH.mono {base base' : Nat} {w : World} {sp : Option Addr} {c : Nat} {es : List EntN} {hs : List (Option Addr × Nat)} (h : OwnH base w sp c es hs) (hb : base' ≤ base) : OwnH base' w sp c es hs := by
  refine ⟨h.len, ⟨h.row.1, ?_⟩, fun i hi => (h.dat i hi).mono hb, h.apart⟩
  rcases h.row.2 with hv | ⟨g, cap, cur, hv, hbg, r⟩
  · exact .inl hv
  · exact .inr ⟨g, cap, cur, hv, by omega, r⟩
theorem OwnH.drew {base : Nat} {w : World} {sp : Option Addr} {c : Nat} {es : List EntN} {hs : List (Option Addr × Nat)} (h : OwnH base w sp c es hs) : OwnH base w.drew sp c es hs :=
  ⟨h.len, h.row, fun i hi => ⟨(h.dat i hi).owns, (h.dat i hi).lt⟩, h.apart⟩
theorem OwnEs.far {base : Nat} {w w' : World} {sp : Option Addr} {c j : Nat} {es : List EntN} (h : OwnEs base w sp c es) (hg : w.grownBy w' (some j)) (hj : j < base) : OwnEs base w' sp c es := by
  obtain ⟨hs, h⟩ := h.own
  exact ⟨hs, h.far hg hj⟩
theorem OwnEs.later {base : Nat} {w w' : World} {sp : Option Addr} {c : Nat} {es : List EntN} (h : OwnEs base w sp c es) (hb : Below w.heap.size w w') : OwnEs base w' sp c es := by
  obtain ⟨hs, h⟩ := h.own
  exact ⟨hs, h.later hb⟩
theorem OwnEs.mono {base base' : Nat} {w : World} {sp : Option Addr} {c : Nat} {es : List EntN} (h : OwnEs base w sp c es) (hb : base' ≤ base) : OwnEs base' w sp c es := by
  obtain ⟨hs, h⟩ := h.own
  exact ⟨hs, h.mono hb⟩
theorem OwnEs.drew {base : Nat} {w : World} {sp : Option Addr} {c : Nat} {es : List EntN} (h : OwnEs base w sp c es) : OwnEs base w.drew sp c es := by
  obtain ⟨hs, h⟩ := h.own
  exact ⟨hs, h.drew⟩
theorem OwnT.far {base top : Nat} {w w' : World} {sp : Option Addr} {c j : Nat} {es : List EntN} (h : OwnT base top w sp c es) (hg : w.grownBy w' (some j)) (hj : j < base) : OwnT base top w' sp c es := by
  obtain ⟨hs, h, ht⟩ := h.own
  exact ⟨hs, h.far hg hj, ht⟩
theorem OwnT.later {base top : Nat} {w w' : World} {sp : Option Addr} {c : Nat} {es : List EntN} (h : OwnT base top w sp c es) (hb : Below w.heap.size w w') : OwnT base top w' sp c es := by
  obtain ⟨hs, h, ht⟩ := h.own
  exact ⟨hs, h.later hb, ht⟩
theorem OwnT.toE {base top : Nat} {w : World} {sp : Option Addr} {c : Nat} {es : List EntN} (h : OwnT base top w sp c es) : OwnEs base w sp c es := by
  obtain ⟨hs, h, _⟩ := h.own
  exact ⟨hs, h⟩
/-- Bytes lie in no block of entries. -/
theorem OwnB.notEnts {base base' : Nat} {w : World} {sp sp' : Option Addr} {c c' n : Nat} {l : List Nat} {xs : List Value} (h : OwnB base w sp c l) (h' : w.ownsRow base' 60 4 (.slice sp' n c') n xs) : ∀ g, blk sp = some g → blk sp' ≠ some g := by
  intro g hg hg'
  rcases h.owns.2 with ⟨hv, _⟩ | ⟨g1, cap, cur, hv, _, hh, _⟩
  · simp only [Value.slice.injEq] at hv
    rw [hv.1] at hg
    cases hg
  · simp only [Value.slice.injEq] at hv
    rw [hv.1] at hg
    obtain rfl : g1 = g := by simpa [blk] using hg
    rcases h'.2 with ⟨hv', _⟩ | ⟨g2, cap', cur', hv', _, hh', _⟩
    · simp only [Value.slice.injEq] at hv'
      rw [hv'.1] at hg'
      cases hg'
    · simp only [Value.slice.injEq] at hv'
      rw [hv'.1] at hg'
      obtain rfl : g2 = g1 := by simpa [blk] using hg'
      rw [hh] at hh'
      simp at hh'
theorem OwnB.grownNe {base : Nat} {w w' : World} {sp : Option Addr} {c : Nat} {l : List Nat} {o : Option Nat} (h : OwnB base w sp c l) (hg : w.grownBy w' o) (hne : ∀ g, blk sp = some g → o ≠ some g) : OwnB base w' sp c l := by
  refine ⟨⟨h.owns.1, ?_⟩, h.lt⟩
  rcases h.owns.2 with hv | ⟨g, cap, cur, hv, hbg, hgg, r⟩
  · exact .inl hv
  · refine .inr ⟨g, cap, cur, hv, hbg, (hg.block g (Array.getElem?_eq_some_iff.1 hgg).1 (fun e => ?_)).trans hgg, r⟩
    simp only [Value.slice.injEq] at hv
    exact hne g (by rw [hv.1]; rfl) e.symm
theorem infoE : (Tryz.prog.info? 60).map (fun i => (i.zero, i.size, i.bytes)) = some (some (.agg #[.int .i64 0, .int .i64 0, .int .i64 0, .slice none 0 0]), 4, 48) := by kernel_rfl
theorem run_appendE {w : World} (base top : Nat) (sp : Option Addr) (c : Nat) (es : List EntN) (hown : OwnT base top w sp c es) (B : Nat) (e : EntN) (h : Option Addr × Nat)
    (hB : w.heap[B]? = some (.cells (entRow e h).toArray 60 (0, 0))) (hd : OwnB base w h.1 h.2 e.2.2.2) (hlo : ∀ g, blk h.1 = some g → top ≤ g) (hn : es.length ≤ 1048576) (hbase : base ≤ w.heap.size) (ty : TypeId) :
    ∃ sp' c' w', (Builtin.append_ #[27, 27] ty #[.slice sp es.length c, .slice (some ⟨B, 0, none⟩) 1 1]).run Tryz.prog w = .ok (.slice sp' (es.length + 1) c') w' ∧ OwnEs base w' sp' c' (es ++ [e]) ∧ w.grownBy w' (blk sp) := by
  obtain ⟨hs, ⟨hl, hrow, hdat, hap⟩, htop⟩ := hown.own
  obtain ⟨i0, hi, hz0, hz1, hz2⟩ := info_parts infoE
  obtain ⟨v', w', hrun, h1, h2, _, _⟩ := run_append_own_at (P := Tryz.prog) w base 27 ty 60 i0 _ 4 48 Tryz.underlying27 hi hz0 hz1 hz2 rfl (by omega) _ _ _ hrow ⟨B, 0, none⟩ 1 1 (entRow e h) rfl
    (fun j u hu => by have := World.news_of_block hB j u; simp only at this; exact this hu) (by intro u hu; simp only [entRow, List.mem_cons, List.not_mem_nil, or_false] at hu; rcases hu with rfl | rfl | rfl | rfl <;> rfl) (by simp only [maxLen]; omega) (by omega) hbase
  have hv : ∃ sp' c', v' = .slice sp' (es.length + 1) c' := by
    rcases h1.2 with ⟨hv, h0⟩ | ⟨g, cap, cur, hv, _⟩
    · omega
    · exact ⟨_, _, hv⟩
  obtain ⟨sp', c', rfl⟩ := hv
  rw [ownBlock_slice] at h2
  refine ⟨sp', c', w', hrun, ⟨hs ++ [h], by simp [hl], ?_, ?_, ?_⟩, h2⟩
  · rw [rowsV_snoc es hs e h hl, List.length_append]
    exact h1
  · intro i hi
    rw [List.length_append] at hi
    simp only [List.length_cons, List.length_nil] at hi
    by_cases hi' : i < es.length
    · rw [List.getD_eq_getElem?_getD, List.getElem?_append_left (by omega), List.getD_eq_getElem?_getD, List.getElem?_append_left hi', ← List.getD_eq_getElem?_getD, ← List.getD_eq_getElem?_getD]
      exact (hdat i hi').grownNe h2 (fun g hg => (hdat i hi').notEnts hrow g hg)
    · obtain rfl : i = es.length := by omega
      have e1 : (hs ++ [h]).getD es.length (none, 0) = h := by rw [List.getD_eq_getElem?_getD, List.getElem?_append_right (by omega), hl]; simp
      have e2 : (es ++ [e]).getD es.length default = e := by rw [List.getD_eq_getElem?_getD, List.getElem?_append_right (Nat.le_refl _)]; simp
      rw [e1, e2]
      exact hd.grownNe h2 (fun g hg => hd.notEnts hrow g hg)
  · intro i q hiq hq g hg
    rw [List.length_append] at hq
    simp only [List.length_cons, List.length_nil] at hq
    have e0 : (hs ++ [h]).getD i (none, 0) = hs.getD i (none, 0) := by rw [List.getD_eq_getElem?_getD, List.getElem?_append_left (by omega), ← List.getD_eq_getElem?_getD]
    rw [e0] at hg
    by_cases hq' : q < es.length
    · rw [List.getD_eq_getElem?_getD, List.getElem?_append_left (by omega), ← List.getD_eq_getElem?_getD]
      exact hap i q hiq hq' g hg
    · obtain rfl : q = es.length := by omega
      have e1 : (hs ++ [h]).getD es.length (none, 0) = h := by rw [List.getD_eq_getElem?_getD, List.getElem?_append_right (by omega), hl]; simp
      rw [e1]
      intro hg'
      have := htop i (by omega) g hg
      have := hlo g hg'
      omega
theorem step_appendE {w : World} {ops : Array Oper} {o : Oper} {a : Act} {K : Act → World → Prop} {Q : Exit → Act → World → Prop} {E : Prop} (hgd : o.guard = none) (s x : Operand)
    (ho : o.op = .call { callee := .builtin .append, args := #[s, x], argTypes := #[27, 27] })
    (base top : Nat) (sp : Option Addr) (n c : Nat) (es : List EntN) (hs : a.eval s = .slice sp n c) (hn : es.length = n) (hown : OwnT base top w sp c es) (B : Nat) (e : EntN) (h : Option Addr × Nat) (hx : a.eval x = .slice (some ⟨B, 0, none⟩) 1 1)
    (hB : w.heap[B]? = some (.cells (entRow e h).toArray 60 (0, 0))) (hd : OwnB base w h.1 h.2 e.2.2.2) (hlo : ∀ g, blk h.1 = some g → top ≤ g) (hlen : es.length ≤ 1048576) (hbase : base ≤ w.heap.size)
    (hk : ∀ sp' c' w', OwnEs base w' sp' c' (es ++ [e]) → w.grownBy w' (blk sp) → K (a.put o.dst (.slice sp' (n + 1) c')) w') :
    if Region.wanted o (yielded ops a.tmps) = true then Oper.wp Tryz.prog o a w K Q else E := by
  subst hn
  have hw : Region.wanted o (yielded ops a.tmps) = true := by simp [Region.wanted, hgd]
  rw [if_pos hw]
  obtain ⟨sp', c', w', hrun, h1, h2⟩ := run_appendE (w := w) base top sp c es hown B e h hB hd hlo hlen hbase o.type
  unfold Oper.wp
  simp [execOp, ho, resolve, invoke, builtin, hs, hx, hrun, Result.andThen]
  exact hk sp' c' w' h1 h2
theorem OwnEs.blk_ge {base : Nat} {w : World} {sp : Option Addr} {c : Nat} {es : List EntN} (h : OwnEs base w sp c es) : ∀ g, blk sp = some g → base ≤ g := by
  intro g hg
  obtain ⟨hs, _, h2, _⟩ := h.ex
  exact (h2.lt g (by rw [ownBlock_slice]; exact hg)).1
theorem OwnT.blk_ge {base top : Nat} {w : World} {sp : Option Addr} {c : Nat} {es : List EntN} (h : OwnT base top w sp c es) : ∀ g, blk sp = some g → base ≤ g := h.toE.blk_ge
theorem grown_newO {w w1 w2 : World} {R : Nat} {o : Option Nat} (h : w.grownBy w1 (some R)) (k : w1.grownBy w2 o) (ho : ∀ g, o = some g → w.heap.size ≤ g) : w.grownBy w2 (some R) :=
  ⟨k.os.trans h.os, k.tape.trans h.tape, k.output.trans h.output, Nat.le_trans h.size k.size, fun i hi hne => (k.block i (Nat.lt_of_lt_of_le hi h.size) (fun e => by have := ho i e.symm; omega)).trans (h.block i hi hne)⟩
theorem RdAt.farO {R : Nat} {w w' : World} {a : Option Addr} {c : Nat} {l : List Nat} {k : Nat} {o : Option Nat} (h : RdAt R w a c l k) (hg : w.grownBy w' o) (hj : o ≠ some R) (hb : ∀ b off, 0 < l.length → a = some ⟨b, off, none⟩ → o ≠ some b) : RdAt R w' a c l k := by
  refine ⟨(hg.block R h.lt (fun e => hj e.symm)).trans h.blk, ⟨h.bytes.lt, fun i hi => ?_⟩, h.low, h.le⟩
  obtain ⟨b, off, h1, h2⟩ := h.bytes.cell i hi
  refine ⟨b, off, h1, ?_⟩
  rw [World.cell?_of_block (w := w) (w' := w') (hg.block b (World.block_lt_of_cell? _ _ h2) (fun e => hb b off (by omega) h1 e.symm))]
  exact h2
theorem entsE_more {l : List Nat} {j k k' k2 : Nat} {es : List EntN} {e : EntN} (h : entsE l j k = .ok (es, k')) (he : entryE l k' = .ok (e, k2)) : entsE l (j + 1) k = .ok (es ++ [e], k2) := by
  rw [entsE_step h 1, entsE, bindE_ok he]
  rfl
theorem entsE_err {l : List Nat} {j n k k' x : Nat} {es : List EntN} (h : entsE l j k = .ok (es, k')) (he : entryE l k' = .error x) (hj : j < n) : entsE l n k = .error x := by
  obtain ⟨r, rfl⟩ : ∃ r, n = j + (r + 1) := ⟨n - j - 1, by omega⟩
  rw [entsE_step h (r + 1), entsE, bindE_err he]
  rfl
/-- Any entry is appended: what it leaves besides. -/
theorem step_appendX {w : World} {ops : Array Oper} {o : Oper} {a : Act} {K : Act → World → Prop} {Q : Exit → Act → World → Prop} {E : Prop} (hgd : o.guard = none) (s x : Operand)
    (ho : o.op = .call { callee := .builtin .append, args := #[s, x], argTypes := #[27, 27] })
    (base : Nat) (sp : Option Addr) (n c : Nat) (es : List EntN) (hs : a.eval s = .slice sp n c) (hn : es.length = n) (hown : OwnEs base w sp c es) (B : Nat) (k t i : Int) (dp : Option Addr) (dm dc : Nat) (hx : a.eval x = .slice (some ⟨B, 0, none⟩) 1 1)
    (hB : w.heap[B]? = some (.cells #[.int .i64 k, .int .i64 t, .int .i64 i, .slice dp dm dc] 60 (0, 0))) (hlen : es.length ≤ 1048576) (hbase : base ≤ w.heap.size)
    (hk : ∀ sp' c' w', w.grownBy w' (blk sp) → K (a.put o.dst (.slice sp' (n + 1) c')) w') :
    if Region.wanted o (yielded ops a.tmps) = true then Oper.wp Tryz.prog o a w K Q else E := by
  subst hn
  have hw : Region.wanted o (yielded ops a.tmps) = true := by simp [Region.wanted, hgd]
  rw [if_pos hw]
  obtain ⟨hs', hl, hrow, _⟩ := hown.ex
  obtain ⟨i0, hi, hz0, hz1, hz2⟩ := info_parts infoE
  obtain ⟨v', w', hrun, h1, h2, _, _⟩ := run_append_own_at (P := Tryz.prog) w base 27 o.type 60 i0 _ 4 48 Tryz.underlying27 hi hz0 hz1 hz2 rfl (by omega) _ _ _ hrow ⟨B, 0, none⟩ 1 1 [.int .i64 k, .int .i64 t, .int .i64 i, .slice dp dm dc] rfl
    (fun j u hu => by have := World.news_of_block hB j u; simp only at this; exact this hu) (by intro u hu; simp only [List.mem_cons, List.not_mem_nil, or_false] at hu; rcases hu with rfl | rfl | rfl | rfl <;> rfl) (by simp only [maxLen]; omega) (by omega) hbase
  have hv : ∃ sp' c', v' = .slice sp' (es.length + 1) c' := by
    rcases h1.2 with ⟨hv, h0⟩ | ⟨g, cap, cur, hv, _⟩
    · omega
    · exact ⟨_, _, hv⟩
  obtain ⟨sp', c', rfl⟩ := hv
  rw [ownBlock_slice] at h2
  unfold Oper.wp
  simp [execOp, ho, resolve, invoke, builtin, hs, hx, hrun, Result.andThen]
  exact hk sp' c' w' h2
theorem below_newO {w w1 w2 : World} {o : Option Nat} (h : Below w.heap.size w w1) (k : w1.grownBy w2 o) (ho : ∀ g, o = some g → w.heap.size ≤ g) : Below w.heap.size w w2 := h.grown k h.size ho
/-- One's own bytes that lie apart from the data of one's own entries, which lie further down. -/
structure OwnD (base : Nat) (w : World) (ep : Option Addr) (ec : Nat) (es : List EntN) (sp : Option Addr) (c : Nat) (l : List Nat) : Prop where
  own : OwnB base w sp c l
  ap : ∃ top, OwnT base top w ep ec es ∧ ∀ g, blk sp = some g → top ≤ g
theorem OwnD.bytes {base : Nat} {w : World} {ep : Option Addr} {ec : Nat} {es : List EntN} {sp : Option Addr} {c : Nat} {l : List Nat} (h : OwnD base w ep ec es sp c l) : BytesAt w sp l := h.own.bytes
theorem OwnD.far {base : Nat} {w w' : World} {ep : Option Addr} {ec : Nat} {es : List EntN} {sp : Option Addr} {c j : Nat} {l : List Nat} (h : OwnD base w ep ec es sp c l) (hg : w.grownBy w' (some j)) (hj : j < base) : OwnD base w' ep ec es sp c l := by
  obtain ⟨top, ht, hl⟩ := h.ap
  exact ⟨h.own.far hg hj, top, ht.far hg hj, hl⟩
theorem OwnD.later {base : Nat} {w w' : World} {ep : Option Addr} {ec : Nat} {es : List EntN} {sp : Option Addr} {c : Nat} {l : List Nat} (h : OwnD base w ep ec es sp c l) (hb : Below w.heap.size w w') : OwnD base w' ep ec es sp c l := by
  obtain ⟨top, ht, hl⟩ := h.ap
  exact ⟨h.own.later hb, top, ht.later hb, hl⟩
theorem OwnD.mono {base base' : Nat} {w : World} {ep : Option Addr} {ec : Nat} {es : List EntN} {sp : Option Addr} {c : Nat} {l : List Nat} (h : OwnD base w ep ec es sp c l) (hb : base' ≤ base) : OwnD base' w ep ec es sp c l := by
  obtain ⟨top, ⟨hs, ht, hh⟩, hl⟩ := h.ap
  exact ⟨h.own.mono hb, top, ⟨hs, ht.mono hb, hh⟩, hl⟩
end Go.Proofs.YtijcpmbfhfppmaaGreatDoor
