/- Logs: states of one's own in a row; what was seen of a log. -/
import Derived.Test.YtijcpmbfhfppmaaGreatDoorB30
import Derived.Test.YtijcpmbfhfppmaaGreatDoorB31
section
namespace Go.Proofs.YtijcpmbfhfppmaaGreatDoor
open Go.ChangeShapes Go.WideShapes Go.ChangeAt Go.RowKit
set_option linter.unusedVariables false

/-- Where a state's entries lie. -/
abbrev StH := Option Addr × Nat × List (Option Addr × Nat)
def rowsS (cs : List Wc) (hs : List StH) : List Value := (cs.zip hs).flatMap fun x => (stRow x.1 x.2.1 x.2.2.1).toList
structure OwnSt (base : Nat) (w : World) (sp : Option Addr) (k : Nat) (cs : List Wc) (hs : List StH) : Prop where
  len : hs.length = cs.length
  row : w.ownsRow base 53 5 (.slice sp cs.length k) cs.length (rowsS cs hs)
  dat : ∀ i (hi : i < cs.length) (hj : i < hs.length), OwnL base w hs[i].1 hs[i].2.1 cs[i].es hs[i].2.2
def SFoot (sp : Option Addr) (hs : List StH) (g : Nat) : Prop := blk sp = some g ∨ ∃ h ∈ hs, LFoot h.1 h.2.2 g
theorem rowsS_snoc (cs : List Wc) (hs : List StH) (c : Wc) (h : StH) (hl : hs.length = cs.length) : rowsS (cs ++ [c]) (hs ++ [h]) = rowsS cs hs ++ (stRow c h.1 h.2.1).toList := by
  unfold rowsS
  rw [List.zip_append hl.symm, List.flatMap_append]
  simp
theorem rowsS_get : ∀ (cs : List Wc) (hs : List StH) (i f : Nat) (hi : i < cs.length) (hh : i < hs.length) (_ : f < 5), (rowsS cs hs)[i * 5 + f]? = (stRow cs[i] hs[i].1 hs[i].2.1)[f]?
  | [], _, i, _, hi, _, _ => by simp at hi
  | _ :: _, [], _, _, _, hh, _ => by simp at hh
  | e :: es, h :: hs, 0, f, _, _, hf => by
    simp only [rowsS, List.zip_cons_cons, List.flatMap_cons, Nat.zero_mul, Nat.zero_add, List.getElem_cons_zero]
    rw [List.getElem?_append_left (by simp [stRow]; omega), Array.getElem?_toList]
  | e :: es, h :: hs, i + 1, f, hi, hh, hf => by
    have ih := rowsS_get es hs i f (by simpa using hi) (by simpa using hh) hf
    simp only [rowsS, List.zip_cons_cons, List.flatMap_cons, List.getElem_cons_succ] at ih ⊢
    have e5 : (stRow e h.1 h.2.1).toList.length = 5 := by simp [stRow]
    rw [List.getElem?_append_right (by rw [e5]; omega), e5, show (i + 1) * 5 + f - 5 = i * 5 + f by omega]
    exact ih
theorem infoSt : (Tryz.prog.info? 53).map (fun i => (i.zero, i.size, i.bytes)) = some (some (.agg #[.int .i64 0, .int .i64 0, .int .i64 0, .int .i64 0, .slice none 0 0]), 5, 56) := by kernel_rfl
section
variable {Av : Nat → Prop} {base : Nat} {w w' : World} {sp : Option Addr} {k : Nat} {cs : List Wc} {hs : List StH}
theorem OwnSt.ofNil (base : Nat) (w : World) : OwnSt base w none 0 [] [] := ⟨rfl, w.ownsRow_nil base 53 5, fun i hi => by simp at hi⟩
theorem OwnSt.rowT (h : OwnSt base w sp k cs hs) : ∀ g, blk sp = some g → base ≤ g ∧ g < w.heap.size ∧ ∃ cur, w.heap[g]? = some (.cells cur 53 (0, 0)) := by
  intro g hg
  rcases h.row.2 with ⟨hv, h0⟩ | ⟨g', cap, cur, hv, hbg, hh, _⟩
  · simp only [Value.slice.injEq] at hv
    rw [hv.1] at hg
    cases hg
  · simp only [Value.slice.injEq] at hv
    rw [hv.1] at hg
    cases hg
    exact ⟨hbg, (Array.getElem?_eq_some_iff.1 hh).1, cur, hh⟩
theorem OwnSt.foot (h : OwnSt base w sp k cs hs) : ∀ g, SFoot sp hs g → base ≤ g ∧ g < w.heap.size := by
  rintro g (hg | ⟨x, hx, hg⟩)
  · exact ⟨(h.rowT g hg).1, (h.rowT g hg).2.1⟩
  · obtain ⟨i, hi, rfl⟩ := List.getElem_of_mem hx
    have := (h.dat i (by rw [← h.len]; exact hi) hi).foot g hg
    exact ⟨this.1, this.2.1⟩
theorem OwnSt.same (h : OwnSt base w sp k cs hs) (hk : ∀ g, SFoot sp hs g → w'.heap[g]? = w.heap[g]?) : OwnSt base w' sp k cs hs := by
  refine ⟨h.len, ⟨h.row.1, ?_⟩, fun i hi hj => (h.dat i hi hj).same (fun g hg => hk g (.inr ⟨_, List.getElem_mem hj, hg⟩))⟩
  rcases h.row.2 with hv | ⟨g, cap, cur, hv, hbg, hg, r⟩
  · exact .inl hv
  · refine .inr ⟨g, cap, cur, hv, hbg, (hk g (.inl ?_)).trans hg, r⟩
    simp only [Value.slice.injEq] at hv
    rw [hv.1]
    rfl
theorem OwnSt.later (h : OwnSt base w sp k cs hs) (hb : Below w.heap.size w w') : OwnSt base w' sp k cs hs := h.same (fun g hg => hb.block g (h.foot g hg).2)
theorem OwnSt.asd (h : OwnSt base w sp k cs hs) (ha : Asd Av base w w') (hp : ∀ g, SFoot sp hs g → Av g) : OwnSt base w' sp k cs hs := h.same (fun g hg => ha.av g (hp g hg))
/-- A state's cells, and its entries. -/
theorem OwnSt.at_ (h : OwnSt base w sp k cs hs) (i : Nat) (hi : i < cs.length) : ∃ g p q hx, sp = some ⟨g, 0, none⟩ ∧ w.cell? ⟨g, i * 5, none⟩ = some (.int .i64 (cs[i].bi : Int)) ∧ w.cell? ⟨g, i * 5 + 1, none⟩ = some (.int .i64 (cs[i].bt : Int)) ∧ w.cell? ⟨g, i * 5 + 2, none⟩ = some (.int .i64 (cs[i].ht : Int)) ∧ w.cell? ⟨g, i * 5 + 3, none⟩ = some (.int .i64 (cs[i].hv : Int)) ∧ w.cell? ⟨g, i * 5 + 4, none⟩ = some (.slice p cs[i].es.length q) ∧ OwnL base w p q cs[i].es hx := by
  have hh : i < hs.length := by rw [h.len]; exact hi
  rcases h.row.2 with ⟨_, h0⟩ | ⟨g, cap, cur, hv, hb, hg, hle, hmx, hsz, ht⟩
  · omega
  · simp only [Value.slice.injEq] at hv
    obtain ⟨rfl, _, rfl⟩ := hv
    have key : ∀ f, f < 5 → w.cell? ⟨g, i * 5 + f, none⟩ = (stRow cs[i] hs[i].1 hs[i].2.1)[f]? := fun f hf => by
      have e := rowsS_get cs hs i f hi hh hf
      rw [cell_of_row w g _ cur _ _ hg, ← Array.getElem?_toList]
      have hj : i * 5 + f < cs.length * 5 := by omega
      rw [← ht, List.getElem?_take, if_pos hj] at e
      exact e
    exact ⟨g, hs[i].1, hs[i].2.1, hs[i].2.2, rfl, key 0 (by omega), key 1 (by omega), key 2 (by omega), key 3 (by omega), key 4 (by omega), h.dat i hi hh⟩
theorem OwnSt.one {E : Nat} {c : Wc} {h : StH} (hE : w.heap[E]? = some (.cells (stRow c h.1 h.2.1) 53 (0, 0))) (hb : base ≤ E) (ho : OwnL base w h.1 h.2.1 c.es h.2.2) : OwnSt base w (some ⟨E, 0, none⟩) 1 [c] [h] := by
  refine ⟨rfl, ⟨by simp [rowsS, stRow], .inr ⟨E, 1, _, rfl, hb, hE, Nat.le_refl _, by simp [maxLen], by simp [stRow], ?_⟩⟩, fun i hi hj => ?_⟩
  · simp [rowsS, stRow]
  · obtain rfl : i = 0 := by simp at hi; omega
    exact ho
/-- append(seen, s). -/
theorem run_appendSt (hown : OwnSt base w sp k cs hs) (B : Nat) (c : Wc) (h : StH) (hB : w.heap[B]? = some (.cells (stRow c h.1 h.2.1) 53 (0, 0))) (hd : OwnL base w h.1 h.2.1 c.es h.2.2) (hn : cs.length ≤ 1048576) (hbase : base ≤ w.heap.size) (ty : TypeId) :
    ∃ sp' k' w', (Builtin.append_ #[55, 55] ty #[.slice sp cs.length k, .slice (some ⟨B, 0, none⟩) 1 1]).run Tryz.prog w = .ok (.slice sp' (cs.length + 1) k') w' ∧ OwnSt base w' sp' k' (cs ++ [c]) (hs ++ [h]) ∧ w.grownBy w' (blk sp) ∧ (∀ g, blk sp' = some g → blk sp = some g ∨ w.heap.size ≤ g) := by
  obtain ⟨i0, hi, hz0, hz1, hz2⟩ := info_parts infoSt
  obtain ⟨v', w', hrun, h1, h2, h4, h5⟩ := run_append_own_at (P := Tryz.prog) w base 55 ty 53 i0 _ 5 56 Tryz.underlying55 hi hz0 hz1 hz2 rfl (by omega) _ _ _ hown.row ⟨B, 0, none⟩ 1 1 (stRow c h.1 h.2.1).toList (by simp [stRow])
    (fun j u hu => World.news_of_block hB j u hu) (by intro u hu; simp only [stRow, List.mem_cons, List.not_mem_nil, or_false] at hu; rcases hu with rfl | rfl | rfl | rfl | rfl <;> rfl) (by simp only [maxLen]; omega) (by omega) hbase
  have hv : ∃ sp' c', v' = .slice sp' (cs.length + 1) c' := by
    rcases h1.2 with ⟨hv, h0⟩ | ⟨g, cap, cur, hv, _⟩
    · omega
    · exact ⟨_, _, hv⟩
  obtain ⟨sp', k', rfl⟩ := hv
  rw [ownBlock_slice] at h2
  rw [ownBlock_slice, ownBlock_slice] at h5
  have ne : ∀ g, blk sp = some g → ∀ (p : Option Addr) (q : Nat) (es : List EntN) (hx : List (Option Addr × Nat)), OwnL base w p q es hx → ¬ LFoot p hx g := fun g hg p q es hx ho hf => by
    obtain ⟨_, _, cur, hc⟩ := hown.rowT g hg
    obtain ⟨_, _, cur', T, q1, q2⟩ := ho.foot g hf
    rw [hc] at q1
    injection Option.some.inj q1 with _ q3
    rcases q2 with q2 | q2 <;> rw [q2] at q3 <;> exact absurd q3 (by decide)
  refine ⟨sp', k', w', hrun, ⟨by simp [hown.len], ?_, ?_⟩, h2, ?_⟩
  · rw [rowsS_snoc cs hs c h hown.len, List.length_append]
    exact h1
  · intro i hi hj
    rw [List.length_append] at hi
    simp only [List.length_cons, List.length_nil] at hi
    have st : ∀ (p : Option Addr) (q : Nat) (es : List EntN) (hx : List (Option Addr × Nat)), OwnL base w p q es hx → OwnL base w' p q es hx := fun p q es hx ho => ho.same (fun g hg => h2.block g (ho.foot g hg).2.1 (fun e => ne g e.symm p q es hx ho hg))
    by_cases hi' : i < cs.length
    · have hj' : i < hs.length := by rw [hown.len]; exact hi'
      rw [List.getElem_append_left hj']
      simp only [List.getElem_append_left hi']
      exact st _ _ _ _ (hown.dat i hi' hj')
    · have hi2 : i = cs.length := by omega
      have e1 : (cs ++ [c])[i] = c := by rw [List.getElem_append_right (by omega)]; simp
      have e2 : (hs ++ [h])[i] = h := by rw [List.getElem_append_right (by rw [hown.len]; omega)]; simp
      rw [e1, e2]
      exact st _ _ _ _ hd
  · intro g hg
    rcases h5 with h5 | h5
    · exact .inl (by rw [← h5]; exact hg)
    · right
      rw [h5] at hg
      cases hg
      exact Nat.le_refl _
end
theorem wpList_appendSt {w : World} {ops : Array Oper} {rest : List Oper} {o : Oper} {a : Act} {Q : Exit → Act → World → Prop} (hgd : o.guard = none) (s x : Operand)
    (ho : o.op = .call { callee := .builtin .append, args := #[s, x], argTypes := #[55, 55] })
    (base : Nat) (sp : Option Addr) (n k : Nat) (cs : List Wc) (hs : List StH) (hsv : a.eval s = .slice sp n k) (hn : cs.length = n) (hown : OwnSt base w sp k cs hs) (B : Nat) (c : Wc) (h : StH) (hx : a.eval x = .slice (some ⟨B, 0, none⟩) 1 1)
    (hB : w.heap[B]? = some (.cells (stRow c h.1 h.2.1) 53 (0, 0))) (hd : OwnL base w h.1 h.2.1 c.es h.2.2) (hlen : cs.length ≤ 1048576) (hbase : base ≤ w.heap.size)
    (hk : ∀ sp' k' w', OwnSt base w' sp' k' (cs ++ [c]) (hs ++ [h]) → w.grownBy w' (blk sp) → (∀ g, blk sp' = some g → blk sp = some g ∨ w.heap.size ≤ g) → wpList Tryz.prog ops Q rest (a.put o.dst (.slice sp' (n + 1) k')) w') :
    wpList Tryz.prog ops Q (o :: rest) a w := by
  subst hn
  refine wpList_plain hgd fun K hK => ?_
  obtain ⟨sp', k', w', hrun, h1, h2, h3⟩ := run_appendSt (w := w) hown B c h hB hd hlen hbase o.type
  unfold Oper.wp
  simp [execOp, ho, resolve, invoke, builtin, hsv, hx, hrun, Result.andThen]
  exact hK _ _ (hk sp' k' w' h1 h2 h3)
/-- Of each record behind the synced ones what the log was behind it is among those that were seen. -/
def Seen (S : List Wc) (r1 r2 : List (List Nat)) : Prop := ∀ m, m ≤ r2.length → ∃ c ∈ S, contR (r1 ++ r2.take m) = some c
theorem Seen.more {S : List Wc} {r1 r2 : List (List Nat)} (h : Seen S r1 r2) (x : Wc) : Seen (S ++ [x]) r1 r2 := fun m hm => let ⟨c, h1, h2⟩ := h m hm; ⟨c, List.mem_append_left _ h1, h2⟩
theorem Seen.add {S : List Wc} {r1 r2 rs : List (List Nat)} {c : Wc} (h : Seen S r1 r2) (hl : rs.length ≤ 1) (hc : contR (r1 ++ (r2 ++ rs)) = some c) : Seen (S ++ [c]) r1 (r2 ++ rs) := by
  intro m hm
  by_cases h1 : m ≤ r2.length
  · obtain ⟨x, q1, q2⟩ := h m h1
    exact ⟨x, List.mem_append_left _ q1, by rw [List.take_append_of_le_length h1]; exact q2⟩
  · refine ⟨c, by simp, ?_⟩
    rw [List.length_append] at hm
    rw [List.take_of_length_le (by rw [List.length_append]; omega)]
    exact hc
theorem Seen.fresh {r1 : List (List Nat)} {c : Wc} (hc : contR (r1 ++ []) = some c) : Seen [c] r1 [] := by
  intro m hm
  refine ⟨c, by simp, ?_⟩
  rw [List.take_nil]
  exact hc
theorem takeR_len {c c' : Wc} {l : List Nat} (h : takeR c l = some c') : c'.es.length ≤ c.es.length + 1 := by
  cases l with
  | nil => cases h
  | cons k b =>
    rw [takeR_cons] at h
    split at h
    · unfold markR at h
      cases h1 : takeE b 0 with
      | error x => rw [h1] at h; cases h
      | ok r =>
        obtain ⟨i, k1⟩ := r
        rw [h1] at h
        dsimp only at h
        cases h2 : takeE b k1 with
        | error x => rw [h2] at h; cases h
        | ok r2 =>
          obtain ⟨t, k2⟩ := r2
          rw [h2] at h
          dsimp only at h
          split at h
          · cases h
          · cases h
            simp
    · split at h
      · unfold hardR at h
        cases h1 : wholeE b (hardE b 0) with
        | error x => rw [h1] at h; cases h
        | ok r =>
          obtain ⟨t, v⟩ := r
          rw [h1] at h
          cases h
          simp
      · split at h
        · unfold entR at h
          cases h1 : wholeE b (entryE b 0) with
          | error x => rw [h1] at h; cases h
          | ok e =>
            rw [h1] at h
            dsimp only at h
            split at h
            · cases h
              unfold addW
              simp only [List.length_append, List.length_take, List.length_singleton]
              omega
            · cases h
        · cases h
theorem foldR_len : ∀ {rs : List (List Nat)} {c c' : Wc}, foldR c rs = some c' → c'.es.length ≤ c.es.length + rs.length
  | [], c, c', h => by cases h; simp
  | r :: rs, c, c', h => by
    rw [foldR_cons] at h
    cases h1 : takeR c r with
    | none => rw [h1] at h; cases h
    | some c1 =>
      rw [h1] at h
      have := foldR_len h
      have := takeR_len h1
      rw [List.length_cons]
      omega
theorem cat_ge : ∀ rs : List (List Nat), 8 * rs.length ≤ (cat rs).length
  | [] => by simp
  | r :: rs => by
    have := cat_ge rs
    have := frameB_length r
    rw [cat, List.length_append, List.length_cons]
    omega
theorem LS.few {room n : Nat} {ss : Ds} {c : Wc} {r1 r2 : List (List Nat)} (h : LS room ss c n r1 r2) : 8 * c.es.length ≤ room := by
  have h1 := h.cont
  have h2 := h.fit
  have h3 := cat_ge (r1 ++ r2)
  cases hr : r1 ++ r2 with
  | nil => rw [hr] at h1; cases h1
  | cons r rs =>
    rw [hr] at h1 h2 h3
    change (if isMarkL r = true then foldR wc0 (r :: rs) else none) = some c at h1
    split at h1
    · have := foldR_len h1
      simp only [wc0, List.length_nil] at this
      omega
    · cases h1
/-- A log that goes on, and the states that were seen of it. -/
def La (base : Nat) (w0 wr : World) (L d M : Nat) (c : Wc) (S : List Wc) (sp : Option Addr) (k xN : Nat) : Prop :=
  ∃ Av N ss n r1 r2 ep ec hs hS, WAt Av base wr L d M 20000 N ss c n ep ec hs ∧ LS 20000 ss c n r1 r2 ∧ OwnSt base wr sp k S hS ∧ (∀ g, SFoot sp hS g → Av g) ∧ Seen S r1 r2 ∧ (∃ S', S = S' ++ [c]) ∧ N ≤ xN ∧ Below base w0 wr
/-- The same ahead of what is seen next; all is synced, or it is not. -/
def Lb (base : Nat) (w0 wr : World) (L d M : Nat) (c : Wc) (S : List Wc) (sp : Option Addr) (k : Nat) (sure : Bool) (xN : Nat) : Prop :=
  ∃ Av N ss n r1 r2 ep ec hs hS, WAt Av base wr L d M 20000 N ss c n ep ec hs ∧ LS 20000 ss c n r1 r2 ∧ OwnSt base wr sp k S hS ∧ (∀ g, SFoot sp hS g → Av g) ∧ (sure = true → r2 = []) ∧ (sure = false → Seen (S ++ [c]) r1 r2) ∧ N ≤ xN ∧ Below base w0 wr
/-- A log that goes on, with a block aside. -/
def Lc (base : Nat) (w0 wr : World) (L d M : Nat) (c : Wc) (S : List Wc) (sp : Option Addr) (k xN B : Nat) : Prop :=
  ∃ Av N ss n r1 r2 ep ec hs hS, WAt Av base wr L d M 20000 N ss c n ep ec hs ∧ LS 20000 ss c n r1 r2 ∧ OwnSt base wr sp k S hS ∧ (∀ g, SFoot sp hS g → Av g) ∧ Seen S r1 r2 ∧ (∃ S', S = S' ++ [c]) ∧ N ≤ xN ∧ Below base w0 wr ∧ Av B
section
variable {Av : Nat → Prop} {base : Nat} {w0 W V W3 w' : World} {L d M N xN : Nat} {ss : Ds} {c : Wc} {n : Nat} {ep : Option Addr} {ec : Nat} {hs : List (Option Addr × Nat)} {r1 r2 : List (List Nat)} {S : List Wc} {sp sp' : Option Addr} {k k' : Nat} {hS : List StH} {p : Option Addr} {q : Nat} {hx : List (Option Addr × Nat)}
/-- What the log is now is put behind those that were seen. -/
theorem La.push (z : WAt Av base W L d M 20000 N ss c n ep ec hs) (ls : LS 20000 ss c n r1 r2) (o : OwnSt base W sp k S hS) (hf : ∀ g, SFoot sp hS g → Av g) (hs1 : Seen (S ++ [c]) r1 r2) (hb : Below base w0 W) (u : Below W.heap.size W W3) (hx1 : ∀ g, LFoot p hx g → W.heap.size ≤ g)
    (ho : OwnSt base w' sp' k' (S ++ [c]) (hS ++ [(p, q, hx)])) (hg : W3.grownBy w' (blk sp)) (hl : ∀ g, blk sp' = some g → blk sp = some g ∨ W3.heap.size ≤ g) (hN : N ≤ xN) : La base w0 w' L d M c (S ++ [c]) sp' k' xN := by
  have hz := z.dk.le
  have hb2 : Below base W w' := by
    refine ⟨hg.os.trans u.os, hg.tape.trans u.tape, hg.output.trans u.output, Nat.le_trans u.size hg.size, fun g hgb => ?_⟩
    refine (hg.block g (by have := u.size; omega) (fun e => ?_)).trans (u.block g (by omega))
    have := (o.foot g (.inl e.symm)).1
    omega
  refine ⟨_, N, ss, n, r1, r2, ep, ec, hs, _, z.grow (w' := w') (fun g hg1 hn => ?_) hb2, ls, ho, fun g hg1 => ?_, hs1, ⟨S, rfl⟩, hN, hb.trans hb2⟩
  · exact (hg.block g (by have := u.size; omega) (fun e => hn (hf g (.inl e.symm)))).trans (u.block g hg1)
  · have hlt := (ho.foot g hg1).2
    rcases hg1 with hg1 | ⟨y, hy, hg1⟩
    · rcases hl g hg1 with e | e
      · exact .inl (hf g (.inl e))
      · exact .inr ⟨Nat.le_trans u.size e, hlt⟩
    · rcases List.mem_append.1 hy with hy | hy
      · exact .inl (hf g (.inr ⟨y, hy, hg1⟩))
      · rw [List.mem_singleton.1 hy] at hg1
        exact .inr ⟨hx1 g hg1, hlt⟩
/-- The same, with a block aside. -/
theorem Lc.push (z : WAt Av base W L d M 20000 N ss c n ep ec hs) (ls : LS 20000 ss c n r1 r2) (o : OwnSt base W sp k S hS) (hf : ∀ g, SFoot sp hS g → Av g) (hs1 : Seen (S ++ [c]) r1 r2) (hb : Below base w0 W) (u : Below W.heap.size W W3) (hx1 : ∀ g, LFoot p hx g → W.heap.size ≤ g)
    (ho : OwnSt base w' sp' k' (S ++ [c]) (hS ++ [(p, q, hx)])) (hg : W3.grownBy w' (blk sp)) (hl : ∀ g, blk sp' = some g → blk sp = some g ∨ W3.heap.size ≤ g) (hN : N ≤ xN) {B : Nat} (hB : Av B) : Lc base w0 w' L d M c (S ++ [c]) sp' k' xN B := by
  have hz := z.dk.le
  have hb2 : Below base W w' := by
    refine ⟨hg.os.trans u.os, hg.tape.trans u.tape, hg.output.trans u.output, Nat.le_trans u.size hg.size, fun g hgb => ?_⟩
    refine (hg.block g (by have := u.size; omega) (fun e => ?_)).trans (u.block g (by omega))
    have := (o.foot g (.inl e.symm)).1
    omega
  refine ⟨_, N, ss, n, r1, r2, ep, ec, hs, _, z.grow (w' := w') (fun g hg1 hn => ?_) hb2, ls, ho, fun g hg1 => ?_, hs1, ⟨S, rfl⟩, hN, hb.trans hb2, .inl hB⟩
  · exact (hg.block g (by have := u.size; omega) (fun e => hn (hf g (.inl e.symm)))).trans (u.block g hg1)
  · have hlt := (ho.foot g hg1).2
    rcases hg1 with hg1 | ⟨y, hy, hg1⟩
    · rcases hl g hg1 with e | e
      · exact .inl (hf g (.inl e))
      · exact .inr ⟨Nat.le_trans u.size e, hlt⟩
    · rcases List.mem_append.1 hy with hy | hy
      · exact .inl (hf g (.inr ⟨y, hy, hg1⟩))
      · rw [List.mem_singleton.1 hy] at hg1
        exact .inr ⟨hx1 g hg1, hlt⟩
end
end Go.Proofs.YtijcpmbfhfppmaaGreatDoor
end
/- Logs: what several walks ask of entries in memory, and of Compact. -/
section
namespace Go.Proofs.YtijcpmbfhfppmaaGreatDoor
open Go.ChangeShapes Go.WideShapes Go.ChangeAt Go.RowKit
set_option linter.unusedVariables false

/-- One entry in a block of one's own, its data in blocks that stay. -/
theorem one_inE {P : Nat → Prop} {W : World} {E dc : Nat} {kd t i : Int} {dp : Option Addr} {ds : List Nat} (h : W.heap[E]? = some (.cells #[.int .i64 kd, .int .i64 t, .int .i64 i, .slice dp ds.length dc] 60 (0, 0))) (hb : BytesAt W dp ds) (hz : dp = none → dc = 0) (hP : P E) (hQ : ∀ g o, dp = some ⟨g, o, none⟩ → 0 < ds.length → P g) : EntsIn P W (some ⟨E, 0, none⟩) [(kd, t, i, ds)] := by
  refine ⟨⟨fun j hj => ?_⟩, fun b off e h0 => ?_, fun j hj b off dp' dc' n e hc g o e1 h0 => ?_⟩
  · obtain rfl : j = 0 := by simp at hj; omega
    exact ⟨E, 0, dp, dc, rfl, box_cell h 0 _ rfl, box_cell h 1 _ rfl, box_cell h 2 _ rfl, box_cell h 3 _ rfl, hb, hz⟩
  · cases e
    exact hP
  · obtain rfl : j = 0 := by simp at hj; omega
    cases e
    have h3 : W.cell? ⟨E, 3, none⟩ = some (.slice dp ds.length dc) := box_cell h 3 _ rfl
    rw [show (0 + 0 * 4 + 3 : Nat) = 3 from rfl, h3] at hc
    simp only [Option.some.injEq, Value.slice.injEq] at hc
    rw [← hc.1] at e1
    exact hQ g o e1 h0
theorem sumN_mem {es : List EntI} {e : EntI} (h : e ∈ es) : sumN [e] ≤ sumN es := by
  induction es with
  | nil => simp at h
  | cons x r ih =>
    unfold sumN at ih ⊢
    rcases List.mem_cons.1 h with rfl | h
    · simp
    · have := ih h
      simp only [List.map_cons, List.map_nil, List.sum_cons, List.sum_nil] at this ⊢
      omega
theorem compact_plain {room n : Nat} {ss : Ds} {c : Wc} {r1 r2 : List (List Nat)} (ok : WOk c) (ls : LS room ss c n r1 r2) (i : Int) :
    (∃ ss' c' n' r1', wCompact room n c i ss = (0, ss', c', n') ∧ (c.bi : Int) < i ∧ LS room ss' c' n' r1' []) ∨ (∃ r, r ≠ 0 ∧ wCompact room n c i ss = (r, ss, c, n)) ∨ (wCompact room n c i ss = (0, ss, c, n) ∧ ¬ (c.bi : Int) < i) := by
  have hW : wCompact room n c i ss = (if (termW c i).2 = false then (2, ss, c, n) else if i = (c.bi : Int) then (0, ss, c, n) else wNew room n c ⟨i.toNat, (termW c i).1.toNat, c.ht, c.hv, c.es.drop (i.toNat - c.bi)⟩ ss) := rfl
  by_cases h1 : (termW c i).2 = false
  · rw [if_pos h1] at hW
    exact .inr (.inl ⟨2, by omega, hW⟩)
  · rw [if_neg h1] at hW
    by_cases h2 : i = (c.bi : Int)
    · rw [if_pos h2] at hW
      exact .inr (.inr ⟨hW, by omega⟩)
    · rw [if_neg h2] at hW
      have hr : (c.bi : Int) < i ∧ i ≤ ((c.bi + c.es.length : Nat) : Int) := by
        by_cases hq : (c.bi : Int) < i ∧ i ≤ ((c.bi + c.es.length : Nat) : Int)
        · exact hq
        · exfalso
          apply h1
          unfold termW
          rw [if_neg h2, if_neg hq]
      have ht : termW c i = (((c.es.getD (i - (c.bi : Int) - 1).toNat default).2.1 : Int), true) := by
        unfold termW
        rw [if_neg h2, if_pos hr]
      obtain ⟨k, rfl⟩ : ∃ k : Nat, i = (k : Int) := ⟨i.toNat, by omega⟩
      obtain ⟨ok2, ix2, _⟩ := comp_ok ok ls.ix (show c.bi < k by omega) (show k ≤ c.bi + c.es.length by omega) (show (termW c (k : Int)).1 = _ by rw [ht])
      rw [Int.toNat_natCast] at hW
      rcases ls.new ok2 ix2 with ⟨x, h0, hx⟩ | ⟨ss', hx, ls'⟩
      · rw [hx] at hW
        exact .inr (.inl ⟨x, h0, hW⟩)
      · rw [hx] at hW
        exact .inl ⟨_, _, _, _, hW, hr.1, ls'⟩
theorem ownL_le {base : Nat} {w : World} {sp : Option Addr} {c : Nat} {es : List EntN} {hs : List (Option Addr × Nat)} (h : OwnL base w sp c es hs) : es.length ≤ 9223372036854775807 := by
  rcases h.row.2 with ⟨hv, h0⟩ | ⟨g, cap, cur, hv, _, _, hle, hmx, _⟩
  · omega
  · simp only [maxLen] at hmx
    omega
theorem ints_lt {w : World} {a : Option Addr} {l : List Int} (h : IntsAt w a l) : ∀ b off, a = some ⟨b, off, none⟩ → 0 < l.length → b < w.heap.size := fun b off e h0 => by
  obtain ⟨b', off', e', hc⟩ := h.cell 0 h0
  rw [e] at e'
  cases e'
  by_cases hb : b < w.heap.size
  · exact hb
  · unfold World.cell? at hc
    simp only [Array.getElem?_eq_none (Nat.not_lt.1 hb)] at hc
    cases hc
end Go.Proofs.YtijcpmbfhfppmaaGreatDoor
end
