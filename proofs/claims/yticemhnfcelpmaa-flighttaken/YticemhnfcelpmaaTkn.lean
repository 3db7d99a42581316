/- Flight: what was put under way and what was taken, in the law's own memory. -/
import Derived.Test.YticemhnfcelpmaaFl5
import Derived.Test.YticemhnfcelpmaaFl11
import Derived.Test.YticemhnfcelpmaaFl14
import Derived.Test.YticemhnfcelpmaaFl16
import Derived.Maps.OwnSet
import Derived.Maps.Views
namespace Go.Proofs.Yticemhnfcelpmaa
open Go.ChangeShapes Go.WideShapes Go.ChangeAt Go.RowKit Go.Maps

theorem many_calls (a : Option Addr) (n c : Nat) (w : World) (hn : n ≤ maxLen) : Calls Try.prog 6 #[.slice a n c] w fun e w' => e = .returned (.int .i64 ((min n 400 : Nat) : Int)) ∧ w' = w := by
  simp only [maxLen] at hn
  by_cases h4 : n ≤ 400
  · have h5 : (n : Int) ≤ 400 := by omega
    have e : min n 400 = n := by omega
    rw [e]
    go_enter Try.func6, Try.ntmps6
    go_wp2
    go_ret
    exact ⟨rfl, rfl⟩
  · have h5 : ¬ (n : Int) ≤ 400 := by omega
    have e : min n 400 = 400 := by omega
    rw [e]
    go_enter Try.func6, Try.ntmps6
    go_wp2
    go_ret
    exact ⟨rfl, rfl⟩
theorem intLaw : Keyed Try.prog 3 := int_keyed Try.underlying3
theorem wf64 {x : Int} (h : In64 x) : (Lit.int .i64 x).wf = true := WalkArith.wf_i64 h
theorem key64 {x : Int} (h : In64 x) : keyOf Try.prog 3 (.int .i64 x) = some (.int .i64 x) := keyOf_int_mk Try.underlying3 (wf64 h)
def upd (f : Int → Int) (x c : Int) : Int → Int := fun y => if y = x then c else f y
/-- A tally in memory: its map's block B, the voters, what each has. -/
structure TallyAt (w : World) (B n : Nat) (vs : List Int) (f : Int → Int) : Prop where
  map : ∃ D : DataW Unit, w.ownsMap Try.prog 3 (plainElem Try.prog 3) B n D ∧ (∀ x, In64 x → Maps.has D (.int .i64 x) = decide (x ∈ vs)) ∧ (∀ x, In64 x → x ∈ vs → ∀ zd, D.atKey (.int .i64 x) zd = .lit (.int .i64 (f x))) ∧ Maps.size D = vs.length
theorem TallyAt.kept {w w' : World} {B n : Nat} {vs : List Int} {f : Int → Int} {row : Option Nat} (h : TallyAt w B n vs f) (hg : w.grownBy w' row) (hne : some B ≠ row) : TallyAt w' B n vs f := by
  obtain ⟨D, h1, h2⟩ := h.map
  exact ⟨D, h1.kept hg hne, h2⟩
theorem TallyAt.later {w w' : World} {B n : Nat} {vs : List Int} {f : Int → Int} (h : TallyAt w B n vs f) (hb : Below w.heap.size w w') : TallyAt w' B n vs f := h.kept (grown_below none hb) (by simp)
theorem TallyAt.lt {w : World} {B n : Nat} {vs : List Int} {f : Int → Int} (h : TallyAt w B n vs f) : B < w.heap.size := by
  obtain ⟨D, h1, _⟩ := h.map
  exact h1.lt
theorem TallyAt.made (w : World) : TallyAt (w.alloc (.map #[] 0)) w.heap.size 0 [] (fun _ => 0) :=
  ⟨_, World.ownsMap_made (H := Unit) w Try.prog 3 (plainElem Try.prog 3), fun _ _ => rfl, by simp, rfl⟩
theorem TallyAt.store {w : World} {B n : Nat} {vs : List Int} {f : Int → Int} (h : TallyAt w B n vs f) (x c : Int) (hx : In64 x) (hc : In64 c) (hn : n < maxLen) : ∃ w', (Instr.mapUpdate 26 (.map (some B)) (.int .i64 x) (.int .i64 c)).run Try.prog w = .ok () w' ∧ TallyAt w' B (n + 1) (if x ∈ vs then vs else vs ++ [x]) (upd f x c) ∧ w.grownBy w' (some B) := by
  obtain ⟨D, hD, hH, hA, hS⟩ := h.map
  obtain ⟨w', hrun, r1, r2⟩ := hD.update intLaw Try.underlying26 hn (key64 hx) (plainElem_int (H := Unit) Try.underlying3 (wf64 hc))
  have hmap := hD.isMap
  have hkey := intLaw.key (key64 hx)
  have hmem : ∀ y, (y ∈ (if x ∈ vs then vs else vs ++ [x])) ↔ (y ∈ vs ∨ y = x) := by
    intro y
    split
    · rename_i hin
      exact ⟨.inl, fun h => h.elim id (fun e => e ▸ hin)⟩
    · simp
  refine ⟨w', hrun, ⟨_, r1, fun y hy => ?_, fun y hy hyv zd => ?_, ?_⟩, r2⟩
  · by_cases e : y = x
    · subst e
      rw [has_put_same hmap hkey]
      simp [hmem]
    · rw [has_put_other (fun e' => e (by simpa using e')), hH y hy]
      simp [hmem, e]
  · by_cases e : y = x
    · subst e
      rw [atKey_put_same hmap hkey]
      simp [upd]
    · rw [atKey_put_other (fun e' => e (by simpa using e')), hA y hy (((hmem y).1 hyv).resolve_right e)]
      simp [upd, e]
  · rw [size_put (hD.tidy intLaw), hH x hx, hS]
    by_cases e : x ∈ vs
    · simp [e]
    · simp [e]
theorem zero64T (w : World) : (zeroValue 3).run Try.prog w = .ok (.int .i64 0) w := by kernel_rfl
/-- What a tally tells of a number that is not there, and of one that is. -/
theorem TallyAt.look {w : World} {B n : Nat} {vs : List Int} {f : Int → Int} (h : TallyAt w B n vs f) (x : Int) (hx : In64 x) : (Instr.lookup 26 (.map (some B)) (.int .i64 x) false).run Try.prog w = .ok (.int .i64 (if x ∈ vs then f x else 0)) w := by
  obtain ⟨D, hD, hH, hA, hS⟩ := h.map
  obtain ⟨c, hrun, hat, _⟩ := hD.lookup_int intLaw Try.underlying26 Try.underlying3 (zero64T w) (key64 hx)
  rw [hrun]
  have hh := hH x hx
  by_cases e : x ∈ vs
  · rw [hA x hx e] at hat
    simp only [DataW.lit.injEq, Lit.int.injEq, true_and] at hat
    rw [if_pos e, hat]
  · rw [decide_eq_false e] at hh
    rw [atKey_of_not_has hh] at hat
    simp only [DataW.lit.injEq, Lit.int.injEq, true_and] at hat
    rw [if_neg e, hat]
theorem TallyAt.len {w : World} {B n : Nat} {vs : List Int} {f : Int → Int} (h : TallyAt w B n vs f) (ty : TypeId) : (Builtin.len_ #[26] ty #[.map (some B)]).run Try.prog w = .ok (.int .i64 (vs.length : Int)) w := by
  obtain ⟨D, hD, hH, hA, hS⟩ := h.map
  rw [← hS]
  exact hD.len Try.underlying26 ty
theorem TallyAt.isMap {w : World} {B n : Nat} {vs : List Int} {f : Int → Int} (h : TallyAt w B n vs f) : ∃ es k, w.heap[B]? = some (.map es k) := by
  obtain ⟨D, ⟨es, k, hb, _⟩, _⟩ := h.map
  exact ⟨es, k, hb⟩
/-- Packets that the law put: the row is its own, the bytes lie in what came in or in blocks of bytes. -/
structure PutAt (base : Nat) (w : World) (sp : Option Addr) (c : Nat) (ps : List (Pkt × Hdl)) : Prop where
  row : w.ownsRow base 35 4 (.slice sp ps.length c) ps.length (rowsP ps)
  dat : ∀ x ∈ ps, BytesAt w x.2.1 x.1.2.2.2 ∧ ∀ b off, 0 < x.1.2.2.2.length → x.2.1 = some ⟨b, off, none⟩ → b < base ∨ ∃ cur, w.heap[b]? = some (.cells cur 5 (0, 0))
section
variable {base : Nat} {w w' : World} {sp : Option Addr} {c : Nat} {ps : List (Pkt × Hdl)}
theorem PutAt.ofNil (base : Nat) (w : World) : PutAt base w none 0 [] := ⟨w.ownsRow_nil base 35 4, by simp⟩
theorem PutAt.later (h : PutAt base w sp c ps) (hb : Below w.heap.size w w') : PutAt base w' sp c ps :=
  ⟨ownsRow_later h.row hb, fun x hx => ⟨(h.dat x hx).1.later hb, fun b off h0 e => ((h.dat x hx).2 b off h0 e).imp id (fun ⟨cur, hc⟩ => ⟨cur, later_block hb hc⟩)⟩⟩
theorem PutAt.blk_is (h : PutAt base w sp c ps) : ∀ g, blk sp = some g → base ≤ g ∧ ∃ cur : Array Value, w.heap[g]? = some (.cells cur 35 (0, 0)) := by
  intro g hg
  rcases h.row.2 with ⟨hv, _⟩ | ⟨g1, cap, cur, hv, hb, hh, _⟩
  · simp only [Value.slice.injEq] at hv
    rw [hv.1] at hg
    cases hg
  · simp only [Value.slice.injEq] at hv
    rw [hv.1] at hg
    obtain rfl : g1 = g := by simpa [blk] using hg
    exact ⟨hb, cur, hh⟩
/-- Blocks that are not its own, and hold no bytes, may change. -/
theorem PutAt.keptBy (h : PutAt base w sp c ps) (P : Nat → Prop) (hg : ∀ i, i < w.heap.size → ¬ P i → w'.heap[i]? = w.heap[i]?) (hP : ∀ i, P i → base ≤ i ∧ blk sp ≠ some i ∧ ¬ ∃ cur, w.heap[i]? = some (.cells cur 5 (0, 0))) : PutAt base w' sp c ps := by
  refine ⟨⟨h.row.1, ?_⟩, fun x hx => ?_⟩
  · rcases h.row.2 with hv | ⟨g, cap, cur, hv, hbg, hgg, r⟩
    · exact .inl hv
    · refine .inr ⟨g, cap, cur, hv, hbg, (hg g (Array.getElem?_eq_some_iff.1 hgg).1 (fun e => ?_)).trans hgg, r⟩
      simp only [Value.slice.injEq] at hv
      exact (hP g e).2.1 (by rw [hv.1]; rfl)
  · obtain ⟨h1, h2⟩ := h.dat x hx
    have hb : ∀ b off, 0 < x.1.2.2.2.length → x.2.1 = some ⟨b, off, none⟩ → ¬ P b := fun b off h0 e hp => by
      rcases h2 b off h0 e with h3 | h3
      · have := (hP b hp).1; omega
      · exact (hP b hp).2.2 h3
    refine ⟨⟨h1.lt, fun i hi => ?_⟩, fun b off h0 e => (h2 b off h0 e).imp id (fun ⟨cur, hc⟩ => ⟨cur, (hg b (Array.getElem?_eq_some_iff.1 hc).1 (hb b off h0 e)).trans hc⟩)⟩
    obtain ⟨b, off, h3, h4⟩ := h1.cell i hi
    refine ⟨b, off, h3, ?_⟩
    rw [World.cell?_of_block (w := w) (w' := w') (hg b (World.block_lt_of_cell? _ _ h4) (hb b off (by omega) h3))]
    exact h4
theorem PutAt.ngrew {N M n : Nat} {sn sn' : Option Addr} {cn : Nat} {xs : List (Pkt × Hdl)} {last : Int} {S : Int → Int → Bool} {ck : List Int} (h : PutAt base w sp c ps) (hn : NetAt base w N M n sn cn xs last S ck) (g : NGrew N M w sn w' sn') (hap : ∀ g, blk sp = some g → blk sn ≠ some g) : PutAt base w' sp c ps := by
  obtain ⟨D, hD, _⟩ := hn.map
  obtain ⟨es, k, hM, _⟩ := hD
  refine h.keptBy (fun i => i = N ∨ i = M ∨ blk sn = some i) (fun i hi hp => g.block i hi (fun e => hp (.inl e)) (fun e => hp (.inr (.inl e))) (fun e => hp (.inr (.inr e.symm)))) ?_
  rintro i (rfl | rfl | hi)
  · refine ⟨hn.lowN, fun e => ?_, fun ⟨cur, hc⟩ => ?_⟩
    · obtain ⟨_, cur, hc⟩ := h.blk_is _ e
      rw [hn.blk] at hc
      simp at hc
    · rw [hn.blk] at hc
      simp at hc
  · refine ⟨hn.lowM, fun e => ?_, fun ⟨cur, hc⟩ => ?_⟩
    · obtain ⟨_, cur, hc⟩ := h.blk_is _ e
      rw [hM] at hc
      simp at hc
    · rw [hM] at hc
      simp at hc
  · obtain ⟨cu, hcu⟩ := hn.own.blk_is i hi
    refine ⟨(hn.own.blk_ge i hi).1, fun e => hap i e hi, fun ⟨cur, hc⟩ => ?_⟩
    rw [hcu] at hc
    simp at hc
theorem PutAt.map (h : PutAt base w sp c ps) {K : Nat} {es : Array MapEntry} {k : Nat} (hK : w.heap[K]? = some (.map es k)) (hb : base ≤ K) (g : w.grownBy w' (some K)) : PutAt base w' sp c ps := by
  refine h.keptBy (fun i => i = K) (fun i hi hp => g.block i hi (fun e => hp (Option.some.inj e))) ?_
  rintro i rfl
  refine ⟨hb, fun e => ?_, fun ⟨cur, hc⟩ => ?_⟩
  · obtain ⟨_, cur, hc⟩ := h.blk_is _ e
    rw [hK] at hc
    simp at hc
  · rw [hK] at hc
    simp at hc
theorem PutAt.cell (h : PutAt base w sp c ps) (i : Nat) (hi : i < ps.length) : ∃ g, sp = some ⟨g, 0, none⟩ ∧ w.cell? ⟨g, i * 4, none⟩ = some (.int .i64 ps[i].1.1) ∧ w.cell? ⟨g, i * 4 + 1, none⟩ = some (.int .i64 ps[i].1.2.1) ∧ w.cell? ⟨g, i * 4 + 2, none⟩ = some (.int .i64 ps[i].1.2.2.1) ∧ w.cell? ⟨g, i * 4 + 3, none⟩ = some (.slice ps[i].2.1 ps[i].1.2.2.2.length ps[i].2.2) := by
  rcases h.row.2 with ⟨_, h0⟩ | ⟨g, cap, cur, hv, _, hg, _, _, _, ht⟩
  · omega
  · simp only [Value.slice.injEq] at hv
    obtain ⟨rfl, _, _⟩ := hv
    have key : ∀ f, f < 4 → w.cell? ⟨g, i * 4 + f, none⟩ = (pkRow ps[i])[f]? := by
      intro f hf
      rw [cell_of_row w g _ cur _ _ hg]
      have e := rowsP_get ps i f hi hf
      rw [← ht, List.getElem?_take, if_pos (by omega)] at e
      rw [← Array.getElem?_toList, e]
    exact ⟨g, rfl, by simpa [pkRow] using key 0 (by omega), by simpa [pkRow] using key 1 (by omega), by simpa [pkRow] using key 2 (by omega), by simpa [pkRow] using key 3 (by omega)⟩
/-- One more is put. -/
theorem wpList_appendQ {ops : Array Oper} {rest : List Oper} {o : Oper} {a : Act} {Q : Exit → Act → World → Prop} (hgd : o.guard = none) (s x : Operand)
    (ho : o.op = .call { callee := .builtin .append, args := #[s, x], argTypes := #[25, 25] })
    (n : Nat) (hs : a.eval s = .slice sp n c) (hn : ps.length = n) (hown : PutAt base w sp c ps) (B : Nat) (e : Pkt × Hdl) (hx : a.eval x = .slice (some ⟨B, 0, none⟩) 1 1)
    (hB : w.heap[B]? = some (.cells (pkRow e).toArray 35 (0, 0))) (hd : BytesAt w e.2.1 e.1.2.2.2) (hlo : ∀ b off, 0 < e.1.2.2.2.length → e.2.1 = some ⟨b, off, none⟩ → b < base ∨ ∃ cur, w.heap[b]? = some (.cells cur 5 (0, 0))) (hlen : ps.length ≤ 1048576) (hbase : base ≤ w.heap.size)
    (hk : ∀ sp' c' w', PutAt base w' sp' c' (ps ++ [e]) → w.grownBy w' (blk sp) → (∀ g, blk sp' = some g → blk sp = some g ∨ w.heap.size ≤ g) → wpList Try.prog ops Q rest (a.put o.dst (.slice sp' (n + 1) c')) w') :
    wpList Try.prog ops Q (o :: rest) a w := by
  subst hn
  refine wpList_plain hgd fun K hK => ?_
  obtain ⟨i0, hi, hz0, hz1, hz2⟩ := info_parts infoP
  obtain ⟨v', w', hrun, h1, h2, _, h5⟩ := run_append_own_at (P := Try.prog) w base 25 o.type 35 i0 _ 4 48 Try.underlying25 hi hz0 hz1 hz2 rfl (by omega) _ _ _ hown.row ⟨B, 0, none⟩ 1 1 (pkRow e) rfl
    (fun j u hu => by have := World.news_of_block hB j u; simp only at this; exact this hu) (pk_oneCell e) (by simp only [maxLen]; omega) (by omega) hbase
  have hv : ∃ sp' c', v' = .slice sp' (ps.length + 1) c' := by
    rcases h1.2 with ⟨hv, h0⟩ | ⟨g, cap, cur, hv, _⟩
    · omega
    · exact ⟨_, _, hv⟩
  obtain ⟨sp', c', rfl⟩ := hv
  rw [ownBlock_slice] at h2
  rw [ownBlock_slice, ownBlock_slice] at h5
  unfold Oper.wp
  simp [execOp, ho, resolve, invoke, builtin, hs, hx, hrun, Result.andThen]
  refine hK _ _ (hk sp' c' w' ⟨?_, ?_⟩ h2 ?_)
  · rw [rowsP_snoc, List.length_append]
    exact h1
  · have hne : ∀ (x : Pkt × Hdl), (BytesAt w x.2.1 x.1.2.2.2 ∧ ∀ b off, 0 < x.1.2.2.2.length → x.2.1 = some ⟨b, off, none⟩ → b < base ∨ ∃ cur, w.heap[b]? = some (.cells cur 5 (0, 0))) → BytesAt w' x.2.1 x.1.2.2.2 ∧ ∀ b off, 0 < x.1.2.2.2.length → x.2.1 = some ⟨b, off, none⟩ → b < base ∨ ∃ cur, w'.heap[b]? = some (.cells cur 5 (0, 0)) := by
      rintro x ⟨hx1, hx2⟩
      have hb : ∀ b off, 0 < x.1.2.2.2.length → x.2.1 = some ⟨b, off, none⟩ → blk sp ≠ some b := fun b off h0 e' hp => by
        obtain ⟨hge, cu, hcu⟩ := hown.blk_is b hp
        rcases hx2 b off h0 e' with h3 | ⟨cur, h3⟩
        · omega
        · rw [hcu] at h3; simp at h3
      exact ⟨hx1.grownNe h2 hb, fun b off h0 e' => (hx2 b off h0 e').imp id (fun ⟨cur, hc⟩ => ⟨cur, (h2.block b (Array.getElem?_eq_some_iff.1 hc).1 (fun e2 => hb b off h0 e' e2.symm)).trans hc⟩)⟩
    intro y hy
    rcases List.mem_append.1 hy with hy | hy
    · exact hne y (hown.dat y hy)
    · obtain rfl : y = e := by simpa using hy
      exact hne y ⟨hd, hlo⟩
  · intro g hg
    rcases h5 with h5 | h5
    · exact .inl (h5.symm.trans hg)
    · rw [h5] at hg
      exact .inr (Nat.le_of_eq (Option.some.inj hg))
end
/-- What is under way, what was put, what was taken. -/
structure TkInv (xs : List (Pkt × Hdl)) (ps : List (Pkt × Hdl)) (T : List Int) : Prop where
  nd : (xs.map (·.1.1)).Nodup
  pos : ∀ x ∈ xs, ∃ k : Nat, ∃ hk : k < ps.length, x.1.1 = (k : Int) + 1 ∧ ps[k].1 = x.1
  tle : ∀ t ∈ T, 1 ≤ t ∧ t ≤ ps.length
  dis : ∀ t ∈ T, ∀ x ∈ xs, x.1.1 ≠ t
  len : T.length + xs.length = ps.length
  few : ∀ x ∈ xs, x.1.2.2.2.length ≤ 65536
section
variable {xs ps : List (Pkt × Hdl)} {T : List Int}
theorem TkInv.nil : TkInv [] [] [] := ⟨by simp, by simp, by simp, by simp, by simp, by simp⟩
theorem TkInv.put (h : TkInv xs ps T) (f t : Int) (l : List Nat) (hd hd' : Hdl) (hl : l.length ≤ 65536) : TkInv (xs ++ [(((ps.length : Int) + 1, f, t, l), hd)]) (ps ++ [(((ps.length : Int) + 1, f, t, l), hd')]) T := by
  refine ⟨?_, ?_, ?_, ?_, ?_, ?_⟩
  · rw [List.map_append, List.nodup_append]
    refine ⟨h.nd, by simp, ?_⟩
    intro a ha b hb
    simp only [List.map_cons, List.map_nil, List.mem_cons, List.not_mem_nil, or_false] at hb
    obtain ⟨x, hx, rfl⟩ := List.mem_map.1 ha
    obtain ⟨k, hk, e, _⟩ := h.pos x hx
    rw [hb, e]
    omega
  · intro x hx
    rcases List.mem_append.1 hx with hx | hx
    · obtain ⟨k, hk, e, e2⟩ := h.pos x hx
      exact ⟨k, by simp; omega, e, by rw [List.getElem_append_left hk]; exact e2⟩
    · obtain rfl : x = _ := by simpa using hx
      exact ⟨ps.length, by simp, rfl, by simp⟩
  · intro t' ht'
    have := h.tle t' ht'
    simp
    omega
  · intro t' ht' x hx
    rcases List.mem_append.1 hx with hx | hx
    · exact h.dis t' ht' x hx
    · obtain rfl : x = _ := by simpa using hx
      have := h.tle t' ht'
      show (ps.length : Int) + 1 ≠ t'
      omega
  · have := h.len
    simp
    omega
  · intro x hx
    rcases List.mem_append.1 hx with hx | hx
    · exact h.few x hx
    · obtain rfl : x = _ := by simpa using hx
      exact hl
theorem keep_one : ∀ (xs : List (Pkt × Hdl)) (x : Pkt × Hdl), (xs.map (·.1.1)).Nodup → x ∈ xs → (keep (sameId x.1.1) xs).length + 1 = xs.length
  | [], x, _, hx => by simp at hx
  | y :: ys, x, hnd, hx => by
    rw [List.map_cons, List.nodup_cons] at hnd
    unfold keep
    rw [List.filter_cons]
    by_cases e : y.1.1 = x.1.1
    · have hr : ys.filter (fun z => !sameId x.1.1 z.1) = ys := by
        rw [List.filter_eq_self]
        intro z hz
        have : z.1.1 ≠ x.1.1 := fun e2 => hnd.1 (List.mem_map.2 ⟨z, hz, e2.trans e.symm⟩)
        simp [sameId, this]
      rw [hr, if_neg (by simp [sameId, e])]
      simp
    · have hx' : x ∈ ys := by
        rcases List.mem_cons.1 hx with rfl | h
        · exact absurd rfl e
        · exact h
      have := keep_one ys x hnd.2 hx'
      rw [if_pos (by simp [sameId, e])]
      unfold keep at this
      simp only [List.length_cons]
      omega
theorem TkInv.take (h : TkInv xs ps T) (i : Nat) (hi : i < xs.length) : TkInv (keep (sameId xs[i].1.1) xs) ps (T ++ [xs[i].1.1]) ∧ xs[i].1.1 ∉ T ∧ ∃ k : Nat, ∃ hk : k < ps.length, xs[i].1.1 = (k : Int) + 1 ∧ ps[k].1 = xs[i].1 := by
  have hm : xs[i] ∈ xs := List.getElem_mem hi
  have hsub : (keep (sameId xs[i].1.1) xs).Sublist xs := List.filter_sublist
  refine ⟨⟨h.nd.sublist (hsub.map _), fun x hx => h.pos x (hsub.subset hx), ?_, ?_, ?_, fun x hx => h.few x (hsub.subset hx)⟩, fun ht => h.dis _ ht _ hm rfl, h.pos _ hm⟩
  · intro t ht
    rcases List.mem_append.1 ht with ht | ht
    · exact h.tle t ht
    · obtain rfl : t = _ := by simpa using ht
      obtain ⟨k, hk, e, _⟩ := h.pos _ hm
      rw [e]
      omega
  · intro t ht x hx
    rcases List.mem_append.1 ht with ht | ht
    · exact h.dis t ht x (hsub.subset hx)
    · obtain rfl : t = _ := by simpa using ht
      have := (List.mem_filter.1 hx).2
      simpa [sameId] using this
  · have := keep_one xs _ h.nd hm
    have := h.len
    simp
    omega
end
theorem TallyAt.same {w w' : World} {B n : Nat} {vs : List Int} {f : Int → Int} (h : TallyAt w B n vs f) (hb : w'.heap[B]? = w.heap[B]?) : TallyAt w' B n vs f := by
  obtain ⟨D, ⟨es, k, h1, r⟩, r2⟩ := h.map
  exact ⟨D, ⟨es, k, hb.trans h1, r⟩, r2⟩
theorem TallyAt.drewT {w : World} {B n : Nat} {vs : List Int} {f : Int → Int} (h : TallyAt w B n vs f) : TallyAt w.drew B n vs f := h.same rfl
section
variable {base : Nat} {w w' : World} {N M n : Nat} {sn sn' : Option Addr} {cn : Nat} {xs : List (Pkt × Hdl)} {last : Int} {S : Int → Int → Bool} {ck : List Int} {sp : Option Addr} {c : Nat} {ps : List (Pkt × Hdl)}
theorem NetAt.isMap (h : NetAt base w N M n sn cn xs last S ck) : ∃ es k, w.heap[M]? = some (.map es k) := by
  obtain ⟨D, ⟨es, k, hM, _⟩, _⟩ := h.map
  exact ⟨es, k, hM⟩
theorem NetAt.ltM (h : NetAt base w N M n sn cn xs last S ck) : M < w.heap.size := by
  obtain ⟨es, k, hM⟩ := h.isMap
  exact (Array.getElem?_eq_some_iff.1 hM).1
/-- The law's row grows: the net stays. -/
theorem netAside (h : NetAt base w N M n sn cn xs last S ck) (hp : PutAt base w sp c ps) (hap : ∀ g, blk sp = some g → blk sn ≠ some g) (hg : w.grownBy w' (blk sp)) : NetAt base w' N M n sn cn xs last S ck := by
  cases hb : blk sp with
  | none =>
    rw [hb] at hg
    exact h.later ⟨hg.os, hg.tape, hg.output, hg.size, fun i hi => hg.block i hi (by simp)⟩
  | some g =>
    rw [hb] at hg
    obtain ⟨hge, cur, hcur⟩ := hp.blk_is g hb
    obtain ⟨es, k, hM⟩ := h.isMap
    refine net_apart h hg (fun e => ?_) (fun e => ?_) (hap g hb) (fun x hx g' hg' e => ?_)
    · rw [← e, h.blk] at hcur; simp at hcur
    · rw [← e, hM] at hcur; simp at hcur
    · obtain rfl := Option.some.inj e
      exact (h.own.dat.own x hx).1.ne_block hcur (by decide) hg'
/-- Another map changes: the net stays. -/
theorem netAsideMap (h : NetAt base w N M n sn cn xs last S ck) {K : Nat} {es : Array MapEntry} {k : Nat} (hK : w.heap[K]? = some (.map es k)) (hne : M ≠ K) (hg : w.grownBy w' (some K)) : NetAt base w' N M n sn cn xs last S ck := by
  refine net_apart h hg (fun e => ?_) hne (fun e => h.own.ne_map hK e) (fun x hx g' hg' e => ?_)
  · rw [← e, h.blk] at hK; simp at hK
  · obtain rfl := Option.some.inj e
    exact (h.own.dat.own x hx).1.ne_map hK hg'
/-- What a step of the net leaves: other maps, and what was made since. -/
theorem NGrew.otherMap (g : NGrew N M w sn w' sn') (h : NetAt base w N M n sn cn xs last S ck) {K : Nat} {es : Array MapEntry} {k : Nat} (hK : w.heap[K]? = some (.map es k)) (hne : M ≠ K) : w'.heap[K]? = w.heap[K]? :=
  g.block K (Array.getElem?_eq_some_iff.1 hK).1 (fun e => by rw [e, h.blk] at hK; simp at hK) (fun e => hne e.symm) (fun e => h.own.ne_map hK e.symm)
theorem NGrew.newer {w0 : World} (g : NGrew N M w sn w' sn') (h : NetAt base w0 N M n sn cn xs last S ck) {j : Nat} {o : Obj} (hj : w0.heap.size ≤ j) (ho : w.heap[j]? = some o) : w'.heap[j]? = some o :=
  (g.block j (Array.getElem?_eq_some_iff.1 ho).1 (fun e => by have := h.ltN; omega) (fun e => by have := h.ltM; omega) (fun e => by have := (h.own.blk_ge j e.symm).2; omega)).trans ho
theorem OwnB.hi {b : Nat} {a : Option Addr} {k : Nat} {l : List Nat} (h : OwnB b w a k l) (hk : ∀ i o, b ≤ i → w.heap[i]? = some o → w'.heap[i]? = some o) : OwnB b w' a k l := by
  refine ⟨⟨h.owns.1, ?_⟩, h.lt⟩
  rcases h.owns.2 with hv | ⟨g, cap, cur, hv, hbg, hgg, r⟩
  · exact .inl hv
  · exact .inr ⟨g, cap, cur, hv, hbg, hk g _ hbg hgg, r⟩
theorem OwnP.hi {b top : Nat} {a : Option Addr} {k : Nat} (h : OwnP b top w a k xs) (hk : ∀ i o, b ≤ i → w.heap[i]? = some o → w'.heap[i]? = some o) : OwnP b top w' a k xs := by
  refine ⟨⟨h.row.1, ?_⟩, fun x hx => ⟨(h.dat.own x hx).1.hi hk, (h.dat.own x hx).2⟩, h.dat.apart⟩
  rcases h.row.2 with hv | ⟨g, cap, cur, hv, hbg, hgg, r⟩
  · exact .inl hv
  · exact .inr ⟨g, cap, cur, hv, hbg, hk g _ hbg hgg, r⟩
theorem OwnB.isBytes {b : Nat} {a : Option Addr} {k : Nat} {l : List Nat} (h : OwnB b w a k l) : ∀ g off, a = some ⟨g, off, none⟩ → ∃ cur : Array Value, w.heap[g]? = some (.cells cur 5 (0, 0)) := by
  intro g off e
  rcases h.owns.2 with ⟨hv, _⟩ | ⟨g1, cap, cur, hv, _, hh, _⟩
  · simp only [Value.slice.injEq] at hv
    rw [hv.1] at e
    cases e
  · simp only [Value.slice.injEq] at hv
    rw [hv.1] at e
    simp only [Option.some.injEq, Addr.mk.injEq, and_true] at e
    obtain ⟨rfl, _⟩ := e
    exact ⟨cur, hh⟩
end
end Go.Proofs.Yticemhnfcelpmaa
