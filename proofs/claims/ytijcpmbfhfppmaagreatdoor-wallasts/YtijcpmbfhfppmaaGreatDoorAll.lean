/- The contract of frame.All: what all frames from the beginning on hold, and the place behind them. -/
import Derived.Test.YtijcpmbfhfppmaaGreatDoorApp
import Derived.Test.YtijcpmbfhfppmaaGreatDoorLiv
namespace Go.Proofs.YtijcpmbfhfppmaaGreatDoor
open Go.ChangeShapes Go.WideShapes Go.ChangeAt Go.RowKit

/-- Rows of bytes in memory of the call's own. -/
structure OwnS (base : Nat) (w : World) (v : Value) (hs : List (List Nat)) : Prop where
  ex : ∃ cs : List Value, w.ownsRow base 58 1 v hs.length cs ∧ ∀ i, i < hs.length → ∃ p c, cs[i]? = some (.slice p (hs.getD i []).length c) ∧ OwnB base w p c (hs.getD i [])
  lt : ∀ h ∈ hs, ∀ c ∈ h, c < 256

theorem OwnS.ofNil (base : Nat) (w : World) : OwnS base w (.slice none 0 0) [] :=
  ⟨⟨[], w.ownsRow_nil base 58 1, by simp⟩, by simp⟩
theorem OwnS.form {base : Nat} {w : World} {v : Value} {hs : List (List Nat)} (h : OwnS base w v hs) : ∃ sp c, v = .slice sp hs.length c := by
  obtain ⟨cs, ho, _⟩ := h.ex
  rcases ho.2 with ⟨hv, h0⟩ | ⟨g, cap, cur, hv, _⟩
  · exact ⟨none, 0, by rw [hv, h0]⟩
  · exact ⟨_, _, hv⟩
theorem OwnS.later {base : Nat} {w w' : World} {v : Value} {hs : List (List Nat)} (h : OwnS base w v hs) (hb : Below w.heap.size w w') : OwnS base w' v hs := by
  obtain ⟨cs, ho, hc⟩ := h.ex
  refine ⟨⟨cs, ⟨ho.1, ?_⟩, fun i hi => ?_⟩, h.lt⟩
  · rcases ho.2 with hv | ⟨g, cap, cur, hv, hbg, hg, r⟩
    · exact .inl hv
    · exact .inr ⟨g, cap, cur, hv, hbg, (hb.block g (Array.getElem?_eq_some_iff.1 hg).1).trans hg, r⟩
  · obtain ⟨p, c, h1, h2⟩ := hc i hi
    exact ⟨p, c, h1, h2.later hb⟩
theorem OwnS.mono {base base' : Nat} {w : World} {v : Value} {hs : List (List Nat)} (h : OwnS base w v hs) (hb : base' ≤ base) : OwnS base' w v hs := by
  obtain ⟨cs, ho, hc⟩ := h.ex
  refine ⟨⟨cs, ⟨ho.1, ?_⟩, fun i hi => ?_⟩, h.lt⟩
  · rcases ho.2 with hv | ⟨g, cap, cur, hv, hbg, r⟩
    · exact .inl hv
    · exact .inr ⟨g, cap, cur, hv, by omega, r⟩
  · obtain ⟨p, c, h1, h2⟩ := hc i hi
    exact ⟨p, c, h1, h2.mono hb⟩
theorem infoS : (Tryz.prog.info? 58).map (fun i => (i.zero, i.size, i.bytes)) = some (some (.slice none 0 0), 1, 24) := by kernel_rfl

theorem wpList_appendS {w : World} {ops : Array Oper} {rest : List Oper} {o : Oper} {a : Act} {Q : Exit → Act → World → Prop} (hgd : o.guard = none) (s x : Operand)
    (ho : o.op = .call { callee := .builtin .append, args := #[s, x], argTypes := #[140, 140] })
    (base : Nat) (v : Value) (hs : List (List Nat)) (he : a.eval s = v) (hown : OwnS base w v hs)
    (B : Nat) (hx : a.eval x = .slice (some ⟨B, 0, none⟩) 1 1) (p : Option Addr) (pc : Nat) (h : List Nat) (hB : w.cell? ⟨B, 0, none⟩ = some (.slice p h.length pc))
    (hg : OwnB base w p pc h) (hsz : hs.length ≤ 1099511627776) (hbase : base ≤ w.heap.size)
    (K : ∀ v' w', OwnS base w' v' (hs ++ [h]) → Below base w w' → wpList Tryz.prog ops Q rest (a.put o.dst v') w') :
    wpList Tryz.prog ops Q (o :: rest) a w := by
  obtain ⟨i0, hi, hz0, hz1, hz2⟩ := info_parts infoS
  obtain ⟨cs, ho1, hc⟩ := hown.ex
  refine wpList_append_own (w := w) hgd s x 140 ho base 58 i0 (.slice none 0 0) 1 24 Tryz.underlying140 hi hz0 hz1 hz2 rfl (by omega) v hs.length cs he ho1 ⟨B, 0, none⟩ 1 1 [.slice p h.length pc] hx rfl ?_ ?_ ?_ ?_ hbase ?_
  · intro j u hu
    cases j with
    | zero => simp only [List.getElem?_cons_zero, Option.some.injEq] at hu; subst hu; rw [Addr.add_lit]; exact hB
    | succ j => simp at hu
  · intro u hu
    simp only [List.mem_cons, List.not_mem_nil, or_false] at hu
    subst hu
    rfl
  · simp only [maxLen]; omega
  · omega
  · intro v' w' h1 h2 _
    have hbel : Below base w w' := (Below.refl base w).grown h2 hbase (fun j hj => (ho1.lt j hj).1)
    refine K v' w' ⟨⟨cs ++ [.slice p h.length pc], by rw [List.length_append]; exact h1, fun i hi => ?_⟩, ?_⟩ hbel
    · have hcl : cs.length = hs.length := by have := ho1.1; omega
      have hkeep : ∀ (p : Option Addr) (c : Nat) (x : List Nat), OwnB base w p c x → OwnB base w' p c x := by
        intro p c x hx
        refine ⟨⟨hx.owns.1, ?_⟩, hx.lt⟩
        rcases hx.owns.2 with hv | ⟨g', cap, cur, hv, hbg, hg', r⟩
        · exact .inl hv
        · refine .inr ⟨g', cap, cur, hv, hbg, ?_, r⟩
          rw [h2.block g' (Array.getElem?_eq_some_iff.1 hg').1 ?_]
          · exact hg'
          · intro e
            rcases ho1.2 with ⟨hv, _⟩ | ⟨gg, cap, cc, hv, _, hgg, _⟩
            · rw [hv] at e; simp [Value.ownBlock] at e
            · rw [hv] at e
              simp only [Value.ownBlock, Option.some.injEq] at e
              subst e
              rw [hg'] at hgg
              simp only [Option.some.injEq, Obj.cells.injEq] at hgg
              exact absurd hgg.2.1 (by decide)
      rw [List.length_append] at hi
      by_cases hlt' : i < hs.length
      · obtain ⟨p', c', r1, r2⟩ := hc i hlt'
        have e1 : (hs ++ [h]).getD i [] = hs.getD i [] := by rw [List.getD_eq_getElem?_getD, List.getElem?_append_left hlt', List.getD_eq_getElem?_getD]
        rw [e1, List.getElem?_append_left (by omega)]
        exact ⟨p', c', r1, hkeep p' c' _ r2⟩
      · have hi' : i = hs.length := by simp at hi; omega
        have e1 : (hs ++ [h]).getD i [] = h := by rw [List.getD_eq_getElem?_getD, hi', List.getElem?_append_right (Nat.le_refl _), Nat.sub_self]; rfl
        rw [e1, hi', ← hcl, List.getElem?_append_right (Nat.le_refl _), Nat.sub_self]
        exact ⟨p, pc, rfl, hkeep p pc h hg⟩
    · intro x hx
      rcases List.mem_append.1 hx with h3 | h3
      · exact hown.lt x h3
      · simp only [List.mem_cons, List.not_mem_nil, or_false] at h3; subst h3; exact hg.lt

/-- The frames from a place to another one. -/
def Steps (l : List Nat) : Nat → List (List Nat) → Nat → Prop
  | k0, [], k => k0 = k
  | k0, h :: r, k => nextE l k0 = 0 ∧ nextH l k0 = h ∧ Steps l (k0 + 8 + h.length) r k
theorem Steps.snoc {l : List Nat} : ∀ {hs : List (List Nat)} {k0 k : Nat}, Steps l k0 hs k → nextE l k = 0 → Steps l k0 (hs ++ [nextH l k]) (k + 8 + (nextH l k).length)
  | [], k0, k, h, he => by
    have e : k0 = k := h
    subst e
    exact ⟨he, rfl, rfl⟩
  | x :: r, k0, k, h, he => ⟨h.1, h.2.1, h.2.2.snoc he⟩
theorem Steps.uniq {l : List Nat} : ∀ {hs hs' : List (List Nat)} {k0 k k' : Nat}, Steps l k0 hs k → 0 < nextE l k → Steps l k0 hs' k' → 0 < nextE l k' → hs = hs' ∧ k = k'
  | [], [], k0, k, k', h, _, h', _ => ⟨rfl, (show k0 = k from h).symm.trans h'⟩
  | [], y :: r', k0, k, k', h, he, h', _ => by
    have e : k0 = k := h
    subst e
    have := h'.1
    omega
  | x :: r, [], k0, k, k', h, _, h', he' => by
    have e : k0 = k' := h'
    subst e
    have := h.1
    omega
  | x :: r, y :: r', k0, k, k', h, he, h', he' => by
    have exy : x = y := h.2.1.symm.trans h'.2.1
    subst exy
    obtain ⟨e1, e2⟩ := Steps.uniq h.2.2 he h'.2.2 he'
    exact ⟨by rw [e1], e2⟩
theorem Steps.length_le {l : List Nat} : ∀ {hs : List (List Nat)} {k0 k : Nat}, Steps l k0 hs k → k0 + 8 * hs.length ≤ k
  | [], k0, k, h => by have e : k0 = k := h; subst e; simp
  | x :: r, k0, k, h => by have := h.2.2.length_le; simp only [List.length_cons]; omega
/-- A frame that is there ends within the bytes. -/
theorem nextE_zero {l : List Nat} {k : Nat} (h : nextE l k = 0) : 8 ≤ l.length - k ∧ (nextH l k).length = num4 (l.drop k) ∧ k + 8 + (nextH l k).length ≤ l.length := by
  unfold nextE at h
  split at h
  · omega
  · split at h
    · omega
    · split at h
      · omega
      · next h1 _ h3 =>
        refine ⟨by omega, ?_, ?_⟩
        · simp only [nextH, List.length_take, List.length_drop]; omega
        · simp only [nextH, List.length_take, List.length_drop]; omega

theorem nextH_lt {l : List Nat} (h : ∀ c ∈ l, c < 256) (k : Nat) : ∀ c ∈ nextH l k, c < 256 := fun c hc => h c (List.mem_of_mem_drop (List.mem_of_mem_take hc))

/-- Next at any place that may be. -/
theorem next_any (a : Option Addr) (c : Nat) (l : List Nat) (k : Nat) (w : World) (hl : l.length ≤ maxLen) (hc : l.length ≤ c) (hk : k ≤ l.length) (hb : BytesAt w a l) :
    Calls Tryz.prog 132 #[.slice a l.length c, .int .i64 (k : Int)] w fun e w' => Below w.heap.size w w' ∧
      ((0 < nextE l k ∧ e = .returned (.tuple #[.slice none 0 0, .int .i64 0, .int .i64 (nextE l k : Nat)])) ∨
       (nextE l k = 0 ∧ ∃ g, e = .returned (.tuple #[.slice (some ⟨g, 0, none⟩) (nextH l k).length (nextH l k).length, .int .i64 ((k + 8 + (nextH l k).length : Nat) : Int), .int .i64 0]) ∧ w.heap.size ≤ g ∧ w'.heap[g]? = some (.cells ((nextH l k).map byteV).toArray 5 (0, 0)))) := by
  by_cases h8 : l.length - k < 8
  · refine (next_short a c l k w hl hk h8).mono ?_
    rintro e w' ⟨rfl, rfl⟩
    have e3 : nextE l k = 3 := by unfold nextE; rw [if_pos h8]
    exact ⟨Below.refl _ _, .inl ⟨by omega, by rw [e3]; rfl⟩⟩
  · exact next_calls a c l k w hl hc hk h8 hb

set_option maxHeartbeats 1000000 in
theorem all_calls (a : Option Addr) (c : Nat) (l : List Nat) (w : World) (hl : l.length ≤ 1099511627776) (hc : l.length ≤ c) (hb : BytesAt w a l) :
    Calls Tryz.prog 100 #[.slice a l.length c] w fun e w' => ∃ v hs k, e = .returned (.tuple #[v, .int .i64 ((k : Nat) : Int)]) ∧ Below w.heap.size w w' ∧ OwnS w.heap.size w' v hs ∧ Steps l 0 hs k ∧ 0 < nextE l k ∧ k ≤ l.length := by
  have HB := hide hb
  have HM := hide (show l.length ≤ maxLen by simp only [maxLen]; omega)
  clear hb
  go_enter Tryz.func100, Tryz.ntmps100
  go_wp2
  go_loopw [4, 5] (fun v i wr => ∃ (hs : List (List Nat)) (k : Nat), k ≤ l.length ∧ i = .int .i64 (k : Int) ∧ Hid (Below w.heap.size w wr) ∧ Hid (OwnS w.heap.size wr v hs) ∧ Hid (Steps l 0 hs k)) (fun _ i _ => l.length - (intOf i).toNat)
  case atStart => exact ⟨[], 0, by omega, rfl, Below.refl _ _, OwnS.ofNil _ _, rfl⟩
  case round =>
    obtain ⟨hs, k, hk, rfl, hbw, hown, hst⟩ := hrel
    have HBr := hide ((unhide HB).later (unhide hbw))
    go_wp2_with fail
    refine (next_any _ _ l k _ (unhide HM) hc hk (unhide HBr)).mono ?_
    rintro e W1 ⟨hb1, ⟨hp, rfl⟩ | ⟨he, g, rfl, hg, hcell⟩⟩
    · have hne : ((nextE l k : Nat) : Int) != 0 := by simp; omega
      have Hp := hide hp
      have hown1 := hide ((unhide hown).later hb1)
      have hbw1 := hide ((unhide hbw).trans (hb1.mono (unhide hbw).size))
      clear hp
      generalize hE : nextE l k = E at *
      have HE := hide hE
      clear hE
      go_wp2
      go_ret2
      exact ⟨u4, hs, k, rfl, unhide hbw1, unhide hown1, unhide hst, by rw [unhide HE]; exact unhide Hp, hk⟩
    · obtain ⟨z1, z2, z3⟩ := nextE_zero he
      have hst' := hide ((unhide hst).snoc he)
      have hlt := hide (nextH_lt (unhide HB).lt k)
      have hown1 := hide ((unhide hown).later hb1)
      have hbw1 := hide ((unhide hbw).trans (hb1.mono (unhide hbw).size))
      have hlen := (unhide hst).length_le
      have hbg : w.heap.size ≤ g := Nat.le_trans (unhide hbw).size hg
      have Hcell := hide hcell
      clear he z1 z2 hcell
      generalize nextH l k = H at *
      have r1 := hide (show hs.length ≤ 1099511627776 by omega)
      have r2 := hide (show k + 8 + H.length ≤ l.length from z3)
      have hB := hide (World.cell?_alloc_new (w := W1) #[.slice (some ⟨g, 0, none⟩) H.length H.length] 58 0)
      have bA := hide (show Below W1.heap.size W1 (W1.alloc (.cells #[.slice (some ⟨g, 0, none⟩) H.length H.length] 58)) from (Below.refl _ _).alloc (Nat.le_refl _) _)
      have HO := hide ((OwnB.ofBlock (unhide Hcell) hbg (unhide hlt) (Nat.le_trans (Nat.le_trans (Nat.le_add_left _ _) z3) (unhide HM))).later (unhide bA))
      clear hlen
      go_wp2_with (at_builtin; refine wpList_appendS rfl (.tmp 20) (.tmp 22) rfl w.heap.size u4 hs rfl (by exact (unhide hown1).later (unhide bA)) W1.heap.size rfl (some ⟨g, 0, none⟩) H.length H (by exact unhide hB) (by exact unhide HO) (unhide r1) ?hbase ?_; rotate_right; intro v2 W2 ho2 hb2)
      case hbase => exact Nat.le_trans (unhide hbw1).size (unhide bA).size
      have r3 := unhide r2
      exact ⟨⟨hs ++ [H], k + 8 + H.length, r3, by go_num, ((unhide hbw1).trans ((unhide bA).mono (unhide hbw1).size)).trans hb2, ho2, unhide hst'⟩, by simp [intOf]; omega⟩
end Go.Proofs.YtijcpmbfhfppmaaGreatDoor
