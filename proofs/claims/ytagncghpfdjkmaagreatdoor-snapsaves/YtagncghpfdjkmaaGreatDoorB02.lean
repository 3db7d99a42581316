/- Disk: copies of bytes, bytes laid over bytes. -/
import Derived.Test.YtagncghpfdjkmaaGreatDoorB01
import Derived.Laws.CopyOwn
import Derived.Laws.AppendOwn
import Derived.ArgAppend
import Derived.Laws.Tables
import Derived.Laws.Rows
import Derived.Maps.AppendAt
import Derived.Deep.RegionLaw
section
namespace Go.Proofs.YtagncghpfdjkmaaGreatDoor
open Go.ChangeShapes Go.WideShapes Go.ChangeAt Go.RowKit

/-- Bytes with others over them from a place on. -/
def overL (l : List Nat) (k : Nat) (o : List Nat) : List Nat := l.take k ++ (o ++ l.drop (k + o.length))
theorem overL_nil (l : List Nat) (k : Nat) : overL l k [] = l := by simp [overL]
theorem overL_length (l : List Nat) (k : Nat) (o : List Nat) (hk : k ≤ l.length) : (overL l k o).length = max l.length (k + o.length) := by
  simp only [overL, List.length_append, List.length_take, List.length_drop]
  omega
theorem overL_lt {l o : List Nat} (k : Nat) (hl : ∀ c ∈ l, c < 256) (ho : ∀ c ∈ o, c < 256) : ∀ c ∈ overL l k o, c < 256 := by
  intro c hc
  simp only [overL, List.mem_append] at hc
  rcases hc with h | h | h
  · exact hl c (List.mem_of_mem_take h)
  · exact ho c h
  · exact hl c (List.mem_of_mem_drop h)
theorem overL_two (l : List Nat) (k n : Nat) (o : List Nat) (hk : k ≤ l.length) (hn : n = min o.length (l.length - k)) : overL l k (o.take n) ++ o.drop n = overL l k o := by
  unfold overL
  by_cases h : o.length ≤ l.length - k
  · have e : n = o.length := by omega
    rw [e, List.take_of_length_le (Nat.le_refl _), List.drop_of_length_le (Nat.le_refl _), List.append_nil]
  · have e : n = l.length - k := by omega
    have h1 : (o.take n).length = n := by rw [List.length_take]; omega
    have h2 : l.drop (k + n) = [] := List.drop_of_length_le (by omega)
    have h3 : l.drop (k + o.length) = [] := List.drop_of_length_le (by omega)
    rw [h1, h2, h3, List.append_nil, List.append_nil, List.append_assoc, List.take_append_drop]
/-- Bytes of one's own, in a block that may be longer than their room. -/
structure Bx (base : Nat) (w : World) (sp : Option Addr) (c : Nat) (l : List Nat) : Prop where
  lt : ∀ x ∈ l, x < 256
  row : (sp = none ∧ c = 0 ∧ l = []) ∨ ∃ (g : Nat) (cur : List Value), sp = some ⟨g, 0, none⟩ ∧ base ≤ g ∧ w.heap[g]? = some (.cells cur.toArray 5 (0, 0)) ∧ l.length ≤ c ∧ c ≤ cur.length ∧ c ≤ maxLen ∧ cur.take l.length = l.map byteV
section
variable {base : Nat} {w w' : World} {sp : Option Addr} {c : Nat} {l : List Nat}
theorem Bx.ofNil (base : Nat) (w : World) : Bx base w none 0 [] := ⟨by simp, .inl ⟨rfl, rfl, rfl⟩⟩
theorem OwnB.toBx (h : OwnB base w sp c l) : Bx base w sp c l := by
  refine ⟨h.lt, ?_⟩
  rcases h.owns.2 with ⟨hv, h1⟩ | ⟨g, cap, cur, hv, hb, hg, hle, hmx, hsz, ht⟩
  · simp only [Value.slice.injEq] at hv
    exact .inl ⟨hv.1, hv.2.2, List.eq_nil_of_length_eq_zero h1⟩
  · simp only [Value.slice.injEq] at hv
    obtain ⟨rfl, _, rfl⟩ := hv
    obtain ⟨cl⟩ := cur
    have h2 : cl.length = c * 1 := hsz
    have h3 : cl.take (l.length * 1) = l.map byteV := ht
    rw [Nat.mul_one] at h2 h3
    exact .inr ⟨g, cl, rfl, hb, hg, hle, by omega, hmx, h3⟩
theorem Bx.bytes (h : Bx base w sp c l) : BytesAt w sp l := by
  refine ⟨h.lt, fun i hi => ?_⟩
  rcases h.row with ⟨_, _, rfl⟩ | ⟨g, cur, rfl, _, hg, _, _, _, ht⟩
  · simp at hi
  · refine ⟨g, 0, rfl, ?_⟩
    rw [cell_of_row w g (0 + i) _ _ _ hg, Nat.zero_add]
    have e : (l.map byteV)[i]? = some (byteV (l.getD i 0)) := by
      rw [List.getElem?_map, List.getElem?_eq_getElem hi, List.getD_eq_getElem?_getD, List.getElem?_eq_getElem hi]; rfl
    rw [← ht, List.getElem?_take, if_pos hi] at e
    have e2 : cur.toArray[i]? = cur[i]? := by simp
    exact e2.trans e
theorem Bx.cap (h : Bx base w sp c l) : l.length ≤ c ∧ c ≤ maxLen := by
  rcases h.row with ⟨_, rfl, rfl⟩ | ⟨g, cur, _, _, _, h1, _, h2, _⟩
  · exact ⟨by simp, by simp [maxLen]⟩
  · exact ⟨h1, h2⟩
theorem Bx.nil0 (h : Bx base w sp c l) : sp = none → c = 0 := by
  intro e
  rcases h.row with ⟨_, h1, _⟩ | ⟨g, cur, h1, _⟩
  · exact h1
  · rw [h1] at e; cases e
theorem Bx.isT (h : Bx base w sp c l) : ∀ g, blk sp = some g → base ≤ g ∧ g < w.heap.size ∧ ∃ cur : Array Value, w.heap[g]? = some (.cells cur 5 (0, 0)) := by
  intro g hg
  rcases h.row with ⟨h1, _⟩ | ⟨g1, cur, h1, hb, hh, _⟩
  · rw [h1] at hg; cases hg
  · rw [h1] at hg
    obtain rfl : g1 = g := by simpa [blk] using hg
    exact ⟨hb, (Array.getElem?_eq_some_iff.1 hh).1, _, hh⟩
theorem Bx.grownNe {o : Option Nat} (h : Bx base w sp c l) (hg : w.grownBy w' o) (hne : ∀ g, blk sp = some g → o ≠ some g) : Bx base w' sp c l := by
  refine ⟨h.lt, ?_⟩
  rcases h.row with hv | ⟨g, cur, h1, hb, hh, r⟩
  · exact .inl hv
  · exact .inr ⟨g, cur, h1, hb, (hg.block g (Array.getElem?_eq_some_iff.1 hh).1 (fun e => hne g (by rw [h1]; rfl) e.symm)).trans hh, r⟩
theorem Bx.later (h : Bx base w sp c l) (hb : Below w.heap.size w w') : Bx base w' sp c l := by
  refine ⟨h.lt, ?_⟩
  rcases h.row with hv | ⟨g, cur, h1, hbg, hh, r⟩
  · exact .inl hv
  · exact .inr ⟨g, cur, h1, hbg, (hb.block g (Array.getElem?_eq_some_iff.1 hh).1).trans hh, r⟩
theorem Bx.mono {base' : Nat} (h : Bx base w sp c l) (hb : base' ≤ base) : Bx base' w sp c l := by
  refine ⟨h.lt, ?_⟩
  rcases h.row with hv | ⟨g, cur, h1, hbg, r⟩
  · exact .inl hv
  · exact .inr ⟨g, cur, h1, by omega, r⟩
theorem Bx.ne_block (h : Bx base w sp c l) {g : Nat} {cs : Array Value} {T : TypeId} {fr : Nat × Nat} (hg : w.heap[g]? = some (.cells cs T fr)) (hT : T ≠ 5) : blk sp ≠ some g := by
  intro hs
  obtain ⟨_, _, cur, hc⟩ := h.isT g hs
  rw [hc] at hg
  simp only [Option.some.injEq, Obj.cells.injEq] at hg
  exact hT hg.2.1.symm
/-- b[:k] and b[:k:m]. -/
theorem Bx.cut (h : Bx base w sp c l) (k m : Nat) (hk : k ≤ l.length) (hkm : k ≤ m) (hm : m ≤ c) : Bx base w sp m (l.take k) := by
  refine ⟨fun x hx => h.lt x (List.mem_of_mem_take hx), ?_⟩
  have hl : (l.take k).length = k := by rw [List.length_take]; omega
  rcases h.row with ⟨h1, h2, h3⟩ | ⟨g, cur, h1, hb, hg, h2, h3, h4, ht⟩
  · subst h3
    exact .inl ⟨h1, by omega, by simp⟩
  · refine .inr ⟨g, cur, h1, hb, hg, by omega, by omega, by omega, ?_⟩
    rw [hl, List.map_take, ← ht, List.take_take]
    congr 1
    omega
theorem slp_zero (sp : Option Addr) (m : Nat) (h : ∀ ad, sp = some ad → ∃ g, ad = ⟨g, 0, none⟩) : slp sp 0 m = sp := by
  unfold slp
  split
  · rfl
  · cases sp with
    | none => rfl
    | some ad =>
      obtain ⟨g, rfl⟩ := h ad rfl
      simp [Addr.add_lit]
theorem Bx.slp0 (h : Bx base w sp c l) (m : Nat) : slp sp 0 m = sp := slp_zero sp m fun ad e => by
  rcases h.row with ⟨h1, _⟩ | ⟨g, cur, h1, _⟩
  · rw [h1] at e; cases e
  · rw [h1] at e; cases e; exact ⟨g, rfl⟩
theorem grown_setRow (w : World) (g : Nat) (cs : Array Value) : w.grownBy (w.setRow g cs) (some g) :=
  ⟨rfl, rfl, rfl, by simp, fun i _ hne => setRow_other w g i cs (fun e => hne (by rw [e]))⟩
/-- append onto such bytes. -/
theorem run_appendBx (h : Bx base w sp c l) (xp : Option Addr) (m xc : Nat) (k : List Nat) (hk : k.length = m) (hB : BytesAt w xp k) (hx0 : xp = none → xc = 0) (hsz : l.length + m ≤ 140737488355328) (hbase : base ≤ w.heap.size) (ty : TypeId) :
    ∃ sp' c' w', (Builtin.append_ #[27, 27] ty #[.slice sp l.length c, .slice xp m xc]).run Tryz.prog w = .ok (.slice sp' (l ++ k).length c') w' ∧ Bx base w' sp' c' (l ++ k) ∧ Grew w sp w' sp' := by
  rcases h.row with ⟨rfl, rfl, rfl⟩ | ⟨g, cur, rfl, hbg, hg, hle, hcc, hmx, ht⟩
  · obtain ⟨sp', c', w', h1, h2, h3, h4⟩ := run_append8L base none 0 [] (OwnB.ofNil w base) xp m xc k hk hB hx0 hsz hbase ty
    exact ⟨sp', c', w', h1, h2.toBx, h3, h4⟩
  · subst hk
    obtain ⟨i0, hi, hz0, hz1, hz2⟩ := info_parts info8
    cases xp with
    | none =>
      have hk0 : k = [] := by
        cases k with
        | nil => rfl
        | cons x r => obtain ⟨b, off, h, _⟩ := hB.cell 0 (by simp); cases h
      subst hk0
      rw [hx0 rfl]
      refine ⟨some ⟨g, 0, none⟩, c, w, ?_, by rw [List.append_nil]; exact h, Grew.refl _ _⟩
      rw [List.append_nil]
      simp [Builtin.append_, run_underlying Tryz.underlying27, sizeOf, typeInfo, hi, Builtin.lenOf, Builtin.firstCells, hle, storeCells]
    | some ad =>
      have hnews : ∀ j u, (k.map byteV)[j]? = some u → w.cell? (ad.add j) = some u := fun j u hu => by
        have h0 : 0 < (k.map byteV).length := by
          rcases Nat.eq_zero_or_pos (k.map byteV).length with h | h
          · rw [List.getElem?_eq_none (by omega)] at hu; cases hu
          · exact h
        obtain ⟨ad', had, hc⟩ := cells_of_bytesAt hB h0
        cases had
        exact hc j u hu
      have hlt : ∀ x ∈ l ++ k, x < 256 := fun x hx => (List.mem_append.1 hx).elim (h.lt x) (hB.lt x)
      by_cases hroom : l.length + k.length ≤ c
      · have hrun := run_append_room (P := Tryz.prog) w 27 ty 5 i0 Tryz.underlying27 hi g l.length c cur.toArray hg ad k.length xc (k.map byteV) (by rw [hz1]; simp) hnews (oneCell_bytes k) hroom (by rw [hz1]; simp; omega)
        refine ⟨some ⟨g, 0, none⟩, c, _, by rw [List.length_append]; exact hrun, ⟨hlt, .inr ⟨g, _, rfl, hbg, setRow_heap w g _ _ _ _ hg, by rw [List.length_append]; exact hroom, ?_, hmx, ?_⟩⟩, ⟨grown_setRow _ _ _, fun g' hg' => .inl hg'⟩⟩
        · rw [hz1]; simp; omega
        · rw [hz1]
          have hm : (cur.take l.length ++ k.map byteV).length = l.length + k.length := by simp; omega
          have hc2 : (cur.take l.length ++ k.map byteV ++ cur.drop (l.length + k.length)).take (l.length + k.length) = l.map byteV ++ k.map byteV := by
            rw [← hm, List.take_left, ht]
          simpa using hc2
      · obtain ⟨v', w', hrun, h1, h2⟩ := run_append_arg_grows (P := Tryz.prog) (w := w) 27 ty 5 i0 (.int .u8 0) 1 1 Tryz.underlying27 hi hz0 hz1 hz2 rfl (by omega) ⟨g, 0, none⟩ l.length c (l.map byteV) (by simp) (by
          intro j u hu
          rw [Addr.add_lit, Nat.zero_add, cell_of_row w g j _ _ _ hg]
          have hj : j < l.length := by have := (List.getElem?_eq_some_iff.1 hu).1; simpa using this
          rw [← ht, List.getElem?_take, if_pos hj] at hu
          simpa using hu) ad k.length xc (k.map byteV) (by simp) hnews (by omega) (by simp only [maxLen]; omega) (by omega)
        rw [← List.map_append] at h1
        rcases h1.2 with ⟨hv, h3⟩ | ⟨g', cap, cur', hv, hb', hg', hle', hmx', hsz', ht'⟩
        · omega
        · obtain ⟨cl⟩ := cur'
          have h4 : cl.length = cap * 1 := hsz'
          have h5 : cl.take ((l.length + k.length) * 1) = (l ++ k).map byteV := ht'
          rw [Nat.mul_one] at h4 h5
          refine ⟨some ⟨g', 0, none⟩, cap, w', by rw [hrun, hv, List.length_append], ⟨hlt, .inr ⟨g', cl, rfl, by omega, hg', by rw [List.length_append]; exact hle', by omega, hmx', by rw [List.length_append]; exact h5⟩⟩, ⟨?_, fun g2 hg2 => .inr ?_⟩⟩
          · exact ⟨h2.os, h2.tape, h2.output, h2.size, fun j hj _ => h2.block j hj (by simp)⟩
          · obtain rfl : g' = g2 := by simpa [blk] using hg2
            exact hb'
end
end Go.Proofs.YtagncghpfdjkmaaGreatDoor
end
/- Disk: fresh, laid. -/
section
namespace Go.Proofs.YtagncghpfdjkmaaGreatDoor
open Go.ChangeShapes Go.WideShapes Go.ChangeAt Go.RowKit

theorem run_slice_hm8 (a : Option Addr) (len cap h m : Nat) (h1 : h ≤ m) (h2 : m ≤ cap) (u : World) :
    (Instr.slice 27 (.slice a len cap) none (some (.int .i64 (h : Int))) (some (.int .i64 (m : Int)))).run Tryz.prog u = .ok (.slice (slp a 0 m) h m) u := by
  rw [run_slice_hm (w := u) 27 a len cap elem8 .i64 .i64 (h : Int) (m : Int) (by omega) (by omega) (by omega), sizeOf8]
  simp [Result.andThen, sliced, slp]
theorem fresh_calls (a : Option Addr) (n c : Nat) (l : List Nat) (w : World) (hn : l.length = n) (hl : n ≤ 140737488355328) (hb : BytesAt w a l) (hz : a = none → c = 0) :
    Calls Tryz.prog 116 #[.slice a n c] w fun e w' => ∃ sp', e = .returned (.slice sp' n n) ∧ Bx w.heap.size w' sp' n l ∧ Below w.heap.size w w' := by
  have HB := hide hb
  have HN := hide hn
  have HZ := hide hz
  clear hb hn hz
  go_enter Tryz.func116, Tryz.ntmps116
  go_wp2_with (at_builtin; refine unhide ?_)
  refine hide ?_
  refine wpList_append8L rfl (.const (.slice none 0 0)) (.tmp 4) rfl w.heap.size none 0 0 [] rfl rfl (OwnB.ofNil _ _) a n c rfl l (unhide HN) (unhide HB) (unhide HZ) (by simp only [List.length_nil]; omega) (Nat.le_refl _) ?_
  intro sp2 n2 c2 W2 hn2 ho2 hg2 hl2
  rw [List.nil_append] at hn2 ho2
  obtain rfl : n = n2 := (unhide HN).symm.trans (unhide hn2)
  have hx := ho2.toBx
  have hcap : n ≤ c2 := by have := hx.cap.1; rw [unhide HN] at this; exact this
  have hs3 := run_slice_hm8 sp2 n c2 n n (Nat.le_refl _) hcap
  rw [hx.slp0] at hs3
  have B2 := hide (show Below w.heap.size w W2 from (Below.refl _ _).grown hg2 (Nat.le_refl _) (fun g hg => by cases hg))
  have X2 := hide (show Bx w.heap.size W2 sp2 n l by
    have := hx.cut l.length n (Nat.le_refl _) (by rw [unhide HN]; exact Nat.le_refl _) hcap
    rwa [List.take_length] at this)
  clear hg2 hl2 ho2 hx
  go_wp2
  go_ret
  exact ⟨sp2, rfl, unhide X2, unhide B2⟩
theorem overL_take_length (l : List Nat) (k m : Nat) (o : List Nat) (hk : k ≤ l.length) (hm : m ≤ l.length - k) : (overL l k (o.take m)).length = l.length := by
  rw [overL_length _ _ _ hk, List.length_take]; omega
/-- copy(b[at:], over). -/
theorem run_copyBx {base : Nat} {w : World} {sp : Option Addr} {c : Nat} {l : List Nat} (h : Bx base w sp c l) (k : Nat) (hk : k ≤ l.length) (xp : Option Addr) (xn xc : Nat) (o : List Nat) (ho : o.length = xn) (hB : BytesAt w xp o) (ty : TypeId) :
    ∃ w', (Builtin.copy_ #[27, 27] ty #[.slice (slp sp k c) (l.length - k) (c - k), .slice xp xn xc]).run Tryz.prog w = .ok (goInt (min xn (l.length - k) : Nat)) w' ∧ Bx base w' sp c (overL l k (o.take (min xn (l.length - k)))) ∧ w.grownBy w' (blk sp) := by
  by_cases h0 : min xn (l.length - k) = 0
  · rw [h0]
    refine ⟨w, run_copy_none (P := Tryz.prog) w 27 27 ty 5 _ xp _ _ xn xc Tryz.underlying27 size8 h0, ?_, grown_refl _ _⟩
    rw [List.take_zero, overL_nil]
    exact h
  · rcases h.row with ⟨_, _, rfl⟩ | ⟨g, cur, rfl, hbg, hg, hle, hcc, hmx, ht⟩
    · simp at h0
    · have hsl : slp (some ⟨g, 0, none⟩) k c = some ⟨g, k, none⟩ := by
        unfold slp; rw [if_neg (by omega)]; simp [Addr.add_lit]
      generalize hm : min xn (l.length - k) = m at *
      have hlt : (o.take m).length = m := by rw [List.length_take]; omega
      have hlm : ((o.take m).map byteV).length = m := by rw [List.length_map, hlt]
      obtain ⟨ad, rfl, hc⟩ := cells_of_bytesAt (hB.take m) (by rw [hlm]; omega)
      have hrun := run_copy_row (P := Tryz.prog) w 27 27 ty 5 g k (l.length - k) (c - k) ad xn xc cur.toArray 5 ((o.take m).map byteV) Tryz.underlying27 size8 hg (by rw [hlm, ← hm]) hc (by rw [hlm]; simp; omega) (oneCell_bytes _)
      rw [hlm] at hrun
      rw [hsl]
      refine ⟨_, hrun, ⟨overL_lt k h.lt (fun c hc => hB.lt c (List.mem_of_mem_take hc)), .inr ⟨g, _, rfl, hbg, setRow_heap w g _ _ _ _ hg, ?_, ?_, hmx, ?_⟩⟩, grown_setRow _ _ _⟩
      · rw [overL_take_length l k m o hk (by omega)]; exact hle
      · simp only [List.length_append, hlm, List.length_take, List.length_drop]; omega
      · rw [overL_take_length l k m o hk (by omega)]
        have e1 : (l.take k).map byteV = cur.take k := by
          rw [List.map_take, ← ht, List.take_take, Nat.min_eq_left hk]
        have e2 : (l.drop (k + m)).map byteV = (cur.drop (k + m)).take (l.length - (k + m)) := by
          rw [List.map_drop, ← ht, List.drop_take]
        have e3 : (cur.take k ++ (o.take m).map byteV).length = k + m := by
          rw [List.length_append, hlm, List.length_take]; omega
        unfold overL
        rw [hlt, List.map_append, List.map_append, e1, e2, ← List.append_assoc]
        show List.take l.length (cur.take k ++ (o.take m).map byteV ++ cur.drop (k + m)) = _
        rw [List.take_append, e3, List.take_of_length_le (by omega)]
theorem wpList_appendBx {w : World} {ops : Array Oper} {rest : List Oper} {o : Oper} {a : Act} {Q : Exit → Act → World → Prop} (hgd : o.guard = none) (s x : Operand)
    (ho : o.op = .call { callee := .builtin .append, args := #[s, x], argTypes := #[27, 27] })
    (base : Nat) (sp : Option Addr) (n c : Nat) (l : List Nat) (hs : a.eval s = .slice sp n c) (hn : l.length = n) (hown : Bx base w sp c l)
    (xp : Option Addr) (m xc : Nat) (hx : a.eval x = .slice xp m xc) (k : List Nat) (hk : k.length = m) (hB : BytesAt w xp k) (hx0 : xp = none → xc = 0)
    (hsz : l.length + m ≤ 140737488355328) (hbase : base ≤ w.heap.size)
    (h : ∀ sp' n' c' w', Hid ((l ++ k).length = n') → Bx base w' sp' c' (l ++ k) → Grew w sp w' sp' → wpList Tryz.prog ops Q rest (a.put o.dst (.slice sp' n' c')) w') :
    wpList Tryz.prog ops Q (o :: rest) a w := by
  subst hn
  refine wpList_plain hgd fun K hK => ?_
  obtain ⟨sp', c', w', hrun, h1, h2⟩ := run_appendBx hown xp m xc k hk hB hx0 hsz hbase o.type
  unfold Oper.wp
  simp [execOp, ho, resolve, invoke, builtin, hs, hx, hrun, Result.andThen]
  have := hK _ _ (h sp' (l ++ k).length c' w' rfl h1 h2)
  rw [List.length_append] at this
  exact this
theorem wpList_copyBx {w : World} {ops : Array Oper} {rest : List Oper} {o : Oper} {a : Act} {Q : Exit → Act → World → Prop} (hgd : o.guard = none) (d s : Operand)
    (ho : o.op = .call { callee := .builtin .copy, args := #[d, s], argTypes := #[27, 27] })
    (base : Nat) (sp : Option Addr) (c : Nat) (l : List Nat) (k : Nat) (hk : k ≤ l.length) (p : Option Addr) (pn pc : Nat) (hd : a.eval d = .slice p pn pc) (hp : p = slp sp k c) (hpn : pn = l.length - k) (hpc : pc = c - k) (hown : Bx base w sp c l)
    (xp : Option Addr) (xn xc : Nat) (hx : a.eval s = .slice xp xn xc) (x : List Nat) (hl : x.length = xn) (hB : BytesAt w xp x)
    (h : ∀ w', Bx base w' sp c (overL l k (x.take (min xn (l.length - k)))) → w.grownBy w' (blk sp) → wpList Tryz.prog ops Q rest (a.put o.dst (goInt (min xn (l.length - k) : Nat))) w') :
    wpList Tryz.prog ops Q (o :: rest) a w := by
  subst hp hpn hpc
  refine wpList_plain hgd fun K hK => ?_
  obtain ⟨w', hrun, h1, h2⟩ := run_copyBx hown k hk xp xn xc x hl hB o.type
  unfold Oper.wp
  simp [execOp, ho, resolve, invoke, builtin, hd, hx, hrun, Result.andThen]
  exact hK _ _ (h w' h1 h2)
theorem laid_calls (base : Nat) (sp : Option Addr) (c : Nat) (l : List Nat) (n k : Nat) (xp : Option Addr) (xn xc : Nat) (o : List Nat) (w : World) (hn : l.length = n) (hk : k ≤ n) (ho : o.length = xn) (hB : BytesAt w xp o) (hx0 : xp = none → xc = 0) (hxc : xn ≤ xc)
    (hown : Bx base w sp c l) (hne : 0 < o.length → ∀ b off, xp = some ⟨b, off, none⟩ → blk sp ≠ some b) (hsz : n + xn ≤ 140737488355328) (hbase : base ≤ w.heap.size) :
    Calls Tryz.prog 118 #[.slice sp n c, .int .i64 k, .slice xp xn xc] w fun e w' => ∃ sp' c', e = .returned (.slice sp' (overL l k o).length c') ∧ Bx base w' sp' c' (overL l k o) ∧ Grew w sp w' sp' := by
  have hs1 := run_slice_l8 sp n c k hk
  have HB := hide hB
  have HX := hide hown
  have HO := hide ho
  have HN := hide hn
  have HE := hide hne
  have HZ := hide hx0
  have HS := hide hsz
  have HC := hide hxc
  have HK := hide hk
  have HBS := hide hbase
  clear hB hown ho hn hne hx0 hsz hxc hk hbase
  generalize hp1 : slp sp k c = p1 at *
  have HP := hide hp1
  clear hp1
  go_enter Tryz.func118, Tryz.ntmps118
  go_wp2_with (refine wpList_copyBx rfl (.tmp 10) (.tmp 11) rfl base sp c l k ?hk p1 (n - k) (c - k) rfl ?hp ?hpn rfl ?hX xp xn xc rfl o ?hO ?hB ?_; rotate_right; intro W1 h1 hg1; refine unhide ?_)
  case hk => rw [unhide HN]; exact unhide HK
  case hp => exact (unhide HP).symm
  case hpn => rw [unhide HN]
  case hX => exact unhide HX
  case hO => exact unhide HO
  case hB => exact unhide HB
  refine hide ?_
  rw [unhide HN] at h1 ⊢
  obtain ⟨m, hm⟩ : ∃ m, min xn (n - k) = m := ⟨_, rfl⟩
  rw [hm] at h1 ⊢
  have hm1 : m ≤ xn := by omega
  have HM := hide hm
  have X1 := hide h1
  have G1 := hide hg1
  have L1 := hide (show (overL l k (o.take m)).length = n from (overL_take_length l k m o (by rw [unhide HN]; exact unhide HK) (by rw [unhide HN]; omega)).trans (unhide HN))
  have B1 := hide (show BytesAt W1 xp o from by
    cases hsp : blk sp with
    | none => rw [hsp] at hg1; exact (unhide HB).later ⟨hg1.os, hg1.tape, hg1.output, hg1.size, fun i hi => hg1.block i hi (by simp)⟩
    | some g =>
      rw [hsp] at hg1
      by_cases h0 : 0 < o.length
      · exact (unhide HB).far hg1 (fun b off e => fun eb => unhide HE h0 b off e (by rw [hsp, eb]))
      · exact ⟨(unhide HB).lt, fun i hi => absurd (Nat.lt_of_le_of_lt (Nat.zero_le _) hi) h0⟩)
  have hs2 := run_slice_l8 xp xn xc m hm1
  have B2 := hide (unhide B1 |>.drop m xc (by rw [unhide HO]; exact unhide HC))
  have Z2 := hide (show slp xp m xc = none → xc - m = 0 from fun e => by
    unfold slp at e
    split at e
    · omega
    · cases hxp : xp with
      | none => have := unhide HZ hxp; omega
      | some ad => rw [hxp] at e; cases e)
  generalize slp xp m xc = p2 at *
  clear h1 hg1 hm hs1 HB HE HZ HP
  have D2 := hide (show (o.drop m).length = xn - m by rw [List.length_drop, unhide HO])
  have S2 := hide (show n + (xn - m) ≤ 140737488355328 by have := unhide HS; omega)
  have BS1 := hide (show base ≤ W1.heap.size from Nat.le_trans (unhide HBS) (unhide G1).size)
  have V2 := hide (show overL l k (o.take m) ++ o.drop m = overL l k o from overL_two l k m o (by rw [unhide HN]; exact unhide HK) (by rw [unhide HO, unhide HN]; exact (unhide HM).symm))
  clear hm1
  go_wp2_with (refine wpList_appendBx rfl (.tmp 13) (.tmp 16) rfl base sp n c (overL l k (o.take m)) rfl ?hL ?hX p2 (xn - m) (xc - m) rfl (o.drop m) ?hD ?hB ?hZ ?hS ?hbs ?_; rotate_right; intro sp2 n2 c2 W2 hn2 hX2 hG2; refine unhide ?_)
  case hL => exact unhide L1
  case hX => exact unhide X1
  case hD => exact unhide D2
  case hB => exact unhide B2
  case hZ => exact unhide Z2
  case hS => rw [unhide L1]; exact unhide S2
  case hbs => exact unhide BS1
  refine hide ?_
  rw [unhide V2] at hn2 hX2
  have N2 := hn2
  have X2 := hide hX2
  have G2 := hide ((⟨unhide G1, fun g hg => .inl hg⟩ : Grew w sp W1 sp).trans hG2)
  clear hX2 hG2 hn2
  go_wp2
  go_ret
  exact ⟨sp2, c2, by rw [unhide N2]; rfl, unhide X2, unhide G2⟩
end Go.Proofs.YtagncghpfdjkmaaGreatDoor
end
/- Disk: a file's changes; a file in memory; sync. -/
section
namespace Go.Proofs.YtagncghpfdjkmaaGreatDoor
open Go.ChangeShapes Go.WideShapes Go.ChangeAt Go.RowKit

/-- A change: whether it is a Cut, where, the bytes. -/
abbrev Chg := Bool × Nat × List Nat
abbrev ChH := Chg × (Option Addr × Nat)
def chRow (x : ChH) : List Value := [.bool x.1.1, .int .i64 (x.1.2.1 : Int), .slice x.2.1 x.1.2.2.length x.2.2]
theorem chRow_length (x : ChH) : (chRow x).length = 3 := rfl
def rowsC (xs : List ChH) : List Value := xs.flatMap chRow
theorem rowsC_length (xs : List ChH) : (rowsC xs).length = xs.length * 3 := by
  induction xs with
  | nil => rfl
  | cons x xs ih => simp only [rowsC, List.flatMap_cons, List.length_append, List.length_cons, chRow_length] at ih ⊢; omega
theorem rowsC_snoc (xs : List ChH) (x : ChH) : rowsC (xs ++ [x]) = rowsC xs ++ chRow x := by simp [rowsC]
theorem rowsC_get : ∀ (xs : List ChH) (i f : Nat) (hi : i < xs.length) (_ : f < 3), (rowsC xs)[i * 3 + f]? = (chRow xs[i])[f]?
  | [], i, _, hi, _ => by simp at hi
  | x :: xs, 0, f, _, hf => by
    simp only [rowsC, List.flatMap_cons, Nat.zero_mul, Nat.zero_add, List.getElem_cons_zero]
    rw [List.getElem?_append_left (by rw [chRow_length]; exact hf)]
  | x :: xs, i + 1, f, hi, hf => by
    have ih := rowsC_get xs i f (by simpa using hi) hf
    simp only [rowsC, List.flatMap_cons, List.getElem_cons_succ] at ih ⊢
    rw [List.getElem?_append_right (by rw [chRow_length]; omega)]
    have e4 : (i + 1) * 3 + f - (chRow x).length = i * 3 + f := by rw [chRow_length]; omega
    rw [e4]
    exact ih
theorem rowOf_grownNe {base : Nat} {w w' : World} {e : TypeId} {size n : Nat} {sp : Option Addr} {c : Nat} {xs : List Value} {o : Option Nat} (h : w.ownsRow base e size (.slice sp n c) n xs) (hg : w.grownBy w' o) (hne : ∀ g, blk sp = some g → o ≠ some g) : w'.ownsRow base e size (.slice sp n c) n xs := by
  refine ⟨h.1, ?_⟩
  rcases h.2 with hv | ⟨g, cap, cur, hv, hbg, hgg, r⟩
  · exact .inl hv
  · refine .inr ⟨g, cap, cur, hv, hbg, (hg.block g (Array.getElem?_eq_some_iff.1 hgg).1 (fun e => ?_)).trans hgg, r⟩
    simp only [Value.slice.injEq] at hv
    exact hne g (by rw [hv.1]; rfl) e.symm
/-- One's own changes: the slice and their bytes. -/
structure OwnC (base : Nat) (w : World) (sp : Option Addr) (c : Nat) (xs : List ChH) : Prop where
  row : w.ownsRow base 164 3 (.slice sp xs.length c) xs.length (rowsC xs)
  dat : ∀ x ∈ xs, Bx 0 w x.2.1 x.2.2 x.1.2.2
section
variable {base : Nat} {w w' : World} {sp : Option Addr} {c : Nat} {xs : List ChH}
theorem OwnC.ofNil (base : Nat) (w : World) : OwnC base w none 0 [] := ⟨w.ownsRow_nil base 164 3, by simp⟩
theorem OwnC.blk_is (h : OwnC base w sp c xs) : ∀ g, blk sp = some g → base ≤ g ∧ g < w.heap.size ∧ ∃ cur : Array Value, w.heap[g]? = some (.cells cur 164 (0, 0)) := by
  intro g hg
  rcases h.row.2 with ⟨hv, _⟩ | ⟨g1, cap, cur, hv, hb, hh, _⟩
  · simp only [Value.slice.injEq] at hv
    rw [hv.1] at hg
    cases hg
  · simp only [Value.slice.injEq] at hv
    rw [hv.1] at hg
    obtain rfl : g1 = g := by simpa [blk] using hg
    exact ⟨hb, (Array.getElem?_eq_some_iff.1 hh).1, _, hh⟩
theorem OwnC.ne_block (h : OwnC base w sp c xs) {g : Nat} {cs : Array Value} {T : TypeId} {fr : Nat × Nat} (hg : w.heap[g]? = some (.cells cs T fr)) (hT : T ≠ 164) : blk sp ≠ some g := by
  intro hs
  obtain ⟨_, _, cur, hc⟩ := h.blk_is g hs
  rw [hc] at hg
  simp only [Option.some.injEq, Obj.cells.injEq] at hg
  exact hT hg.2.1.symm
theorem Bx.ne_row {b2 : Nat} {yp : Option Addr} {yc : Nat} {y : List Nat} (k : Bx b2 w yp yc y) (h : OwnC base w sp c xs) : ∀ g, blk yp = some g → blk sp ≠ some g := by
  intro g hg hs
  obtain ⟨_, _, cur, hc⟩ := h.blk_is g hs
  exact k.ne_block hc (by decide) hg
theorem OwnC.grownNe {o : Option Nat} (h : OwnC base w sp c xs) (hg : w.grownBy w' o) (h1 : ∀ g, blk sp = some g → o ≠ some g) (h2 : ∀ x ∈ xs, ∀ g, blk x.2.1 = some g → o ≠ some g) : OwnC base w' sp c xs :=
  ⟨rowOf_grownNe h.row hg h1, fun x hx => (h.dat x hx).grownNe hg (h2 x hx)⟩
theorem OwnC.later (h : OwnC base w sp c xs) (hb : Below w.heap.size w w') : OwnC base w' sp c xs := h.grownNe (grown_below none hb) (by simp) (by simp)
/-- What changes a block that holds no changes and no bytes. -/
theorem OwnC.far (h : OwnC base w sp c xs) {j : Nat} (hg : w.grownBy w' (some j)) {cs : Array Value} {T : TypeId} {fr : Nat × Nat} (hj : w.heap[j]? = some (.cells cs T fr)) (h1 : T ≠ 164) (h2 : T ≠ 5) : OwnC base w' sp c xs :=
  h.grownNe hg (fun g hs e => h.ne_block hj h1 (by rw [hs, Option.some.inj e])) (fun x hx g hs e => (h.dat x hx).ne_block hj h2 (by rw [hs, Option.some.inj e]))
theorem infoC : (Tryz.prog.info? 164).map (fun i => (i.zero, i.size, i.bytes)) = some (some (.agg #[.bool false, .int .i64 0, .slice none 0 0]), 3, 40) := by kernel_rfl
theorem ch_oneCell (x : ChH) : ∀ u ∈ chRow x, u.oneCell' = true := by
  intro u hu
  simp only [chRow, List.mem_cons, List.not_mem_nil, or_false] at hu
  rcases hu with rfl | rfl | rfl <;> rfl
theorem run_appendC (hown : OwnC base w sp c xs) (B : Nat) (x : ChH) (hB : w.heap[B]? = some (.cells (chRow x).toArray 164 (0, 0))) (hd : Bx base w x.2.1 x.2.2 x.1.2.2) (hn : (xs.length + 1) * 40 ≤ 140737488355328) (hbase : base ≤ w.heap.size) (ty : TypeId) :
    ∃ sp' c' w', (Builtin.append_ #[124, 124] ty #[.slice sp xs.length c, .slice (some ⟨B, 0, none⟩) 1 1]).run Tryz.prog w = .ok (.slice sp' (xs.length + 1) c') w' ∧ OwnC base w' sp' c' (xs ++ [x]) ∧ Grew w sp w' sp' := by
  obtain ⟨i0, hi, hz0, hz1, hz2⟩ := info_parts infoC
  obtain ⟨v', w', hrun, h1, h2, _, h5⟩ := run_append_own_at (P := Tryz.prog) w base 124 ty 164 i0 _ 3 40 Tryz.underlying124 hi hz0 hz1 hz2 rfl (by omega) _ _ _ hown.row ⟨B, 0, none⟩ 1 1 (chRow x) rfl
    (fun j u hu => by have := World.news_of_block hB j u; simp only at this; exact this hu) (ch_oneCell x) (by simp only [maxLen]; omega) (by omega) hbase
  have hv : ∃ sp' c', v' = .slice sp' (xs.length + 1) c' := by
    rcases h1.2 with ⟨hv, h0⟩ | ⟨g, cap, cur, hv, _⟩
    · omega
    · exact ⟨_, _, hv⟩
  obtain ⟨sp', c', rfl⟩ := hv
  rw [ownBlock_slice] at h2
  rw [ownBlock_slice, ownBlock_slice] at h5
  refine ⟨sp', c', w', hrun, ⟨?_, fun y hy => ?_⟩, ⟨h2, fun g hg => ?_⟩⟩
  · rw [rowsC_snoc, List.length_append]
    exact h1
  · rcases List.mem_append.1 hy with hy | hy
    · exact (hown.dat y hy).grownNe h2 (fun g hg hs => (hown.dat y hy).ne_row hown g hg hs)
    · rw [List.mem_singleton] at hy
      subst hy
      exact (hd.mono (Nat.zero_le _)).grownNe h2 (fun g hg hs => hd.ne_row hown g hg hs)
  · rcases h5 with h5 | h5
    · exact .inl (h5.symm.trans hg)
    · rw [h5] at hg
      exact .inr (Nat.le_of_eq (Option.some.inj hg))
end
theorem fcell {w : World} {j : Nat} {cs : Array Value} {T : TypeId} (h : w.heap[j]? = some (.cells cs T (0, 0))) (f : Nat) (v : Value) (hv : cs[f]? = some v) : w.cell? ⟨j, f, none⟩ = some v := by
  rw [cell_of_row _ _ _ _ _ _ h, hv]
theorem ffree {w : World} {j : Nat} {cs : Array Value} {T : TypeId} (h : w.heap[j]? = some (.cells cs T (0, 0))) (f : Nat) : w.frozen? ⟨j, f, none⟩ = false := by
  simp [World.frozen?, h]
/-- A file: its bytes, what lasts, its changes, and where they lie. -/
structure Fil where
  bp : Option Addr
  bc : Nat
  b : List Nat
  yp : Option Addr
  yc : Nat
  y : List Nat
  la : Bool
  cp : Option Addr
  cc : Nat
  xs : List ChH
def Fil.row (f : Fil) : Array Value := #[.slice f.bp f.b.length f.bc, .slice f.yp f.y.length f.yc, .bool f.la, .slice f.cp f.xs.length f.cc]
/-- What a call on a file may write to. -/
def Fil.mut (f : Fil) (F g : Nat) : Prop := g = F ∨ blk f.bp = some g ∨ blk f.yp = some g ∨ blk f.cp = some g
def Fil.red (f : Fil) (g : Nat) : Prop := ∃ x ∈ f.xs, blk x.2.1 = some g
structure FileAt (base : Nat) (w : World) (F : Nat) (f : Fil) : Prop where
  box : w.heap[F]? = some (.cells f.row 126 (0, 0))
  bytes : Bx base w f.bp f.bc f.b
  sure : Bx base w f.yp f.yc f.y
  chs : OwnC base w f.cp f.cc f.xs
  low : base ≤ F
  apart : ∀ g, blk f.bp = some g → blk f.yp ≠ some g
  far : ∀ x ∈ f.xs, ∀ g, blk x.2.1 = some g → blk f.bp ≠ some g ∧ blk f.yp ≠ some g
/-- What a call on a file leaves. -/
structure FGrew (F : Nat) (w : World) (f : Fil) (w' : World) (f' : Fil) : Prop where
  os : w'.os = w.os
  tape : w'.tape = w.tape
  output : w'.output = w.output
  size : w.heap.size ≤ w'.heap.size
  block : ∀ i, i < w.heap.size → ¬ f.mut F i → w'.heap[i]? = w.heap[i]?
  muts : ∀ g, f'.mut F g → f.mut F g ∨ w.heap.size ≤ g
  reds : ∀ g, f'.red g → f.red g ∨ w.heap.size ≤ g
section
variable {base : Nat} {w w' : World} {F : Nat} {f : Fil}
theorem FileAt.ltF (h : FileAt base w F f) : F < w.heap.size := (Array.getElem?_eq_some_iff.1 h.box).1
theorem FileAt.c0 (h : FileAt base w F f) : w.cell? ⟨F, 0, none⟩ = some (.slice f.bp f.b.length f.bc) := fcell h.box 0 _ (by simp [Fil.row])
theorem FileAt.c1 (h : FileAt base w F f) : w.cell? ⟨F, 1, none⟩ = some (.slice f.yp f.y.length f.yc) := fcell h.box 1 _ (by simp [Fil.row])
theorem FileAt.c2 (h : FileAt base w F f) : w.cell? ⟨F, 2, none⟩ = some (.bool f.la) := fcell h.box 2 _ (by simp [Fil.row])
theorem FileAt.c3 (h : FileAt base w F f) : w.cell? ⟨F, 3, none⟩ = some (.slice f.cp f.xs.length f.cc) := fcell h.box 3 _ (by simp [Fil.row])
theorem FileAt.fz (h : FileAt base w F f) (k : Nat) : w.frozen? ⟨F, k, none⟩ = false := ffree h.box k
theorem FileAt.later (h : FileAt base w F f) (hb : Below w.heap.size w w') : FileAt base w' F f :=
  ⟨(hb.block F h.ltF).trans h.box, h.bytes.later hb, h.sure.later hb, h.chs.later hb, h.low, h.apart, h.far⟩
theorem FGrew.refl (F : Nat) (w : World) (f : Fil) : FGrew F w f w f := ⟨rfl, rfl, rfl, Nat.le_refl _, fun _ _ _ => rfl, fun _ h => .inl h, fun _ h => .inl h⟩
theorem FGrew.trans {w1 w2 : World} {f1 f2 : Fil} (h : FGrew F w f w1 f1) (k : FGrew F w1 f1 w2 f2) : FGrew F w f w2 f2 := by
  refine ⟨k.os.trans h.os, k.tape.trans h.tape, k.output.trans h.output, Nat.le_trans h.size k.size, fun i hi hn => ?_, fun g hg => ?_, fun g hg => ?_⟩
  · refine (k.block i (Nat.lt_of_lt_of_le hi h.size) (fun hm => ?_)).trans (h.block i hi hn)
    rcases h.muts i hm with h1 | h1
    · exact hn h1
    · omega
  · rcases k.muts g hg with h1 | h1
    · exact h.muts g h1
    · exact .inr (Nat.le_trans h.size h1)
  · rcases k.reds g hg with h1 | h1
    · exact h.reds g h1
    · exact .inr (Nat.le_trans h.size h1)
theorem FGrew.ofBelow (hb : Below w.heap.size w w') : FGrew F w f w' f := ⟨hb.os, hb.tape, hb.output, hb.size, fun i hi _ => hb.block i hi, fun _ h => .inl h, fun _ h => .inl h⟩
/-- A cell of the file's own block changed. -/
theorem FileAt.set (h : FileAt base w F f) (k : Nat) (v : Value) (f' : Fil) (hr : f.row.setIfInBounds k v = f'.row) (hB : Bx base w f'.bp f'.bc f'.b) (hY : Bx base w f'.yp f'.yc f'.y) (hC : OwnC base w f'.cp f'.cc f'.xs)
    (ha : ∀ g, blk f'.bp = some g → blk f'.yp ≠ some g) (hf : ∀ x ∈ f'.xs, ∀ g, blk x.2.1 = some g → blk f'.bp ≠ some g ∧ blk f'.yp ≠ some g) : FileAt base (w.setCell ⟨F, k, none⟩ v) F f' := by
  have hg := grown_set w F k v
  refine ⟨?_, hB.grownNe hg (fun g hs e => hB.ne_block h.box (by decide) (by rw [hs, Option.some.inj e])), hY.grownNe hg (fun g hs e => hY.ne_block h.box (by decide) (by rw [hs, Option.some.inj e])), hC.far hg h.box (by decide) (by decide), h.low, ha, hf⟩
  rw [← hr]
  exact heap_setCell_same w F k _ 126 v h.box
end
end Go.Proofs.YtagncghpfdjkmaaGreatDoor
end
