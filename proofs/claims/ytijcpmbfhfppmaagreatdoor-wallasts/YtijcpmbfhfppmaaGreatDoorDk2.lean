/- Disk: fresh, laid. -/
import Derived.Test.YtijcpmbfhfppmaaGreatDoorDk1
namespace Go.Proofs.YtijcpmbfhfppmaaGreatDoor
open Go.ChangeShapes Go.WideShapes Go.ChangeAt Go.RowKit

theorem run_slice_hm8 (a : Option Addr) (len cap h m : Nat) (h1 : h ≤ m) (h2 : m ≤ cap) (u : World) :
    (Instr.slice 58 (.slice a len cap) none (some (.int .i64 (h : Int))) (some (.int .i64 (m : Int)))).run Tryz.prog u = .ok (.slice (slp a 0 m) h m) u := by
  rw [run_slice_hm (w := u) 58 a len cap elem8 .i64 .i64 (h : Int) (m : Int) (by omega) (by omega) (by omega), sizeOf8]
  simp [Result.andThen, sliced, slp]
theorem fresh_calls (a : Option Addr) (n c : Nat) (l : List Nat) (w : World) (hn : l.length = n) (hl : n ≤ 140737488355328) (hb : BytesAt w a l) (hz : a = none → c = 0) :
    Calls Tryz.prog 77 #[.slice a n c] w fun e w' => ∃ sp', e = .returned (.slice sp' n n) ∧ Bx w.heap.size w' sp' n l ∧ Below w.heap.size w w' := by
  have HB := hide hb
  have HN := hide hn
  have HZ := hide hz
  clear hb hn hz
  go_enter Tryz.func77, Tryz.ntmps77
  go_wp2_with (at_builtin; refine unhide ?_)
  refine hide ?_
  refine wpList_append8L rfl (.const (.slice none 0 0)) (.tmp 4) rfl w.heap.size none 0 0 [] rfl rfl (OwnB.ofNil _ _) a n c rfl l (unhide HN) (unhide HB) (unhide HZ) (by simp only [List.length_nil]; omega) (Nat.le_refl _) ?_
  intro sp2 n2 c2 W2 hn2 ho2 hg2 hl2
  rw [List.nil_append] at hn2 ho2
  obtain rfl : n = n2 := (unhide HN).symm.trans (unhide hn2)
  have hx := ho2.toBx
  have hcap : n ≤ c2 := by have := hx.cap.1; rw [unhide HN] at this; exact this
  have hs3 := run_slice_hm8 sp2 n c2 n n (Nat.le_refl _) hcap
  rw [hx.slp0] at hs3
  have B2 := hide (show Below w.heap.size w W2 from (Below.refl _ _).grown hg2 (Nat.le_refl _) (fun g hg => by cases hg))
  have X2 := hide (show Bx w.heap.size W2 sp2 n l by
    have := hx.cut l.length n (Nat.le_refl _) (by rw [unhide HN]; exact Nat.le_refl _) hcap
    rwa [List.take_length] at this)
  clear hg2 hl2 ho2 hx
  go_wp2
  go_ret
  exact ⟨sp2, rfl, unhide X2, unhide B2⟩
theorem overL_take_length (l : List Nat) (k m : Nat) (o : List Nat) (hk : k ≤ l.length) (hm : m ≤ l.length - k) : (overL l k (o.take m)).length = l.length := by
  rw [overL_length _ _ _ hk, List.length_take]; omega
/-- copy(b[at:], over). -/
theorem run_copyBx {base : Nat} {w : World} {sp : Option Addr} {c : Nat} {l : List Nat} (h : Bx base w sp c l) (k : Nat) (hk : k ≤ l.length) (xp : Option Addr) (xn xc : Nat) (o : List Nat) (ho : o.length = xn) (hB : BytesAt w xp o) (ty : TypeId) :
    ∃ w', (Builtin.copy_ #[58, 58] ty #[.slice (slp sp k c) (l.length - k) (c - k), .slice xp xn xc]).run Tryz.prog w = .ok (goInt (min xn (l.length - k) : Nat)) w' ∧ Bx base w' sp c (overL l k (o.take (min xn (l.length - k)))) ∧ w.grownBy w' (blk sp) := by
  by_cases h0 : min xn (l.length - k) = 0
  · rw [h0]
    refine ⟨w, run_copy_none (P := Tryz.prog) w 58 58 ty 5 _ xp _ _ xn xc Tryz.underlying58 size8 h0, ?_, grown_refl _ _⟩
    rw [List.take_zero, overL_nil]
    exact h
  · rcases h.row with ⟨_, _, rfl⟩ | ⟨g, cur, rfl, hbg, hg, hle, hcc, hmx, ht⟩
    · simp at h0
    · have hsl : slp (some ⟨g, 0, none⟩) k c = some ⟨g, k, none⟩ := by
        unfold slp; rw [if_neg (by omega)]; simp [Addr.add_lit]
      generalize hm : min xn (l.length - k) = m at *
      have hlt : (o.take m).length = m := by rw [List.length_take]; omega
      have hlm : ((o.take m).map byteV).length = m := by rw [List.length_map, hlt]
      obtain ⟨ad, rfl, hc⟩ := cells_of_bytesAt (hB.take m) (by rw [hlm]; omega)
      have hrun := run_copy_row (P := Tryz.prog) w 58 58 ty 5 g k (l.length - k) (c - k) ad xn xc cur.toArray 5 ((o.take m).map byteV) Tryz.underlying58 size8 hg (by rw [hlm, ← hm]) hc (by rw [hlm]; simp; omega) (oneCell_bytes _)
      rw [hlm] at hrun
      rw [hsl]
      refine ⟨_, hrun, ⟨overL_lt k h.lt (fun c hc => hB.lt c (List.mem_of_mem_take hc)), .inr ⟨g, _, rfl, hbg, setRow_heap w g _ _ _ _ hg, ?_, ?_, hmx, ?_⟩⟩, grown_setRow _ _ _⟩
      · rw [overL_take_length l k m o hk (by omega)]; exact hle
      · simp only [List.length_append, hlm, List.length_take, List.length_drop]; omega
      · rw [overL_take_length l k m o hk (by omega)]
        have e1 : (l.take k).map byteV = cur.take k := by
          rw [List.map_take, ← ht, List.take_take, Nat.min_eq_left hk]
        have e2 : (l.drop (k + m)).map byteV = (cur.drop (k + m)).take (l.length - (k + m)) := by
          rw [List.map_drop, ← ht, List.drop_take]
        have e3 : (cur.take k ++ (o.take m).map byteV).length = k + m := by
          rw [List.length_append, hlm, List.length_take]; omega
        unfold overL
        rw [hlt, List.map_append, List.map_append, e1, e2, ← List.append_assoc]
        show List.take l.length (cur.take k ++ (o.take m).map byteV ++ cur.drop (k + m)) = _
        rw [List.take_append, e3, List.take_of_length_le (by omega)]
theorem wpList_appendBx {w : World} {ops : Array Oper} {rest : List Oper} {o : Oper} {a : Act} {Q : Exit → Act → World → Prop} (hgd : o.guard = none) (s x : Operand)
    (ho : o.op = .call { callee := .builtin .append, args := #[s, x], argTypes := #[58, 58] })
    (base : Nat) (sp : Option Addr) (n c : Nat) (l : List Nat) (hs : a.eval s = .slice sp n c) (hn : l.length = n) (hown : Bx base w sp c l)
    (xp : Option Addr) (m xc : Nat) (hx : a.eval x = .slice xp m xc) (k : List Nat) (hk : k.length = m) (hB : BytesAt w xp k) (hx0 : xp = none → xc = 0)
    (hsz : l.length + m ≤ 140737488355328) (hbase : base ≤ w.heap.size)
    (h : ∀ sp' n' c' w', Hid ((l ++ k).length = n') → Bx base w' sp' c' (l ++ k) → Grew w sp w' sp' → wpList Tryz.prog ops Q rest (a.put o.dst (.slice sp' n' c')) w') :
    wpList Tryz.prog ops Q (o :: rest) a w := by
  subst hn
  refine wpList_plain hgd fun K hK => ?_
  obtain ⟨sp', c', w', hrun, h1, h2⟩ := run_appendBx hown xp m xc k hk hB hx0 hsz hbase o.type
  unfold Oper.wp
  simp [execOp, ho, resolve, invoke, builtin, hs, hx, hrun, Result.andThen]
  have := hK _ _ (h sp' (l ++ k).length c' w' rfl h1 h2)
  rw [List.length_append] at this
  exact this
theorem wpList_copyBx {w : World} {ops : Array Oper} {rest : List Oper} {o : Oper} {a : Act} {Q : Exit → Act → World → Prop} (hgd : o.guard = none) (d s : Operand)
    (ho : o.op = .call { callee := .builtin .copy, args := #[d, s], argTypes := #[58, 58] })
    (base : Nat) (sp : Option Addr) (c : Nat) (l : List Nat) (k : Nat) (hk : k ≤ l.length) (p : Option Addr) (pn pc : Nat) (hd : a.eval d = .slice p pn pc) (hp : p = slp sp k c) (hpn : pn = l.length - k) (hpc : pc = c - k) (hown : Bx base w sp c l)
    (xp : Option Addr) (xn xc : Nat) (hx : a.eval s = .slice xp xn xc) (x : List Nat) (hl : x.length = xn) (hB : BytesAt w xp x)
    (h : ∀ w', Bx base w' sp c (overL l k (x.take (min xn (l.length - k)))) → w.grownBy w' (blk sp) → wpList Tryz.prog ops Q rest (a.put o.dst (goInt (min xn (l.length - k) : Nat))) w') :
    wpList Tryz.prog ops Q (o :: rest) a w := by
  subst hp hpn hpc
  refine wpList_plain hgd fun K hK => ?_
  obtain ⟨w', hrun, h1, h2⟩ := run_copyBx hown k hk xp xn xc x hl hB o.type
  unfold Oper.wp
  simp [execOp, ho, resolve, invoke, builtin, hd, hx, hrun, Result.andThen]
  exact hK _ _ (h w' h1 h2)
theorem step_copyBx {w : World} {ops : Array Oper} {o : Oper} {a : Act} {K : Act → World → Prop} {Q : Exit → Act → World → Prop} {E : Prop} (hgd : o.guard = none) (d s : Operand)
    (ho : o.op = .call { callee := .builtin .copy, args := #[d, s], argTypes := #[58, 58] })
    (base : Nat) (sp : Option Addr) (c : Nat) (l : List Nat) (k : Nat) (hk : k ≤ l.length) (p : Option Addr) (pn pc : Nat) (hd : a.eval d = .slice p pn pc) (hp : p = slp sp k c) (hpn : pn = l.length - k) (hpc : pc = c - k) (hown : Bx base w sp c l)
    (xp : Option Addr) (xn xc : Nat) (hx : a.eval s = .slice xp xn xc) (x : List Nat) (hl : x.length = xn) (hB : BytesAt w xp x)
    (h : ∀ m w', Hid (min xn (l.length - k) = m) → Bx base w' sp c (overL l k (x.take m)) → w.grownBy w' (blk sp) → K (a.put o.dst (goInt (m : Nat))) w') :
    if Region.wanted o (yielded ops a.tmps) = true then Oper.wp Tryz.prog o a w K Q else E := by
  subst hp hpn hpc
  have hw : Region.wanted o (yielded ops a.tmps) = true := by simp [Region.wanted, hgd]
  rw [if_pos hw]
  obtain ⟨w', hrun, h1, h2⟩ := run_copyBx hown k hk xp xn xc x hl hB o.type
  unfold Oper.wp
  simp [execOp, ho, resolve, invoke, builtin, hd, hx, hrun, Result.andThen]
  exact h _ w' rfl h1 h2
theorem laid_calls (base : Nat) (sp : Option Addr) (c : Nat) (l : List Nat) (n k : Nat) (xp : Option Addr) (xn xc : Nat) (o : List Nat) (w : World) (hn : l.length = n) (hk : k ≤ n) (ho : o.length = xn) (hB : BytesAt w xp o) (hx0 : xp = none → xc = 0) (hxc : xn ≤ xc)
    (hown : Bx base w sp c l) (hne : 0 < o.length → ∀ b off, xp = some ⟨b, off, none⟩ → blk sp ≠ some b) (hsz : n + xn ≤ 140737488355328) (hbase : base ≤ w.heap.size) :
    Calls Tryz.prog 114 #[.slice sp n c, .int .i64 k, .slice xp xn xc] w fun e w' => ∃ sp' c', e = .returned (.slice sp' (overL l k o).length c') ∧ Bx base w' sp' c' (overL l k o) ∧ Grew w sp w' sp' := by
  have hs1 := run_slice_l8 sp n c k hk
  have HB := hide hB
  have HX := hide hown
  have HO := hide ho
  have HN := hide hn
  have HE := hide hne
  have HZ := hide hx0
  have HS := hide hsz
  have HC := hide hxc
  have HK := hide hk
  have HBS := hide hbase
  clear hB hown ho hn hne hx0 hsz hxc hk hbase
  generalize hp1 : slp sp k c = p1 at *
  have HP := hide hp1
  clear hp1
  go_enter Tryz.func114, Tryz.ntmps114
  go_wp2_with (refine wpList_copyBx rfl (.tmp 10) (.tmp 11) rfl base sp c l k ?hk p1 (n - k) (c - k) rfl ?hp ?hpn rfl ?hX xp xn xc rfl o ?hO ?hB ?_; rotate_right; intro W1 h1 hg1; refine unhide ?_)
  case hk => rw [unhide HN]; exact unhide HK
  case hp => exact (unhide HP).symm
  case hpn => rw [unhide HN]
  case hX => exact unhide HX
  case hO => exact unhide HO
  case hB => exact unhide HB
  refine hide ?_
  rw [unhide HN] at h1 ⊢
  obtain ⟨m, hm⟩ : ∃ m, min xn (n - k) = m := ⟨_, rfl⟩
  rw [hm] at h1 ⊢
  have hm1 : m ≤ xn := by omega
  have HM := hide hm
  have X1 := hide h1
  have G1 := hide hg1
  have L1 := hide (show (overL l k (o.take m)).length = n from (overL_take_length l k m o (by rw [unhide HN]; exact unhide HK) (by rw [unhide HN]; omega)).trans (unhide HN))
  have B1 := hide (show BytesAt W1 xp o from by
    cases hsp : blk sp with
    | none => rw [hsp] at hg1; exact (unhide HB).later ⟨hg1.os, hg1.tape, hg1.output, hg1.size, fun i hi => hg1.block i hi (by simp)⟩
    | some g =>
      rw [hsp] at hg1
      by_cases h0 : 0 < o.length
      · exact (unhide HB).far hg1 (fun b off e => fun eb => unhide HE h0 b off e (by rw [hsp, eb]))
      · exact ⟨(unhide HB).lt, fun i hi => absurd (Nat.lt_of_le_of_lt (Nat.zero_le _) hi) h0⟩)
  have hs2 := run_slice_l8 xp xn xc m hm1
  have B2 := hide (unhide B1 |>.drop m xc (by rw [unhide HO]; exact unhide HC))
  have Z2 := hide (show slp xp m xc = none → xc - m = 0 from fun e => by
    unfold slp at e
    split at e
    · omega
    · cases hxp : xp with
      | none => have := unhide HZ hxp; omega
      | some ad => rw [hxp] at e; cases e)
  generalize slp xp m xc = p2 at *
  clear h1 hg1 hm hs1 HB HE HZ HP
  have D2 := hide (show (o.drop m).length = xn - m by rw [List.length_drop, unhide HO])
  have S2 := hide (show n + (xn - m) ≤ 140737488355328 by have := unhide HS; omega)
  have BS1 := hide (show base ≤ W1.heap.size from Nat.le_trans (unhide HBS) (unhide G1).size)
  have V2 := hide (show overL l k (o.take m) ++ o.drop m = overL l k o from overL_two l k m o (by rw [unhide HN]; exact unhide HK) (by rw [unhide HO, unhide HN]; exact (unhide HM).symm))
  clear hm1
  go_wp2_with (refine wpList_appendBx rfl (.tmp 13) (.tmp 16) rfl base sp n c (overL l k (o.take m)) rfl ?hL ?hX p2 (xn - m) (xc - m) rfl (o.drop m) ?hD ?hB ?hZ ?hS ?hbs ?_; rotate_right; intro sp2 n2 c2 W2 hn2 hX2 hG2; refine unhide ?_)
  case hL => exact unhide L1
  case hX => exact unhide X1
  case hD => exact unhide D2
  case hB => exact unhide B2
  case hZ => exact unhide Z2
  case hS => rw [unhide L1]; exact unhide S2
  case hbs => exact unhide BS1
  refine hide ?_
  rw [unhide V2] at hn2 hX2
  have N2 := hn2
  have X2 := hide hX2
  have G2 := hide ((⟨unhide G1, fun g hg => .inl hg⟩ : Grew w sp W1 sp).trans hG2)
  clear hX2 hG2 hn2
  go_wp2
  go_ret
  exact ⟨sp2, c2, by rw [unhide N2]; rfl, unhide X2, unhide G2⟩
end Go.Proofs.YtijcpmbfhfppmaaGreatDoor
