/- Conf: texts and their bytes; texts appended to bytes of one's own. -/
import Derived.Test.YtpkpnedcecjlbaaGreatDoorB01
import Derived.Lib.AppendStr
import Derived.Lib.ConvBytes
import Derived.Lib.Split
import Derived.Laws.CopyOwn
import Derived.Laws.AppendOwn
import Derived.ArgAppend
import Derived.Laws.Tables
import Derived.Laws.Rows
import Derived.Test.YtpkpnedcecjlbaaGreatDoorChecked
import Derived.WalkKit
import Derived.ProofKit
import Derived.OpenShut
import Derived.Below
import Derived.WalkLawsBesides
import Derived.WalkSpells
import Derived.Outline
import Derived.Laws.IdiomStrings
import Derived.Deep.QuietTactic
import Derived.BigQuiet
import Derived.Deep.AppendLies
import Derived.Laws.BitsAllLaws
section
namespace Go.Proofs.YtpkpnedcecjlbaaGreatDoor
open Go.ChangeShapes Go.WideShapes Go.ChangeAt Go.RowKit
set_option linter.unusedVariables false

/-- The bytes of a text. -/
def bsT (s : ByteArray) : List Nat := s.data.toList.map UInt8.toNat
theorem bsT_len (s : ByteArray) : (bsT s).length = s.size := by unfold bsT; simp
theorem bsT_lt (s : ByteArray) : ∀ c ∈ bsT s, c < 256 := fun c hc => by
  obtain ⟨x, _, rfl⟩ := List.mem_map.1 hc
  exact x.toNat_lt
theorem bsT_strOf (l : List Nat) (h : ∀ c ∈ l, c < 256) : bsT (strOf l) = l := by
  unfold bsT strOf
  simp only [List.map_map]
  conv => rhs; rw [← List.map_id l]
  exact List.map_congr_left fun x hx => by have := h x hx; simp; omega
theorem strOf_bsT (s : ByteArray) : strOf (bsT s) = s := by
  unfold bsT strOf
  rw [List.map_map]
  have : (UInt8.ofNat ∘ UInt8.toNat) = id := by funext x; simp
  rw [this, List.map_id]
theorem bsT_inj {a b : ByteArray} (h : bsT a = bsT b) : a = b := by rw [← strOf_bsT a, h, strOf_bsT]
theorem strCells_bs (s : ByteArray) : Lib.strCells s = (bsT s).map byteV := by
  unfold Lib.strCells bsT
  rw [List.map_map]
  rfl
/-- '[]byte(s)'. -/
theorem conv_bs (w : World) (s : ByteArray) : ∃ c W, (convert 9 26 (.string s)).run Tryz.prog w = .ok (.slice (some ⟨w.heap.size, 0, none⟩) s.size c) W ∧ s.size ≤ c ∧ BytesAt W (some ⟨w.heap.size, 0, none⟩) (bsT s) ∧ Below w.heap.size w W := by
  refine ⟨_, _, run_bytes_of_string w 9 26 5 s Tryz.underlying9 Tryz.underlying26 Tryz.underlying5, grownCap_ge _ _ _ _, ⟨fun c hc => ?_, fun i hi => ⟨w.heap.size, 0, rfl, ?_⟩⟩, ((Below.refl _ _).drew).alloc (Nat.le_refl _) _⟩
  · obtain ⟨x, _, rfl⟩ := List.mem_map.1 hc
    exact x.toNat_lt
  · rw [bsT_len] at hi
    have hr : (w.drew.alloc (.cells (bytesRow s (grownCap w s.size 0 5)) 5 ((bytesRow s (grownCap w s.size 0 5)).size, (bytesRow s (grownCap w s.size 0 5)).size + 1))).heap[w.heap.size]? = some _ := heap_new w.drew _
    rw [cell_of_row _ _ _ _ _ _ hr]
    unfold bytesRow
    rw [Array.getElem?_append_left (by simpa using hi)]
    have h2 : i < s.data.size := hi
    rw [Array.getElem?_map, Nat.zero_add, Array.getElem?_eq_getElem h2]
    simp [bsT]
    rw [Array.getElem?_eq_getElem h2]
    rfl
theorem run_storeT (g o : Nat) (t : TypeId) : ∀ (vs : List Value) (i : Nat) (cur : Array Value) (w : World), w.heap[g]? = some (.cells cur t (0, 0)) → o + i + vs.length ≤ cur.size → (∀ v ∈ vs, v.oneCell' = true) →
    (storeCells ⟨g, o, none⟩ vs i).run Tryz.prog w = .ok () (w.setRow g (cur.toList.take (o + i) ++ vs ++ cur.toList.drop (o + i + vs.length)).toArray)
  | [], i, cur, w, hg, _, _ => by
    have e : (cur.toList.take (o + i) ++ [] ++ cur.toList.drop (o + i + ([] : List Value).length)).toArray = cur := by simp
    rw [e, setRow_self w g cur t (0, 0) hg]
    rfl
  | v :: rest, i, cur, w, hg, hl, h1 => by
    have hl' : o + i + (rest.length + 1) ≤ cur.size := hl
    have hi : o + i < cur.size := by omega
    have hfro : w.frozen? ⟨g, o + i, none⟩ = false := by simp [World.frozen?, hg]
    have hst : (store ((⟨g, o, none⟩ : Addr).add i) v).run Tryz.prog w = .ok () (w.setRow g (cur.setIfInBounds (o + i) v)) := by
      rw [Addr.add_lit, run_store Tryz.prog w _ v _ (h1 v (by simp)), show w.cell? ⟨g, o + i, none⟩ = some cur[o + i] by simp [World.cell?, hg, hi]]
      simp [hfro, setCell_eq_setRow w g (o + i) cur t (0, 0) v hg]
    have ih := run_storeT g o t rest (i + 1) (cur.setIfInBounds (o + i) v) (w.setRow g (cur.setIfInBounds (o + i) v)) (setRow_heap w g cur _ t _ hg) (by rw [Array.size_setIfInBounds]; omega) (fun x hx => h1 x (List.mem_cons_of_mem _ hx))
    simp only [storeCells, Sem.run_bind, hst, Result.andThen_ok, ih, setRow_setRow]
    congr 3
    have e := list_seg_step cur.toList (o + i) v rest (by rw [Array.length_toList]; exact hl')
    simpa [Array.toList_setIfInBounds, Nat.add_assoc] using e
/-- A text behind bytes of one's own. -/
theorem run_appendS8 {base : Nat} {w : World} {sp : Option Addr} {c : Nat} {l : List Nat} (h : OwnB base w sp c l) (hn : sp ≠ none) (s : ByteArray) (hsz : l.length + s.size ≤ 140737488355328) (hbase : base ≤ w.heap.size) (ty : TypeId) :
    ∃ sp' c' w', (Builtin.append_ #[26, 9] ty #[.slice sp l.length c, .string s]).run Tryz.prog w = .ok (.slice sp' (l ++ bsT s).length c') w' ∧ OwnB base w' sp' c' (l ++ bsT s) ∧ w.grownBy w' (blk sp) ∧ (∀ g, blk sp' = some g → blk sp = some g ∨ w.heap.size ≤ g) ∧ sp' ≠ none := by
  obtain ⟨i0, hi, hz0, hz1, hz2⟩ := info_parts info8
  have hlt : ∀ x ∈ l ++ bsT s, x < 256 := fun x hx => (List.mem_append.1 hx).elim (h.lt x) (bsT_lt s x)
  have hlen : (l ++ bsT s).length = l.length + s.size := by rw [List.length_append, bsT_len]
  have hll : (l.map byteV).length = l.length := List.length_map _
  rcases h.owns.2 with ⟨hv, h0⟩ | ⟨g, cap, cur, hv, hbg, hg, hle, hmx, hsz2, ht⟩
  · simp only [Value.slice.injEq] at hv
    exact absurd hv.1 hn
  simp only [Value.slice.injEq] at hv
  obtain ⟨rfl, _, rfl⟩ := hv
  rw [Nat.mul_one] at hsz2 ht
  by_cases hroom : l.length + s.size ≤ c
  · have hf := Lib.run_firstCells_string (P := Tryz.prog) w 1 s
    have hst := run_storeT g l.length 5 (Lib.strCells s) 0 cur w hg (by rw [Lib.strCells_length]; omega) (Lib.strCells_oneCell s)
    simp only [Nat.add_zero, Lib.strCells_length] at hst
    have hcs : (cur.toList.take l.length ++ Lib.strCells s ++ cur.toList.drop (l.length + s.size)).toArray.size = cur.size := by
      simp only [List.size_toArray, List.length_append, List.length_take, List.length_drop, Array.length_toList, Lib.strCells_length]
      omega
    refine ⟨some ⟨g, 0, none⟩, c, w.setRow g (cur.toList.take l.length ++ Lib.strCells s ++ cur.toList.drop (l.length + s.size)).toArray, ?_, ⟨⟨by simp, .inr ⟨g, c, _, by rw [hlen], hbg, setRow_heap w g cur _ _ _ hg, by omega, hmx, by rw [hcs]; omega, ?_⟩⟩, hlt⟩, ⟨rfl, rfl, rfl, by simp, fun k _ hk => setRow_other w g k _ (fun e => hk (by rw [e]; rfl))⟩, fun x hx => .inl hx, by simp⟩
    · rw [hlen]
      simp [Builtin.append_, run_underlying Tryz.underlying26, run_underlying Tryz.underlying9, sizeOf, typeInfo, hi, hz1, Builtin.lenOf, hroom, hf, Addr.add_lit, hst]
    · rw [ht, strCells_bs, ← List.map_append, Nat.mul_one]
      show ((l ++ bsT s).map byteV ++ _).take _ = _
      rw [show (l ++ bsT s).length = ((l ++ bsT s).map byteV).length from (List.length_map _).symm, List.take_left]
  · have holds : ∀ j u, (l.map byteV)[j]? = some u → w.cell? ((⟨g, 0, none⟩ : Addr).add j) = some u := fun j u hu => by
      rw [Addr.add_lit, cell_of_row w g (0 + j) cur _ _ hg, Nat.zero_add]
      rw [← ht, List.getElem?_take] at hu
      split at hu
      · rw [← Array.getElem?_toList]; exact hu
      · cases hu
    have hr := Lib.run_append_grow_string (P := Tryz.prog) w 26 9 ty 5 i0 (.int .u8 0) Tryz.underlying26 Tryz.underlying9 hi hz0 ⟨g, 0, none⟩ l.length c (l.map byteV) (by rw [hz1, hll, Nat.mul_one]) holds s (by omega) (by omega) (by rw [hz2]; exact growslice_fits (by omega) (by omega))
    have hge := grownCap_ge w (l.length + s.size) c 5
    refine ⟨some ⟨w.heap.size, 0, none⟩, grownCap w (l.length + s.size) c 5, _, by rw [hlen]; exact hr, ⟨⟨by simp, .inr ⟨w.heap.size, grownCap w (l.length + s.size) c 5, _, by rw [hlen], hbase, heap_alloc_new w.drew _, by omega, grownCap_le_maxLen w _ c 5 (by simp only [maxLen]; omega), ?_, ?_⟩⟩, hlt⟩, ⟨rfl, rfl, rfl, by simp, fun k hk _ => Below.heap_alloc w.drew _ k hk⟩, fun x hx => .inr (by simp only [blk, Option.map_some, Option.some.injEq] at hx; omega), by simp⟩
    · have hz1 : (Value.int IntKind.u8 0).cells.size = 1 := rfl
      simp only [Array.size_append, List.size_toArray, size_zeroCells, hz1, hll, Lib.strCells_length]
      omega
    · rw [Nat.mul_one]
      simp only [Array.toList_append, strCells_bs]
      rw [← List.map_append, show (l ++ bsT s).length = ((l ++ bsT s).map byteV).length from (List.length_map _).symm, List.take_left]
theorem wpList_appendS8 {base : Nat} {w : World} {ops : Array Oper} {rest : List Oper} {o : Oper} {a : Act} {Q : Exit → Act → World → Prop} (hgd : o.guard = none) (s x : Operand)
    (ho : o.op = .call { callee := .builtin .append, args := #[s, x], argTypes := #[26, 9] })
    (sp : Option Addr) (n c : Nat) (l : List Nat) (hs : a.eval s = .slice sp n c) (hn : l.length = n) (hown : OwnB base w sp c l) (hne : sp ≠ none)
    (t : ByteArray) (hx : a.eval x = .string t) (hsz : n + t.size ≤ 140737488355328) (hbase : base ≤ w.heap.size)
    (h : ∀ sp' n' c' w', Hid ((l ++ bsT t).length = n') → OwnB base w' sp' c' (l ++ bsT t) → Grew w sp w' sp' → sp' ≠ none → wpList Tryz.prog ops Q rest (a.put o.dst (.slice sp' n' c')) w') :
    wpList Tryz.prog ops Q (o :: rest) a w := by
  subst hn
  refine wpList_plain hgd fun K hK => ?_
  obtain ⟨sp', c', w', hrun, h1, h3, h5, h4⟩ := run_appendS8 hown hne t hsz hbase o.type
  unfold Oper.wp
  simp [execOp, ho, resolve, invoke, builtin, hs, hx, hrun, Result.andThen]
  have := hK _ _ (h sp' (l ++ bsT t).length c' w' rfl h1 ⟨h3, h5⟩ h4)
  rw [List.length_append] at this
  exact this
end Go.Proofs.YtpkpnedcecjlbaaGreatDoor
end
/- Conf, plain: what names, hosts, prefixes, addresses and weights may be; commands. -/
section
namespace Go.Proofs.YtpkpnedcecjlbaaGreatDoor
open Go.ChangeShapes Go.WideShapes Go.ChangeAt Go.RowKit
set_option linter.unusedVariables false

def nameC (c : UInt8) : Bool := (decide (97 ≤ c.toNat) && decide (c.toNat ≤ 122)) || ((decide (48 ≤ c.toNat) && decide (c.toNat ≤ 57)) || decide (c.toNat = 45))
def addrC (c : UInt8) : Bool := decide (33 ≤ c.toNat) && decide (c.toNat ≤ 126)
def prefC (c : UInt8) : Bool := addrC c && (!decide (c.toNat = 63) && !decide (c.toNat = 35))
def madeT (s : ByteArray) (most : Nat) (f : UInt8 → Bool) : Bool := decide (1 ≤ s.size) && decide (s.size ≤ most) && s.data.toList.all f
def nameT (s : ByteArray) : Bool := madeT s 64 nameC
def addrT (s : ByteArray) : Bool := madeT s 64 addrC
def prefT (s : ByteArray) : Bool := madeT s 128 prefC && (s.data.toList.head? == some 47)
/-- The rest of a host: b: did a letter stand just ahead? -/
def hostR : Bool → List UInt8 → Bool
  | b, [] => b
  | b, c :: r => if c = 46 then b && hostR false r else nameC c && hostR true r
def hostT (s : ByteArray) : Bool := decide (s.size ≤ 64) && hostR false s.data.toList
def wtB (n : Nat) : Bool := decide (n < 9218868437227405312)
abbrev Tgt := ByteArray × Nat
structure Cmd where
  act : Int
  cli : Int
  seq : Int
  exp : Int
  host : ByteArray
  pre : ByteArray
  pool : ByteArray
  ts : List Tgt
def numsOk (c : Cmd) : Bool := decide (1 ≤ c.act ∧ c.act ≤ 4) && decide (0 ≤ c.cli ∧ c.cli ≤ 32) && (if c.cli = 0 then decide (c.seq = 0) else decide (1 ≤ c.seq ∧ c.seq ≤ 1099511627776)) && decide (-1 ≤ c.exp ∧ c.exp ≤ 1099511627775)
def isRoute (a : Int) : Bool := decide (a = 3) || decide (a = 4)
def unusedOk (c : Cmd) : Bool := (isRoute c.act || (decide (c.host.size = 0) && decide (c.pre.size = 0))) && (!decide (c.act = 4) || decide (c.pool.size = 0)) && (decide (c.act = 1) || decide (c.ts.length = 0))
def namesOk (c : Cmd) : Bool := (!isRoute c.act || (hostT c.host && prefT c.pre)) && (decide (c.act = 4) || nameT c.pool) && c.ts.all (fun t => addrT t.1)
def wtsOk (l : List Tgt) : Bool := l.all (fun t => wtB t.2)
def checkC (c : Cmd) : Nat := if numsOk c && unusedOk c then (if namesOk c then (if wtsOk c.ts then (if 16 < c.ts.length then 6 else 0) else 15) else 14) else 2
theorem size0 (s : ByteArray) : s.size = 0 ↔ s.data.toList = [] := by
  rw [← List.length_eq_zero_iff, Array.length_toList]; rfl

/- A host's parts: cut at each point. -/
theorem dot_index : ∀ (l : List UInt8), (Lib.index l [46] = -1 ∧ (46 : UInt8) ∉ l) ∨ (∃ i : Nat, Lib.index l [46] = i ∧ i < l.length ∧ l = l.take i ++ 46 :: l.drop (i + 1) ∧ (46 : UInt8) ∉ l.take i)
  | [] => .inl ⟨rfl, by simp⟩
  | b :: t => by
    have hp : [46].isPrefixOf (b :: t) = (b == 46) := by
      rw [List.isPrefixOf, List.isPrefixOf, Bool.and_true, Bool.eq_iff_iff, beq_iff_eq, beq_iff_eq, eq_comm]
    by_cases hb : b = 46
    · subst hb
      refine .inr ⟨0, ?_, by simp, by simp, by simp⟩
      unfold Lib.index
      rw [hp, if_pos (by simp)]
      rfl
    · have hb2 : ¬ (b == 46) = true := by simpa using hb
      rcases dot_index t with ⟨h1, h2⟩ | ⟨i, h1, h2, h3, h4⟩
      · refine .inl ⟨?_, ?_⟩
        · unfold Lib.index
          rw [hp, if_neg hb2, h1]
          rfl
        · intro hm
          rcases List.mem_cons.1 hm with e | e
          · exact hb e.symm
          · exact h2 e
      · refine .inr ⟨i + 1, ?_, by simp; omega, ?_, ?_⟩
        · unfold Lib.index
          rw [hp, if_neg hb2, if_neg (by rw [beq_iff_eq, h1]; omega), h1]
          omega
        · rw [List.take_succ_cons, List.drop_succ_cons, List.cons_append, ← h3]
        · rw [List.take_succ_cons]
          intro hm
          rcases List.mem_cons.1 hm with e | e
          · exact hb e.symm
          · exact h4 e
theorem hostR_all : ∀ (a : List UInt8) (b : Bool), (46 : UInt8) ∉ a → hostR b a = (a.all nameC && (b || !a.isEmpty))
  | [], b, _ => by simp [hostR]
  | c :: r, b, h => by
    have hc : c ≠ 46 := fun e => h (e ▸ List.mem_cons_self)
    unfold hostR
    rw [if_neg hc, hostR_all r true (fun e => h (List.mem_cons_of_mem _ e))]
    simp
theorem hostR_app : ∀ (a : List UInt8) (b : Bool) (r : List UInt8), (46 : UInt8) ∉ a → hostR b (a ++ 46 :: r) = ((a.all nameC && (b || !a.isEmpty)) && hostR false r)
  | [], b, r, _ => by simp [hostR]
  | c :: t, b, r, h => by
    have hc : c ≠ 46 := fun e => h (e ▸ List.mem_cons_self)
    rw [List.cons_append]
    conv => lhs; unfold hostR
    rw [if_neg hc, hostR_app t true r (fun e => h (List.mem_cons_of_mem _ e))]
    simp [Bool.and_assoc]
theorem nameT_is (s : ByteArray) (h : s.size ≤ 64) : nameT s = (s.data.toList.all nameC && !s.data.toList.isEmpty) := by
  unfold nameT madeT
  rw [decide_eq_true h, Bool.and_true]
  have : decide (1 ≤ s.size) = !s.data.toList.isEmpty := by
    rw [Bool.eq_iff_iff, decide_eq_true_eq]
    simp only [Bool.not_eq_true', List.isEmpty_eq_false_iff]
    have := size0 s
    constructor
    · intro h1 h2; have := this.2 h2; omega
    · intro h1; have : s.size ≠ 0 := fun e => h1 (this.1 e); omega
  rw [this, Bool.and_comm]
def dotB : ByteArray := ⟨#[46]⟩
theorem split_host : ∀ (n : Nat) (s : ByteArray), s.size = n → s.size ≤ 64 → (Lib.splitB dotB 0 (Lib.countB s dotB) s).all nameT = hostR false s.data.toList := by
  intro n
  induction n using Nat.strongRecOn with
  | ind n ih =>
    intro s hn h64
    rcases dot_index s.data.toList with ⟨h1, h2⟩ | ⟨i, h1, h2, h3, h4⟩
    · rw [Lib.splitB_miss _ _ _ _ h1, hostR_all _ _ h2]
      simp [nameT_is s h64]
    · have hc : Lib.countB s dotB = 1 + Lib.countB (s.extract (i + 1) s.size) dotB := by
        have := Lib.count_hit (s := s.data.toList) (sub := [46]) (by simp) h1
        have e : (s.extract (i + 1) s.size).data.toList = s.data.toList.drop (i + 1) := Lib.extract_to_end s (i + 1)
        show Lib.count _ _ = 1 + Lib.count _ _
        rw [e]
        exact this
      have hi : i < s.size := by simpa using h2
      have hs : (s.extract (i + 1) s.size).size = s.size - (i + 1) := by simp
      rw [hc, Nat.add_comm, Lib.splitB_hit dotB 0 _ s i h1, List.all_cons, show dotB.size = 1 from rfl, ih (s.size - (i + 1)) (by omega) _ hs (by omega)]
      have e0 : (s.extract 0 (i + 0)).data.toList = s.data.toList.take i := Lib.extract_from_zero s i
      have e1 : (s.extract (i + 1) s.size).data.toList = s.data.toList.drop (i + 1) := Lib.extract_to_end s (i + 1)
      rw [nameT_is _ (by simp; omega), e0, e1]
      conv => rhs; rw [h3, hostR_app _ _ _ h4]
      simp
theorem split_le (k : Nat) : ∀ (s p : ByteArray), p ∈ Lib.splitB dotB 0 k s → p.size ≤ s.size := by
  induction k with
  | zero => intro s p hp; rw [Lib.splitB_zero] at hp; simp at hp; rw [hp]; exact Nat.le_refl _
  | succ k ih =>
    intro s p hp
    unfold Lib.splitB at hp
    split at hp
    · simp at hp; rw [hp]; exact Nat.le_refl _
    · rcases List.mem_cons.1 hp with rfl | hp
      · simp; omega
      · refine Nat.le_trans (ih _ _ hp) ?_
        simp
end Go.Proofs.YtpkpnedcecjlbaaGreatDoor
end
/- Disk: copies of bytes, bytes laid over bytes. -/
section
namespace Go.Proofs.YtpkpnedcecjlbaaGreatDoor
open Go.ChangeShapes Go.WideShapes Go.ChangeAt Go.RowKit

/-- Bytes with others over them from a place on. -/
def overL (l : List Nat) (k : Nat) (o : List Nat) : List Nat := l.take k ++ (o ++ l.drop (k + o.length))
theorem overL_nil (l : List Nat) (k : Nat) : overL l k [] = l := by simp [overL]
theorem overL_length (l : List Nat) (k : Nat) (o : List Nat) (hk : k ≤ l.length) : (overL l k o).length = max l.length (k + o.length) := by
  simp only [overL, List.length_append, List.length_take, List.length_drop]
  omega
theorem overL_lt {l o : List Nat} (k : Nat) (hl : ∀ c ∈ l, c < 256) (ho : ∀ c ∈ o, c < 256) : ∀ c ∈ overL l k o, c < 256 := by
  intro c hc
  simp only [overL, List.mem_append] at hc
  rcases hc with h | h | h
  · exact hl c (List.mem_of_mem_take h)
  · exact ho c h
  · exact hl c (List.mem_of_mem_drop h)
theorem overL_two (l : List Nat) (k n : Nat) (o : List Nat) (hk : k ≤ l.length) (hn : n = min o.length (l.length - k)) : overL l k (o.take n) ++ o.drop n = overL l k o := by
  unfold overL
  by_cases h : o.length ≤ l.length - k
  · have e : n = o.length := by omega
    rw [e, List.take_of_length_le (Nat.le_refl _), List.drop_of_length_le (Nat.le_refl _), List.append_nil]
  · have e : n = l.length - k := by omega
    have h1 : (o.take n).length = n := by rw [List.length_take]; omega
    have h2 : l.drop (k + n) = [] := List.drop_of_length_le (by omega)
    have h3 : l.drop (k + o.length) = [] := List.drop_of_length_le (by omega)
    rw [h1, h2, h3, List.append_nil, List.append_nil, List.append_assoc, List.take_append_drop]
/-- Bytes of one's own, in a block that may be longer than their room. -/
structure Bx (base : Nat) (w : World) (sp : Option Addr) (c : Nat) (l : List Nat) : Prop where
  lt : ∀ x ∈ l, x < 256
  row : (sp = none ∧ c = 0 ∧ l = []) ∨ ∃ (g : Nat) (cur : List Value), sp = some ⟨g, 0, none⟩ ∧ base ≤ g ∧ w.heap[g]? = some (.cells cur.toArray 5 (0, 0)) ∧ l.length ≤ c ∧ c ≤ cur.length ∧ c ≤ maxLen ∧ cur.take l.length = l.map byteV
section
variable {base : Nat} {w w' : World} {sp : Option Addr} {c : Nat} {l : List Nat}
theorem Bx.ofNil (base : Nat) (w : World) : Bx base w none 0 [] := ⟨by simp, .inl ⟨rfl, rfl, rfl⟩⟩
theorem OwnB.toBx (h : OwnB base w sp c l) : Bx base w sp c l := by
  refine ⟨h.lt, ?_⟩
  rcases h.owns.2 with ⟨hv, h1⟩ | ⟨g, cap, cur, hv, hb, hg, hle, hmx, hsz, ht⟩
  · simp only [Value.slice.injEq] at hv
    exact .inl ⟨hv.1, hv.2.2, List.eq_nil_of_length_eq_zero h1⟩
  · simp only [Value.slice.injEq] at hv
    obtain ⟨rfl, _, rfl⟩ := hv
    obtain ⟨cl⟩ := cur
    have h2 : cl.length = c * 1 := hsz
    have h3 : cl.take (l.length * 1) = l.map byteV := ht
    rw [Nat.mul_one] at h2 h3
    exact .inr ⟨g, cl, rfl, hb, hg, hle, by omega, hmx, h3⟩
theorem Bx.bytes (h : Bx base w sp c l) : BytesAt w sp l := by
  refine ⟨h.lt, fun i hi => ?_⟩
  rcases h.row with ⟨_, _, rfl⟩ | ⟨g, cur, rfl, _, hg, _, _, _, ht⟩
  · simp at hi
  · refine ⟨g, 0, rfl, ?_⟩
    rw [cell_of_row w g (0 + i) _ _ _ hg, Nat.zero_add]
    have e : (l.map byteV)[i]? = some (byteV (l.getD i 0)) := by
      rw [List.getElem?_map, List.getElem?_eq_getElem hi, List.getD_eq_getElem?_getD, List.getElem?_eq_getElem hi]; rfl
    rw [← ht, List.getElem?_take, if_pos hi] at e
    have e2 : cur.toArray[i]? = cur[i]? := by simp
    exact e2.trans e
theorem Bx.cap (h : Bx base w sp c l) : l.length ≤ c ∧ c ≤ maxLen := by
  rcases h.row with ⟨_, rfl, rfl⟩ | ⟨g, cur, _, _, _, h1, _, h2, _⟩
  · exact ⟨by simp, by simp [maxLen]⟩
  · exact ⟨h1, h2⟩
theorem Bx.nil0 (h : Bx base w sp c l) : sp = none → c = 0 := by
  intro e
  rcases h.row with ⟨_, h1, _⟩ | ⟨g, cur, h1, _⟩
  · exact h1
  · rw [h1] at e; cases e
theorem Bx.isT (h : Bx base w sp c l) : ∀ g, blk sp = some g → base ≤ g ∧ g < w.heap.size ∧ ∃ cur : Array Value, w.heap[g]? = some (.cells cur 5 (0, 0)) := by
  intro g hg
  rcases h.row with ⟨h1, _⟩ | ⟨g1, cur, h1, hb, hh, _⟩
  · rw [h1] at hg; cases hg
  · rw [h1] at hg
    obtain rfl : g1 = g := by simpa [blk] using hg
    exact ⟨hb, (Array.getElem?_eq_some_iff.1 hh).1, _, hh⟩
theorem Bx.grownNe {o : Option Nat} (h : Bx base w sp c l) (hg : w.grownBy w' o) (hne : ∀ g, blk sp = some g → o ≠ some g) : Bx base w' sp c l := by
  refine ⟨h.lt, ?_⟩
  rcases h.row with hv | ⟨g, cur, h1, hb, hh, r⟩
  · exact .inl hv
  · exact .inr ⟨g, cur, h1, hb, (hg.block g (Array.getElem?_eq_some_iff.1 hh).1 (fun e => hne g (by rw [h1]; rfl) e.symm)).trans hh, r⟩
theorem Bx.later (h : Bx base w sp c l) (hb : Below w.heap.size w w') : Bx base w' sp c l := by
  refine ⟨h.lt, ?_⟩
  rcases h.row with hv | ⟨g, cur, h1, hbg, hh, r⟩
  · exact .inl hv
  · exact .inr ⟨g, cur, h1, hbg, (hb.block g (Array.getElem?_eq_some_iff.1 hh).1).trans hh, r⟩
theorem Bx.mono {base' : Nat} (h : Bx base w sp c l) (hb : base' ≤ base) : Bx base' w sp c l := by
  refine ⟨h.lt, ?_⟩
  rcases h.row with hv | ⟨g, cur, h1, hbg, r⟩
  · exact .inl hv
  · exact .inr ⟨g, cur, h1, by omega, r⟩
theorem Bx.ne_block (h : Bx base w sp c l) {g : Nat} {cs : Array Value} {T : TypeId} {fr : Nat × Nat} (hg : w.heap[g]? = some (.cells cs T fr)) (hT : T ≠ 5) : blk sp ≠ some g := by
  intro hs
  obtain ⟨_, _, cur, hc⟩ := h.isT g hs
  rw [hc] at hg
  simp only [Option.some.injEq, Obj.cells.injEq] at hg
  exact hT hg.2.1.symm
/-- b[:k] and b[:k:m]. -/
theorem Bx.cut (h : Bx base w sp c l) (k m : Nat) (hk : k ≤ l.length) (hkm : k ≤ m) (hm : m ≤ c) : Bx base w sp m (l.take k) := by
  refine ⟨fun x hx => h.lt x (List.mem_of_mem_take hx), ?_⟩
  have hl : (l.take k).length = k := by rw [List.length_take]; omega
  rcases h.row with ⟨h1, h2, h3⟩ | ⟨g, cur, h1, hb, hg, h2, h3, h4, ht⟩
  · subst h3
    exact .inl ⟨h1, by omega, by simp⟩
  · refine .inr ⟨g, cur, h1, hb, hg, by omega, by omega, by omega, ?_⟩
    rw [hl, List.map_take, ← ht, List.take_take]
    congr 1
    omega
theorem slp_zero (sp : Option Addr) (m : Nat) (h : ∀ ad, sp = some ad → ∃ g, ad = ⟨g, 0, none⟩) : slp sp 0 m = sp := by
  unfold slp
  split
  · rfl
  · cases sp with
    | none => rfl
    | some ad =>
      obtain ⟨g, rfl⟩ := h ad rfl
      simp [Addr.add_lit]
theorem Bx.slp0 (h : Bx base w sp c l) (m : Nat) : slp sp 0 m = sp := slp_zero sp m fun ad e => by
  rcases h.row with ⟨h1, _⟩ | ⟨g, cur, h1, _⟩
  · rw [h1] at e; cases e
  · rw [h1] at e; cases e; exact ⟨g, rfl⟩
theorem grown_setRow (w : World) (g : Nat) (cs : Array Value) : w.grownBy (w.setRow g cs) (some g) :=
  ⟨rfl, rfl, rfl, by simp, fun i _ hne => setRow_other w g i cs (fun e => hne (by rw [e]))⟩
/-- append onto such bytes. -/
theorem run_appendBx (h : Bx base w sp c l) (xp : Option Addr) (m xc : Nat) (k : List Nat) (hk : k.length = m) (hB : BytesAt w xp k) (hx0 : xp = none → xc = 0) (hsz : l.length + m ≤ 140737488355328) (hbase : base ≤ w.heap.size) (ty : TypeId) :
    ∃ sp' c' w', (Builtin.append_ #[26, 26] ty #[.slice sp l.length c, .slice xp m xc]).run Tryz.prog w = .ok (.slice sp' (l ++ k).length c') w' ∧ Bx base w' sp' c' (l ++ k) ∧ Grew w sp w' sp' := by
  rcases h.row with ⟨rfl, rfl, rfl⟩ | ⟨g, cur, rfl, hbg, hg, hle, hcc, hmx, ht⟩
  · obtain ⟨sp', c', w', h1, h2, h3, h4⟩ := run_append8L base none 0 [] (OwnB.ofNil w base) xp m xc k hk hB hx0 hsz hbase ty
    exact ⟨sp', c', w', h1, h2.toBx, h3, h4⟩
  · subst hk
    obtain ⟨i0, hi, hz0, hz1, hz2⟩ := info_parts info8
    cases xp with
    | none =>
      have hk0 : k = [] := by
        cases k with
        | nil => rfl
        | cons x r => obtain ⟨b, off, h, _⟩ := hB.cell 0 (by simp); cases h
      subst hk0
      rw [hx0 rfl]
      refine ⟨some ⟨g, 0, none⟩, c, w, ?_, by rw [List.append_nil]; exact h, Grew.refl _ _⟩
      rw [List.append_nil]
      simp [Builtin.append_, run_underlying Tryz.underlying26, sizeOf, typeInfo, hi, Builtin.lenOf, Builtin.firstCells, hle, storeCells]
    | some ad =>
      have hnews : ∀ j u, (k.map byteV)[j]? = some u → w.cell? (ad.add j) = some u := fun j u hu => by
        have h0 : 0 < (k.map byteV).length := by
          rcases Nat.eq_zero_or_pos (k.map byteV).length with h | h
          · rw [List.getElem?_eq_none (by omega)] at hu; cases hu
          · exact h
        obtain ⟨ad', had, hc⟩ := cells_of_bytesAt hB h0
        cases had
        exact hc j u hu
      have hlt : ∀ x ∈ l ++ k, x < 256 := fun x hx => (List.mem_append.1 hx).elim (h.lt x) (hB.lt x)
      by_cases hroom : l.length + k.length ≤ c
      · have hrun := run_append_room (P := Tryz.prog) w 26 ty 5 i0 Tryz.underlying26 hi g l.length c cur.toArray hg ad k.length xc (k.map byteV) (by rw [hz1]; simp) hnews (oneCell_bytes k) hroom (by rw [hz1]; simp; omega)
        refine ⟨some ⟨g, 0, none⟩, c, _, by rw [List.length_append]; exact hrun, ⟨hlt, .inr ⟨g, _, rfl, hbg, setRow_heap w g _ _ _ _ hg, by rw [List.length_append]; exact hroom, ?_, hmx, ?_⟩⟩, ⟨grown_setRow _ _ _, fun g' hg' => .inl hg'⟩⟩
        · rw [hz1]; simp; omega
        · rw [hz1]
          have hm : (cur.take l.length ++ k.map byteV).length = l.length + k.length := by simp; omega
          have hc2 : (cur.take l.length ++ k.map byteV ++ cur.drop (l.length + k.length)).take (l.length + k.length) = l.map byteV ++ k.map byteV := by
            rw [← hm, List.take_left, ht]
          simpa using hc2
      · obtain ⟨v', w', hrun, h1, h2⟩ := run_append_arg_grows (P := Tryz.prog) (w := w) 26 ty 5 i0 (.int .u8 0) 1 1 Tryz.underlying26 hi hz0 hz1 hz2 rfl (by omega) ⟨g, 0, none⟩ l.length c (l.map byteV) (by simp) (by
          intro j u hu
          rw [Addr.add_lit, Nat.zero_add, cell_of_row w g j _ _ _ hg]
          have hj : j < l.length := by have := (List.getElem?_eq_some_iff.1 hu).1; simpa using this
          rw [← ht, List.getElem?_take, if_pos hj] at hu
          simpa using hu) ad k.length xc (k.map byteV) (by simp) hnews (by omega) (by simp only [maxLen]; omega) (by omega)
        rw [← List.map_append] at h1
        rcases h1.2 with ⟨hv, h3⟩ | ⟨g', cap, cur', hv, hb', hg', hle', hmx', hsz', ht'⟩
        · omega
        · obtain ⟨cl⟩ := cur'
          have h4 : cl.length = cap * 1 := hsz'
          have h5 : cl.take ((l.length + k.length) * 1) = (l ++ k).map byteV := ht'
          rw [Nat.mul_one] at h4 h5
          refine ⟨some ⟨g', 0, none⟩, cap, w', by rw [hrun, hv, List.length_append], ⟨hlt, .inr ⟨g', cl, rfl, by omega, hg', by rw [List.length_append]; exact hle', by omega, hmx', by rw [List.length_append]; exact h5⟩⟩, ⟨?_, fun g2 hg2 => .inr ?_⟩⟩
          · exact ⟨h2.os, h2.tape, h2.output, h2.size, fun j hj _ => h2.block j hj (by simp)⟩
          · obtain rfl : g' = g2 := by simpa [blk] using hg2
            exact hb'
end
end Go.Proofs.YtpkpnedcecjlbaaGreatDoor
end
/- Small laws of memory for the texts of logs. -/
section
namespace Go.Proofs.YtpkpnedcecjlbaaGreatDoor
open Go.ChangeShapes Go.WideShapes Go.ChangeAt Go.RowKit

theorem box_cell {w : World} {j : Nat} {cs : Array Value} {T : TypeId} (h : w.heap[j]? = some (.cells cs T (0, 0))) (f : Nat) (v : Value) (hv : cs[f]? = some v) : w.cell? ⟨j, f, none⟩ = some v := by
  rw [cell_of_row _ _ _ _ _ _ h, hv]
theorem later_block {w w' : World} {j : Nat} {o : Obj} (hb : Below w.heap.size w w') (h : w.heap[j]? = some o) : w'.heap[j]? = some o := (hb.block j (Array.getElem?_eq_some_iff.1 h).1).trans h
theorem froz_of {W : World} {E : Nat} {cs : Array Value} {t : Nat} (h : W.heap[E]? = some (.cells cs t (0, 0))) (i : Nat) : W.frozen? ⟨E, i, none⟩ = false := by simp [World.frozen?, h]
theorem cell_aside (W : World) {A B i k : Nat} (v : Value) (h : B ≠ A) : (W.setCell ⟨A, i, none⟩ v).cell? ⟨B, k, none⟩ = W.cell? ⟨B, k, none⟩ :=
  World.cell?_of_block (heap_setCell_other W ⟨A, i, none⟩ B v (fun e => h (by simpa using e)))
end Go.Proofs.YtpkpnedcecjlbaaGreatDoor
end
/- What the walks ask of memory (a program without slices of bytes). -/
section
namespace Go.Proofs.YtpkpnedcecjlbaaGreatDoor
open Go.ChangeShapes Go.WideShapes Go.ChangeAt Go.RowKit

end Go.Proofs.YtpkpnedcecjlbaaGreatDoor
end
/- Targets and routes in memory. -/
section
namespace Go.Proofs.YtpkpnedcecjlbaaGreatDoor
open Go.ChangeShapes Go.WideShapes Go.ChangeAt Go.RowKit

theorem run_storeF (m : Mode) (a : Addr) (b : Nat) (w : World) : (store a (.float .f64 b) m).run Tryz.prog w = stored Tryz.prog w a (.float .f64 b) m := run_store Tryz.prog w a _ m rfl
/-- A target: its address, its weight's bits. -/
abbrev Tg := ByteArray × Nat
structure TgsAt (w : World) (a : Option Addr) (l : List Tg) : Prop where
  lt : ∀ t ∈ l, t.2 < 18446744073709551616
  cell : ∀ i (hi : i < l.length), ∃ b off, a = some ⟨b, off, none⟩ ∧ w.cell? ⟨b, off + i * 2, none⟩ = some (.string l[i].1) ∧ w.cell? ⟨b, off + i * 2 + 1, none⟩ = some (.float .f64 l[i].2)
theorem TgsAt.later {w w' : World} {a : Option Addr} {l : List Tg} (h : TgsAt w a l) (hb : Below w.heap.size w w') : TgsAt w' a l :=
  ⟨h.lt, fun i hi => by obtain ⟨b, off, e, h1, h2⟩ := h.cell i hi; exact ⟨b, off, e, cell_later hb h1, cell_later hb h2⟩⟩
/-- A route: host, prefix, pool. -/
structure Rt where
  h : ByteArray
  p : ByteArray
  l : ByteArray
def rtVal (r : Rt) : Value := .agg #[.string r.h, .string r.p, .string r.l]
def rt0 : Rt := ⟨⟨#[]⟩, ⟨#[]⟩, ⟨#[]⟩⟩
structure RtsAt (w : World) (a : Option Addr) (l : List Rt) : Prop where
  sz : ∀ r ∈ l, r.h.size ≤ maxLen ∧ r.p.size ≤ maxLen ∧ r.l.size ≤ maxLen
  cell : ∀ i (hi : i < l.length), ∃ b off, a = some ⟨b, off, none⟩ ∧ w.cell? ⟨b, off + i * 3, none⟩ = some (.string l[i].h) ∧ w.cell? ⟨b, off + i * 3 + 1, none⟩ = some (.string l[i].p) ∧ w.cell? ⟨b, off + i * 3 + 2, none⟩ = some (.string l[i].l)
theorem RtsAt.later {w w' : World} {a : Option Addr} {l : List Rt} (h : RtsAt w a l) (hb : Below w.heap.size w w') : RtsAt w' a l :=
  ⟨h.sz, fun i hi => by obtain ⟨b, off, e, h1, h2, h3⟩ := h.cell i hi; exact ⟨b, off, e, cell_later hb h1, cell_later hb h2, cell_later hb h3⟩⟩
theorem rt_at (l : List Rt) (j : Nat) (hj : j < l.length) : l.getD j rt0 = l[j] := by
  rw [List.getD_eq_getElem?_getD, List.getElem?_eq_getElem hj]; rfl
theorem fcell0 {w : World} {j : Nat} {cs : Array Value} {T : TypeId} (h : w.heap[j]? = some (.cells cs T (0, 0))) (f : Nat) (v : Value) (hv : cs[f]? = some v) : w.cell? ⟨j, f, none⟩ = some v := by
  rw [cell_of_row _ _ _ _ _ _ h, hv]
theorem grown_set0 (w : World) (j k : Nat) (v : Value) : w.grownBy (w.setCell ⟨j, k, none⟩ v) (some j) :=
  ⟨rfl, rfl, rfl, by simp [World.setCell], fun i _ hne => heap_setCell_other w ⟨j, k, none⟩ i v (fun e => hne (by rw [e]))⟩
theorem set3 {w : World} {g : Nat} {a b c x y z : Value} {T : TypeId} (h : w.heap[g]? = some (.cells #[a, b, c] T (0, 0))) : (((w.setCell ⟨g, 0, none⟩ x).setCell ⟨g, 1, none⟩ y).setCell ⟨g, 2, none⟩ z).heap[g]? = some (.cells #[x, y, z] T (0, 0)) ∧ w.grownBy (((w.setCell ⟨g, 0, none⟩ x).setCell ⟨g, 1, none⟩ y).setCell ⟨g, 2, none⟩ z) (some g) := by
  have h1 := heap_setCell_same w g 0 #[a, b, c] T x h
  have h2 := heap_setCell_same _ g 1 _ T y h1
  have h3 := heap_setCell_same _ g 2 _ T z h2
  exact ⟨h3, ((grown_set0 w g 0 x).trans (grown_set0 _ g 1 y)).trans (grown_set0 _ g 2 z)⟩
end Go.Proofs.YtpkpnedcecjlbaaGreatDoor
end
/- Plain: a number as bytes, seven bits a byte, the lowest first. -/
section
namespace Go.Proofs.YtpkpnedcecjlbaaGreatDoor

def numBf : Nat → Nat → List Nat
  | 0, n => [n]
  | f + 1, n => if n < 128 then [n] else (n % 128 + 128) :: numBf f (n / 128)
theorem numBf_same : ∀ (n f g : Nat), n ≤ f → n ≤ g → numBf f n = numBf g n := by
  intro n
  induction n using Nat.strongRecOn with
  | ind n ih =>
    intro f g hf hg
    by_cases h : n < 128
    · cases f <;> cases g <;> simp only [numBf, if_pos h]
    · match f, g, hf, hg with
      | 0, _, hf, _ => omega
      | _ + 1, 0, _, hg => omega
      | f + 1, g + 1, hf, hg =>
        simp only [numBf, if_neg h]
        rw [ih (n / 128) (by omega) f g (by omega) (by omega)]
/-- A number's bytes. -/
def numB (n : Nat) : List Nat := numBf n n
theorem numB_small {n : Nat} (h : n < 128) : numB n = [n] := by
  unfold numB
  cases n with
  | zero => rfl
  | succ k => simp only [numBf, if_pos h]
theorem numB_great {n : Nat} (h : ¬ n < 128) : numB n = (n % 128 + 128) :: numB (n / 128) := by
  unfold numB
  cases n with
  | zero => omega
  | succ k =>
    simp only [numBf, if_neg h]
    rw [numBf_same ((k + 1) / 128) k ((k + 1) / 128) (by omega) (Nat.le_refl _)]
theorem numB_length (n : Nat) : 1 ≤ (numB n).length ∧ (numB n).length ≤ n + 1 := by
  induction n using Nat.strongRecOn with
  | ind n ih =>
    by_cases h : n < 128
    · rw [numB_small h]; simp
    · rw [numB_great h]
      have := ih (n / 128) (by omega)
      simp only [List.length_cons]
      omega
theorem numB_lt (n : Nat) : ∀ c ∈ numB n, c < 256 := by
  induction n using Nat.strongRecOn with
  | ind n ih =>
    by_cases h : n < 128
    · rw [numB_small h]; intro c hc; simp only [List.mem_cons, List.not_mem_nil, or_false] at hc; omega
    · rw [numB_great h]
      intro c hc
      rcases List.mem_cons.1 hc with h1 | h1
      · omega
      · exact ih (n / 128) (by omega) c h1
end Go.Proofs.YtpkpnedcecjlbaaGreatDoor
end
