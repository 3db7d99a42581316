/- Disk: by the document; find, Sync, Cut, Remove, Rename, Read, Sure. -/
import Derived.Test.YtagncghpfdjkmaaGreatDoorB05
import Derived.Lib.AtoiAll
import Derived.Lib.ItoaNum
import Derived.Shelf.Small.Bits
import Derived.Shelf.Small.Wraps
import Derived.Shelf.Strconv.Atoi
import Derived.Shelf.Strconv.Itoa0
import Derived.Shelf.Strconv.Itoa1
import Derived.Shelf.LaysM
import Derived.Shelf.Strconv.Itoa2
import Derived.Shelf.Strconv.Itoa3
import Derived.Shelf.Strconv.AtoiErrFast
import Derived.Shelf.Strconv.ParseIntEmpty
import Derived.Shelf.Strconv.AtoiFail
import Derived.Shelf.Strconv.Clone
import Derived.Shelf.Strconv.SyntaxError
import Derived.Shelf.LaysC
import Derived.Shelf.Strconv.ToError
import Derived.Shelf.Strconv.Lower
import Derived.Shelf.Strconv.ParseUint10
import Derived.Shelf.Strconv.ParseUint10Empty
import Derived.Shelf.Strconv.ParseUint10Any
import Derived.Shelf.Strconv.ParseInt10
import Derived.Shelf.Strconv.AtoiLong
import Derived.Shelf.Strconv.AtoiInnerAll
import Derived.Shelf.Strconv.RangeError
import Derived.Shelf.Strconv.ToErrorRange
import Derived.Shelf.Strconv.AtoiAll
import Derived.Shelf.Strings.Prefix
import Derived.Ground.SlgmProg
import Derived.Shelf.SortM.Plain
import Derived.Shelf.SortM.SortNone
import Derived.Test.YtagncghpfdjkmaaGreatDoorProg
section
namespace Go.Proofs.YtagncghpfdjkmaaGreatDoor
open Go.ChangeShapes Go.WideShapes Go.ChangeAt Go.RowKit Go.Maps

section
variable {α β : Type}
def getS (k : Nm) (l : List (Nm × α)) : Option α := (l.find? (fun x => decide (x.1 = k))).map (·.2)
theorem getS_some {k : Nm} {l : List (Nm × α)} {v : α} (h : getS k l = some v) : (k, v) ∈ l := by
  unfold getS at h
  rw [Option.map_eq_some_iff] at h
  obtain ⟨x, hx, rfl⟩ := h
  have h1 := List.find?_some hx
  have h2 := List.mem_of_find?_eq_some hx
  simp only [decide_eq_true_eq] at h1
  rw [← h1]; exact h2
theorem getS_none {k : Nm} {l : List (Nm × α)} : getS k l = none ↔ k ∉ l.map (·.1) := by
  unfold getS
  rw [Option.map_eq_none_iff, List.find?_eq_none]
  simp only [List.mem_map, decide_eq_true_eq]
  constructor
  · rintro h ⟨x, hx, rfl⟩; exact h x hx rfl
  · intro h x hx e; exact h ⟨x, hx, e⟩
theorem getS_mem {k : Nm} {l : List (Nm × α)} {v : α} (hr : Rises l) (h : (k, v) ∈ l) : getS k l = some v := by
  cases e : getS k l with
  | none => exact absurd (List.mem_map.2 ⟨_, h, rfl⟩) (getS_none.1 e)
  | some u => rw [show u = v by have := hr.one (getS_some e) h rfl; simpa using this]
theorem getS_map (g : α → β) (k : Nm) (l : List (Nm × α)) : getS k (l.map (fun x => (x.1, g x.2))) = (getS k l).map g := by
  unfold getS
  rw [List.find?_map]
  simp only [Option.map_map, Function.comp_def]
theorem getS_put {k : Nm} {v : α} {l : List (Nm × α)} (hr : Rises l) (j : Nm) : getS j (putF k v l) = if j = k then some v else getS j l := by
  by_cases e : j = k
  · subst e
    rw [if_pos rfl]
    exact getS_mem (hr.put _ _) ((mem_putF hr _).2 (.inl rfl))
  · rw [if_neg e]
    cases h : getS j l with
    | some u => exact getS_mem (hr.put _ _) ((mem_putF hr _).2 (.inr ⟨getS_some h, e⟩))
    | none =>
      rw [getS_none] at h ⊢
      intro hm
      obtain ⟨x, hx, ex⟩ := List.mem_map.1 hm
      rcases (mem_putF hr x).1 hx with rfl | ⟨hx, _⟩
      · exact e ex.symm
      · exact h (List.mem_map.2 ⟨x, hx, ex⟩)
end
abbrev Ds := List (Nm × Sp)
def sp0 : Sp := ⟨false, [], []⟩
def nameL (k : Nm) : Bool := decide (1 ≤ k.length) && (decide (k.length ≤ 64) && k.all (fun b => stands b.toNat))
theorem nameOk_list (s : ByteArray) : nameOk s = nameL s.data.toList := by
  unfold nameOk nameL
  rw [Array.length_toList]; rfl
def usedS (ss : Ds) : Nat := (ss.map (fun x => x.2.now.length)).sum
def dSync (k : Nm) (ss : Ds) : Nat × Ds := match getS k ss with
  | none => (8, ss)
  | some s => (0, putF k ⟨true, s.now, []⟩ ss)
def dRemove (k : Nm) (ss : Ds) : Nat × Ds := match getS k ss with
  | none => (8, ss)
  | some _ => (0, delF k ss)
def dRename (a b : Nm) (ss : Ds) : Nat × Ds := match getS a ss with
  | none => (8, ss)
  | some s => if nameL b then (0, putF b s (delF a ss)) else (14, ss)
def wrote (s : Sp) (z : Nat) (o : List Nat) : Sp := if o.length = 0 then s else ⟨s.la, s.y, s.cs ++ [(false, z, o)]⟩
def dWrite (room : Nat) (k : Nm) (z : Int) (o : List Nat) (ss : Ds) : Nat × Ds :=
  if nameL k = false then (14, ss) else
  if z < 0 ∨ z > ((getS k ss).getD sp0).now.length then (2, ss) else
  if ((getS k ss).isNone = true ∧ 16 ≤ ss.length) ∨ (o.length : Int) > 262144 - z then (6, ss) else
  if (usedS ss : Int) + max (z + o.length - ((getS k ss).getD sp0).now.length) 0 > room then (9, ss) else
  (0, putF k (wrote ((getS k ss).getD sp0) z.toNat o) ss)
/-- How a call on a disk ends: the error, the files by the document. -/
def DEnd (base d M room N : Nat) (w : World) (fs : List Fe) (r : Nat × Ds) (e : Ending) (w' : World) : Prop :=
  e = .returned (.int .i64 (r.1 : Int)) ∧ ∃ fs', DiskAt base w' d M room N fs' ∧ DGrew d M w fs w' fs' ∧ sps fs' = r.2
section
variable {base d M room N : Nat} {w w' : World} {fs fs' : List Fe}
theorem DiskAt.riseS (h : DiskAt base w d M room N fs) : Rises (sps fs) := h.rise.map (fun x : Nat × Fil => x.2.sp)
theorem sps_get (k : Nm) (fs : List Fe) : getS k (sps fs) = (getS k fs).map (fun x => x.2.sp) := getS_map (fun x : Nat × Fil => x.2.sp) k fs
theorem sps_put (k : Nm) (F : Nat) (f : Fil) (fs : List Fe) : sps (putF k (F, f) fs) = putF k f.sp (sps fs) := putF_map (fun x : Nat × Fil => x.2.sp) k (F, f) fs
theorem sps_del (k : Nm) (fs : List Fe) : sps (delF k fs) = delF k (sps fs) := delF_map (fun x : Nat × Fil => x.2.sp) k fs
theorem ptrs_put (k : Nm) (F : Nat) (f : Fil) (fs : List Fe) : ptrs (putF k (F, f) fs) = putF k F (ptrs fs) := putF_map (fun x : Nat × Fil => x.1) k (F, f) fs
theorem ptrs_del (k : Nm) (fs : List Fe) : ptrs (delF k fs) = delF k (ptrs fs) := delF_map (fun x : Nat × Fil => x.1) k fs
theorem DiskAt.nows (h : DiskAt base w d M room N fs) {x : Fe} (hx : x ∈ fs) : x.2.2.sp.now = x.2.2.b := ((h.ok x hx).now).symm
theorem DEnd.stay {r : Nat × Ds} {e : Ending} (h : DiskAt base w d M room N fs) (he : e = .returned (.int .i64 (r.1 : Int))) (hr : r.2 = sps fs) : DEnd base d M room N w fs r e w := ⟨he, fs, h, DGrew.refl, hr.symm⟩
theorem DEnd.below {r : Nat × Ds} {e : Ending} (h : DiskAt base w d M room N fs) (he : e = .returned (.int .i64 (r.1 : Int))) (hr : r.2 = sps fs) (hb : Below w.heap.size w w') : DEnd base d M room N w fs r e w' := ⟨he, fs, h.later hb, DGrew.ofBelow hb, hr.symm⟩
theorem find_yes (h : DiskAt base w d M room N fs) (s : ByteArray) (hs : s.size ≤ maxLen) (F : Nat) (f : Fil) (hx : getS s.data.toList fs = some (F, f)) :
    Calls Tryz.prog 92 #[.pointer (some ⟨d, 0, none⟩), .string s] w fun e w' => e = .returned (.tuple #[.pointer (some ⟨F, 0, none⟩), .int .i64 0]) ∧ w' = w := by
  have c1 := h.c1
  have l1 := (h.map.look_yes s hs F (List.mem_map.2 ⟨_, getS_some hx, rfl⟩)).1
  clear h hx
  go_enter Tryz.func92, Tryz.ntmps92
  go_wp2
  go_ret2
  exact ⟨rfl, rfl⟩
theorem find_no (h : DiskAt base w d M room N fs) (s : ByteArray) (hs : s.size ≤ maxLen) (hx : getS s.data.toList fs = none) :
    Calls Tryz.prog 92 #[.pointer (some ⟨d, 0, none⟩), .string s] w fun e w' => e = .returned (.tuple #[.pointer none, .int .i64 8]) ∧ w' = w := by
  have c1 := h.c1
  have l1 := h.map.look_no s hs (by rw [ptrs, List.map_map]; exact getS_none.1 hx)
  clear h hx
  go_enter Tryz.func92, Tryz.ntmps92
  go_wp2
  go_ret2
  exact ⟨rfl, rfl⟩
theorem dsync_calls (h : DiskAt base w d M room N fs) (hbs : base ≤ w.heap.size) (s : ByteArray) (hs : s.size ≤ maxLen) :
    Calls Tryz.prog 38 #[.pointer (some ⟨d, 0, none⟩), .string s] w (DEnd base d M room N w fs (dSync s.data.toList (sps fs))) := by
  have HS := hide (sps_get s.data.toList fs)
  cases hg : getS s.data.toList fs with
  | none =>
    have F1 := hide (find_no h s hs hg)
    have E1 := hide (DEnd.stay (w := w) (r := dSync s.data.toList (sps fs)) (e := .returned (.int .i64 8)) h (by simp [dSync, unhide HS, hg]) (by simp [dSync, unhide HS, hg]))
    clear h hbs hg HS
    go_enter Tryz.func38, Tryz.ntmps38
    go_wp2_with (go_at_call 92; refine (unhide F1).mono ?_; rintro e w' ⟨rfl, rfl⟩)
    go_ret
    exact unhide E1
  | some x =>
    obtain ⟨F, f⟩ := x
    have hm := getS_some hg
    have F1 := hide (find_yes h s hs F f hg)
    have S1 := hide (sync_calls base w F f (h.file _ hm) (by have := (h.ok _ hm).b8; simp only at this; omega) hbs)
    have E1 := hide (show ∀ w' yp, FileAt base w' F (f.synced yp) → FGrew F w f w' (f.synced yp) → DEnd base d M room N w fs (dSync s.data.toList (sps fs)) (.returned (.int .i64 0)) w' from fun w' yp hf hg' => by
      obtain ⟨k1, k2⟩ := h.upd (w' := w') hm hf hg' ((h.ok _ hm).synced yp) (Nat.le_refl _)
      have hn : f.sp.now = f.b := h.nows hm
      refine ⟨by simp [dSync, unhide HS, hg], _, k1, k2, ?_⟩
      rw [sps_put]
      simp only [dSync, unhide HS, hg, Option.map_some, hn]
      rfl)
    clear h hbs hg HS hm
    go_enter Tryz.func38, Tryz.ntmps38
    go_wp2_with (first
      | (go_at_call 92; refine (unhide F1).mono ?_; rintro e w' ⟨rfl, rfl⟩)
      | (go_at_call 93; refine (unhide S1).mono ?_; rintro e W ⟨rfl, yp, hf, hg⟩; have E2 := hide (unhide E1 W yp hf hg); clear hf hg))
    go_ret
    exact unhide E2
theorem dremove_calls (h : DiskAt base w d M room N fs) (s : ByteArray) (hs : s.size ≤ maxLen) :
    Calls Tryz.prog 69 #[.pointer (some ⟨d, 0, none⟩), .string s] w (DEnd base d M room N w fs (dRemove s.data.toList (sps fs))) := by
  have HS := hide (sps_get s.data.toList fs)
  cases hg : getS s.data.toList fs with
  | none =>
    have F1 := hide (find_no h s hs hg)
    have E1 := hide (DEnd.stay (w := w) (r := dRemove s.data.toList (sps fs)) (e := .returned (.int .i64 8)) h (by simp [dRemove, unhide HS, hg]) (by simp [dRemove, unhide HS, hg]))
    clear h hg HS
    go_enter Tryz.func69, Tryz.ntmps69
    go_wp2_with (go_at_call 92; refine (unhide F1).mono ?_; rintro e w' ⟨rfl, rfl⟩)
    go_ret
    exact unhide E1
  | some x =>
    obtain ⟨F, f⟩ := x
    have F1 := hide (find_yes h s hs F f hg)
    have c1 := h.c1
    obtain ⟨W, hd, hm, hgr, hsz⟩ := h.map.drop (h.rise.map (fun x : Nat × Fil => x.1)) s hs 0
    have hd' : ∀ ty, (Builtin.delete_ #[103, 9] ty #[.map (some M), .string s]).run Tryz.prog w = .ok (.tuple #[]) W := fun ty => hd
    have E1 := hide (show DEnd base d M room N w fs (dRemove s.data.toList (sps fs)) (.returned (.int .i64 0)) W by
      have hinj : ∀ y ∈ delF s.data.toList fs, ∀ z ∈ delF s.data.toList fs, y.1 ≠ z.1 → ∀ a ∈ fs, ∀ b ∈ fs, y.2 = a.2 → z.2 = b.2 → a.1 ≠ b.1 := by
        intro y hy z hz hne a ha b hb ea eb e
        have hy' := ((mem_delF y).1 hy).1
        have hz' := ((mem_delF z).1 hz).1
        have := h.rise.one ha hb e
        subst this
        have h1 : y.2.1 = z.2.1 := by rw [ea, eb]
        exact h.ap y hy' z hz' hne y.2.1 (.inl rfl) (by rw [h1]; exact .inl rfl)
      obtain ⟨k1, k2⟩ := h.remap (fs' := delF s.data.toList fs) hgr (by rw [ptrs_del]; exact hm) (h.rise.del _) (fun y hy => ⟨h.names y ((mem_delF y).1 hy).1, y, ((mem_delF y).1 hy).1, rfl⟩) hinj (Nat.le_trans (List.length_filter_le _ _) h.few)
      refine ⟨by simp [dRemove, unhide HS, hg], _, k1, k2, ?_⟩
      simp only [dRemove, unhide HS, hg, Option.map_some]
      exact sps_del _ _)
    clear h hg HS hgr hm hd hsz
    go_enter Tryz.func69, Tryz.ntmps69
    go_wp2_with (go_at_call 92; refine (unhide F1).mono ?_; rintro e w' ⟨rfl, rfl⟩)
    go_ret
    exact unhide E1
end
end Go.Proofs.YtagncghpfdjkmaaGreatDoor
end
/- Logs: names of files and their numbers. -/
section
namespace Go.Proofs.YtagncghpfdjkmaaGreatDoor
open Go.ChangeShapes Go.WideShapes Go.ChangeAt Go.RowKit
set_option linter.unusedVariables false

theorem u8_digit (d : Nat) (h : d < 10) : (UInt8.ofNat (48 + d)).toNat = 48 + d := by
  simp
  omega
theorem parse_snoc : ∀ (l : List UInt8) (acc u d : Nat), Lib.parseUint10 acc l = .ok u → d < 10 → u * 10 + d < 1000000000000000000 → Lib.parseUint10 acc (l ++ [UInt8.ofNat (48 + d)]) = .ok (u * 10 + d)
  | [], acc, u, d, h, hd, hb => by
    simp only [Lib.parseUint10, Lib.NumEnd.ok.injEq] at h
    subst h
    rw [List.nil_append]
    simp only [Lib.parseUint10, u8_digit d hd]
    rw [if_pos (by omega), if_neg (by omega), if_neg (by omega), show 48 + d - 48 = d by omega]
  | c :: r, acc, u, d, h, hd, hb => by
    rw [List.cons_append]
    simp only [Lib.parseUint10] at h ⊢
    split at h
    · rename_i hc
      split at h
      · cases h
      · rename_i h1
        split at h
        · cases h
        · rename_i h2
          rw [if_pos hc, if_neg h1, if_neg h2]
          exact parse_snoc r _ u d h hd hb
    · cases h
theorem dec_small {u : Nat} (h : u < 10) : Lib.decDigits u = [UInt8.ofNat (48 + u)] := by rw [Lib.decDigits, dif_pos h]
theorem dec_big {u : Nat} (h : ¬ u < 10) : Lib.decDigits u = Lib.decDigits (u / 10) ++ [UInt8.ofNat (48 + u % 10)] := by rw [Lib.decDigits, dif_neg h]
theorem parse_dec (n : Nat) : n < 1000000000000000000 → Lib.parseUint10 0 (Lib.decDigits n) = .ok n := by
  induction n using Nat.strongRecOn with
  | ind n ih =>
    intro hn
    by_cases h : n < 10
    · rw [dec_small h]
      have := parse_snoc [] 0 0 n rfl h (by omega)
      rw [Nat.zero_mul, Nat.zero_add, List.nil_append] at this
      exact this
    · rw [dec_big h]
      have := parse_snoc _ 0 (n / 10) (n % 10) (ih (n / 10) (by omega) (by omega)) (by omega) (by omega)
      rw [this]
      congr 1
      omega
theorem dec_digits (n : Nat) : ∀ c ∈ Lib.decDigits n, 48 ≤ c.toNat ∧ c.toNat ≤ 57 := by
  induction n using Nat.strongRecOn with
  | ind n ih =>
    by_cases h : n < 10
    · rw [dec_small h]
      intro c hc
      rw [List.mem_singleton] at hc
      subst hc
      rw [u8_digit n h]
      omega
    · rw [dec_big h]
      intro c hc
      rcases List.mem_append.1 hc with hc | hc
      · exact ih (n / 10) (by omega) c hc
      · rw [List.mem_singleton] at hc
        subst hc
        rw [u8_digit _ (by omega)]
        omega
theorem dec_ne (n : Nat) : Lib.decDigits n ≠ [] := by
  by_cases h : n < 10
  · rw [dec_small h]; simp
  · rw [dec_big h]; simp
theorem dec_len : ∀ (k n : Nat), n < 10 ^ (k + 1) → (Lib.decDigits n).length ≤ k + 1
  | 0, n, h => by rw [dec_small (by simpa using h)]; simp
  | k + 1, n, h => by
    by_cases h10 : n < 10
    · rw [dec_small h10]; simp
    · rw [dec_big h10, List.length_append]
      have := dec_len k (n / 10) (by rw [Nat.pow_succ] at h; omega)
      simp only [List.length_cons, List.length_nil]
      omega
theorem atoi_dec (n : Nat) (hn : n < 1000000000000000000) : Lib.atoiAll (Lib.decDigits n) = .ok (n : Int) := by
  have hd := dec_digits n
  have hp := parse_dec n hn
  cases hl : Lib.decDigits n with
  | nil => exact absurd hl (dec_ne n)
  | cons c r =>
    rw [hl] at hd hp
    have hc := hd c (by simp)
    unfold Lib.atoiAll
    dsimp only
    rw [if_neg (by omega)]
    unfold Lib.parseMag
    rw [if_neg (by simp), hp]
    dsimp only
    rw [if_neg (by omega), if_neg (by omega), if_neg (by omega)]
/-- The name of a log's file. -/
def walW : Nm := [119, 97, 108, 45]
def walNm (n : Nat) : Nm := walW ++ Lib.decDigits n
/-- The number of a log's file; 0, if the name is none of one. -/
def numW (s : Nm) : Nat := if Lib.hasPrefix s walW = true then (match Lib.atoiAll (Lib.trimPrefix s walW) with
  | .ok v => if 1 ≤ v ∧ v ≤ 1099511627776 ∧ walNm v.toNat = s then v.toNat else 0
  | _ => 0) else 0
end Go.Proofs.YtagncghpfdjkmaaGreatDoor
end
/- Contracts of the library's functions at this program's numbers. -/
section
namespace Go.Proofs
open Go.Shelf
def Tryz.laysM171_ren : Go.Shelf.Ren := ⟨fun | 171 => 110 | 243 => 136 | 246 => 154 | 283 => 176 | 284 => 177 | 285 => 178 | 286 => 179 | 129 => 172 | 317 => 197 | 318 => 198 | 319 => 199 | 320 => 200 | 337 => 208 | 338 => 209 | n => n, fun | 3 => 3 | 9 => 9 | 2 => 2 | 4 => 4 | 171 => 217 | 0 => 0 | 53 => 42 | 37 => 27 | 5 => 5 | 173 => 219 | 212 => 240 | 51 => 100 | 20 => 20 | 213 => 241 | 46 => 157 | 232 => 253 | 233 => 254 | n => n, fun | 17 => 2 | 18 => 3 | 19 => 4 | n => n⟩
theorem Tryz.laysM171 : Go.Proofs.LaysM.n171 Tryz.prog Tryz.laysM171_ren := {
  mixed := by kernel_rfl
  f129 := Tryz.func172.trans (congrArg some (by kernel_rfl))
  f171 := Tryz.func110.trans (congrArg some (by kernel_rfl))
  f243 := Tryz.func136.trans (congrArg some (by kernel_rfl))
  f246 := Tryz.func154.trans (congrArg some (by kernel_rfl))
  f283 := Tryz.func176.trans (congrArg some (by kernel_rfl))
  f284 := Tryz.func177.trans (congrArg some (by kernel_rfl))
  f285 := Tryz.func178.trans (congrArg some (by kernel_rfl))
  f286 := Tryz.func179.trans (congrArg some (by kernel_rfl))
  f317 := Tryz.func197.trans (congrArg some (by kernel_rfl))
  f318 := Tryz.func198.trans (congrArg some (by kernel_rfl))
  f319 := Tryz.func199.trans (congrArg some (by kernel_rfl))
  f320 := Tryz.func200.trans (congrArg some (by kernel_rfl))
  f337 := Tryz.func208.trans (congrArg some (by kernel_rfl))
  f338 := Tryz.func209.trans (congrArg some (by kernel_rfl))
  t0 := Tryz.underlying0
  a0 := Tryz.isAgg0
  z0 := Tryz.sizeOf0
  v0 := Tryz.zeroValue0
  t2 := Tryz.underlying2
  a2 := Tryz.isAgg2
  z2 := Tryz.sizeOf2
  v2 := Tryz.zeroValue2
  t3 := Tryz.underlying3
  a3 := Tryz.isAgg3
  z3 := Tryz.sizeOf3
  v3 := Tryz.zeroValue3
  t4 := Tryz.underlying4
  a4 := Tryz.isAgg4
  z4 := Tryz.sizeOf4
  v4 := Tryz.zeroValue4
  t5 := Tryz.underlying5
  a5 := Tryz.isAgg5
  z5 := Tryz.sizeOf5
  v5 := Tryz.zeroValue5
  t9 := Tryz.underlying9
  a9 := Tryz.isAgg9
  z9 := Tryz.sizeOf9
  v9 := Tryz.zeroValue9
  t20 := Tryz.underlying20
  a20 := Tryz.isAgg20
  z20 := Tryz.sizeOf20
  v20 := Tryz.zeroValue20
  t37 := Tryz.underlying27
  a37 := Tryz.isAgg27
  z37 := Tryz.sizeOf27
  v37 := Tryz.zeroValue27
  t46 := Tryz.underlying157
  a46 := Tryz.isAgg157
  z46 := Tryz.sizeOf157
  v46 := Tryz.zeroValue157
  t51 := Tryz.underlying100
  a51 := Tryz.isAgg100
  z51 := Tryz.sizeOf100
  v51 := Tryz.zeroValue100
  t53 := Tryz.underlying42
  a53 := Tryz.isAgg42
  z53 := Tryz.sizeOf42
  v53 := Tryz.zeroValue42
  t171 := Tryz.underlying217
  a171 := Tryz.isAgg217
  z171 := Tryz.sizeOf217
  v171 := Tryz.zeroValue217
  t173 := Tryz.underlying219
  a173 := Tryz.isAgg219
  z173 := Tryz.sizeOf219
  v173 := Tryz.zeroValue219
  t212 := Tryz.underlying240
  a212 := Tryz.isAgg240
  z212 := Tryz.sizeOf240
  v212 := Tryz.zeroValue240
  t213 := Tryz.underlying241
  a213 := Tryz.isAgg241
  z213 := Tryz.sizeOf241
  t232 := Tryz.underlying253
  a232 := Tryz.isAgg253
  z232 := Tryz.sizeOf253
  v232 := Tryz.zeroValue253
  t233 := Tryz.underlying254
  a233 := Tryz.isAgg254
  z233 := Tryz.sizeOf254
  v233 := Tryz.zeroValue254
  g17 := by kernel_rfl
  g18 := by kernel_rfl
  g19 := by kernel_rfl
  i0 := by kernel_rfl
  i2 := by kernel_rfl
  i3 := by kernel_rfl
  i4 := by kernel_rfl
  i5 := by kernel_rfl
  i9 := by kernel_rfl
  i20 := by kernel_rfl
  i37 := by kernel_rfl
  i46 := by kernel_rfl
  i51 := by kernel_rfl
  i53 := by kernel_rfl
  i171 := by kernel_rfl
  i173 := by kernel_rfl
  i212 := by kernel_rfl
  i232 := by kernel_rfl
  i233 := by kernel_rfl
  m17 := by kernel_rfl
  m18 := by kernel_rfl
  m19 := by kernel_rfl }
open Go.RowKit Go.Sort Go.Lib in
theorem Tryz.strconv_Itoa (n : Int) (h0 : -9223372036854775808 ≤ n) (h1 : n ≤ 9223372036854775807) (w : World) (htab : Lib.TabIs Tryz.prog w "internal/strconv.uint64pow10" .u64 Lib.pow10Tab) :
    Calls Tryz.prog 110 #[.int .i64 n] w fun e w' => e = .returned (.string ⟨(Lib.itoa n).toArray⟩) ∧ ∃ k os, w' = grow (w.drewN k) os := Any.strconv_Itoa Tryz.laysM171 n h0 h1 w htab
def Tryz.laysC172_ren : Go.Shelf.Ren := ⟨fun | 172 => 119 | 244 => 140 | 245 => 141 | 247 => 157 | 279 => 158 | 280 => 159 | 281 => 160 | 282 => 161 | 287 => 189 | 316 => 190 | 171 => 110 | 205 => 191 | 321 => 205 | 322 => 206 | 243 => 136 | 246 => 154 | 283 => 176 | 284 => 177 | 285 => 178 | 286 => 179 | 129 => 172 | 317 => 197 | 318 => 198 | 319 => 199 | 320 => 200 | 337 => 208 | 338 => 209 | n => n, fun | 9 => 9 | 3 => 3 | 75 => 169 | 76 => 170 | 4 => 4 | 5 => 5 | 167 => 196 | 37 => 27 | 0 => 0 | 85 => 197 | 2 => 2 | 168 => 199 | 53 => 42 | 175 => 226 | 46 => 157 | 210 => 230 | 127 => 245 | 145 => 248 | 143 => 246 | 21 => 21 | 171 => 217 | 173 => 219 | 212 => 240 | 51 => 100 | 20 => 20 | 213 => 241 | 232 => 253 | 233 => 254 | 80 => 255 | n => n, fun | 15 => 0 | 16 => 1 | 17 => 2 | 18 => 3 | 19 => 4 | n => n⟩
theorem Tryz.laysC172 : Go.Proofs.LaysC.n172 Tryz.prog Tryz.laysC172_ren := {
  mixed := by kernel_rfl
  f129 := Tryz.func172.trans (congrArg some (by kernel_rfl))
  f171 := Tryz.func110.trans (congrArg some (by kernel_rfl))
  f172 := Tryz.func119.trans (congrArg some (by kernel_rfl))
  f205 := Tryz.func191.trans (congrArg some (by kernel_rfl))
  f243 := Tryz.func136.trans (congrArg some (by kernel_rfl))
  f244 := Tryz.func140.trans (congrArg some (by kernel_rfl))
  f245 := Tryz.func141.trans (congrArg some (by kernel_rfl))
  f246 := Tryz.func154.trans (congrArg some (by kernel_rfl))
  f247 := Tryz.func157.trans (congrArg some (by kernel_rfl))
  f279 := Tryz.func158.trans (congrArg some (by kernel_rfl))
  f280 := Tryz.func159.trans (congrArg some (by kernel_rfl))
  f281 := Tryz.func160.trans (congrArg some (by kernel_rfl))
  f282 := Tryz.func161.trans (congrArg some (by kernel_rfl))
  f283 := Tryz.func176.trans (congrArg some (by kernel_rfl))
  f284 := Tryz.func177.trans (congrArg some (by kernel_rfl))
  f285 := Tryz.func178.trans (congrArg some (by kernel_rfl))
  f286 := Tryz.func179.trans (congrArg some (by kernel_rfl))
  f287 := Tryz.func189.trans (congrArg some (by kernel_rfl))
  f316 := Tryz.func190.trans (congrArg some (by kernel_rfl))
  f317 := Tryz.func197.trans (congrArg some (by kernel_rfl))
  f318 := Tryz.func198.trans (congrArg some (by kernel_rfl))
  f319 := Tryz.func199.trans (congrArg some (by kernel_rfl))
  f320 := Tryz.func200.trans (congrArg some (by kernel_rfl))
  f321 := Tryz.func205.trans (congrArg some (by kernel_rfl))
  f322 := Tryz.func206.trans (congrArg some (by kernel_rfl))
  f337 := Tryz.func208.trans (congrArg some (by kernel_rfl))
  f338 := Tryz.func209.trans (congrArg some (by kernel_rfl))
  t0 := Tryz.underlying0
  a0 := Tryz.isAgg0
  z0 := Tryz.sizeOf0
  v0 := Tryz.zeroValue0
  t2 := Tryz.underlying2
  a2 := Tryz.isAgg2
  z2 := Tryz.sizeOf2
  v2 := Tryz.zeroValue2
  t3 := Tryz.underlying3
  a3 := Tryz.isAgg3
  z3 := Tryz.sizeOf3
  v3 := Tryz.zeroValue3
  t4 := Tryz.underlying4
  a4 := Tryz.isAgg4
  z4 := Tryz.sizeOf4
  v4 := Tryz.zeroValue4
  t5 := Tryz.underlying5
  a5 := Tryz.isAgg5
  z5 := Tryz.sizeOf5
  v5 := Tryz.zeroValue5
  t9 := Tryz.underlying9
  a9 := Tryz.isAgg9
  z9 := Tryz.sizeOf9
  v9 := Tryz.zeroValue9
  t20 := Tryz.underlying20
  a20 := Tryz.isAgg20
  z20 := Tryz.sizeOf20
  v20 := Tryz.zeroValue20
  t21 := Tryz.underlying21
  a21 := Tryz.isAgg21
  z21 := Tryz.sizeOf21
  v21 := Tryz.zeroValue21
  t37 := Tryz.underlying27
  a37 := Tryz.isAgg27
  z37 := Tryz.sizeOf27
  v37 := Tryz.zeroValue27
  t46 := Tryz.underlying157
  a46 := Tryz.isAgg157
  z46 := Tryz.sizeOf157
  v46 := Tryz.zeroValue157
  t51 := Tryz.underlying100
  a51 := Tryz.isAgg100
  z51 := Tryz.sizeOf100
  v51 := Tryz.zeroValue100
  t53 := Tryz.underlying42
  a53 := Tryz.isAgg42
  z53 := Tryz.sizeOf42
  v53 := Tryz.zeroValue42
  t75 := Tryz.underlying169
  a75 := Tryz.isAgg169
  z75 := Tryz.sizeOf169
  v75 := Tryz.zeroValue169
  t76 := Tryz.underlying170
  a76 := Tryz.isAgg170
  z76 := Tryz.sizeOf170
  v76 := Tryz.zeroValue170
  t85 := Tryz.underlying197
  a85 := Tryz.isAgg197
  z85 := Tryz.sizeOf197
  v85 := Tryz.zeroValue197
  t127 := Tryz.underlying245
  a127 := Tryz.isAgg245
  z127 := Tryz.sizeOf245
  v127 := Tryz.zeroValue245
  t143 := Tryz.underlying246
  a143 := Tryz.isAgg246
  z143 := Tryz.sizeOf246
  v143 := Tryz.zeroValue246
  t145 := Tryz.underlying248
  a145 := Tryz.isAgg248
  z145 := Tryz.sizeOf248
  v145 := Tryz.zeroValue248
  t167 := Tryz.underlying196
  a167 := Tryz.isAgg196
  z167 := Tryz.sizeOf196
  v167 := Tryz.zeroValue196
  t168 := Tryz.underlying199
  a168 := Tryz.isAgg199
  z168 := Tryz.sizeOf199
  v168 := Tryz.zeroValue199
  t171 := Tryz.underlying217
  a171 := Tryz.isAgg217
  z171 := Tryz.sizeOf217
  v171 := Tryz.zeroValue217
  t173 := Tryz.underlying219
  a173 := Tryz.isAgg219
  z173 := Tryz.sizeOf219
  v173 := Tryz.zeroValue219
  t175 := Tryz.underlying226
  a175 := Tryz.isAgg226
  z175 := Tryz.sizeOf226
  v175 := Tryz.zeroValue226
  t210 := Tryz.underlying230
  a210 := Tryz.isAgg230
  z210 := Tryz.sizeOf230
  v210 := Tryz.zeroValue230
  t212 := Tryz.underlying240
  a212 := Tryz.isAgg240
  z212 := Tryz.sizeOf240
  v212 := Tryz.zeroValue240
  t213 := Tryz.underlying241
  a213 := Tryz.isAgg241
  z213 := Tryz.sizeOf241
  t232 := Tryz.underlying253
  a232 := Tryz.isAgg253
  z232 := Tryz.sizeOf253
  v232 := Tryz.zeroValue253
  t233 := Tryz.underlying254
  a233 := Tryz.isAgg254
  z233 := Tryz.sizeOf254
  v233 := Tryz.zeroValue254
  g15 := by kernel_rfl
  g16 := by kernel_rfl
  g17 := by kernel_rfl
  g18 := by kernel_rfl
  g19 := by kernel_rfl
  t80 := Tryz.underlying255
  a80 := Tryz.isAgg255
  z80 := Tryz.sizeOf255
  v80 := Tryz.zeroValue255
  i0 := by kernel_rfl
  i2 := by kernel_rfl
  i3 := by kernel_rfl
  i4 := by kernel_rfl
  i5 := by kernel_rfl
  i9 := by kernel_rfl
  i20 := by kernel_rfl
  i21 := by kernel_rfl
  i37 := by kernel_rfl
  i46 := by kernel_rfl
  i51 := by kernel_rfl
  i53 := by kernel_rfl
  i75 := by kernel_rfl
  i76 := by kernel_rfl
  i80 := by kernel_rfl
  i85 := by kernel_rfl
  i127 := by kernel_rfl
  i143 := by kernel_rfl
  i145 := by kernel_rfl
  i167 := by kernel_rfl
  i168 := by kernel_rfl
  i171 := by kernel_rfl
  i173 := by kernel_rfl
  i175 := by kernel_rfl
  i210 := by kernel_rfl
  i212 := by kernel_rfl
  i232 := by kernel_rfl
  i233 := by kernel_rfl
  m15 := by kernel_rfl
  m16 := by kernel_rfl
  m17 := by kernel_rfl
  m18 := by kernel_rfl
  m19 := by kernel_rfl
  c0 := by kernel_rfl
  c2 := by kernel_rfl
  c3 := by kernel_rfl
  c4 := by kernel_rfl
  c5 := by kernel_rfl
  c9 := by kernel_rfl
  c20 := by kernel_rfl
  c21 := by kernel_rfl
  c37 := by kernel_rfl
  c46 := by kernel_rfl
  c51 := by kernel_rfl
  c53 := by kernel_rfl
  c75 := by kernel_rfl
  c76 := by kernel_rfl
  c80 := by kernel_rfl
  c85 := by kernel_rfl
  c127 := by kernel_rfl
  c143 := by kernel_rfl
  c145 := by kernel_rfl
  c167 := by kernel_rfl
  c168 := by kernel_rfl
  c171 := by kernel_rfl
  c173 := by kernel_rfl
  c175 := by kernel_rfl
  c210 := by kernel_rfl
  c212 := by kernel_rfl
  c213 := by kernel_rfl
  c232 := by kernel_rfl
  c233 := by kernel_rfl }
open Go.RowKit in
theorem Tryz.strconv_Atoi_ok (s : ByteArray) (hmax : s.size ≤ 9223372036854775806) (v : Int) (h : Lib.atoiAll s.data.toList = .ok v) (w : World) :
    Calls Tryz.prog 119 #[.string s] w fun e w' => e = .returned (.tuple #[.int .i64 v, .nilIface]) ∧ (w' = w ∨ ∃ t, w' = Lib.bytesWorld w 5 t) := Any.strconv_Atoi_ok Tryz.laysC172 s hmax v h w
open Go.RowKit in
theorem Tryz.strconv_Atoi_syntax (s : ByteArray) (hlim : s.size ≤ 281474976710656) (h : Lib.atoiAll s.data.toList = .«syntax») (ev : Value) (w : World) (hv : w.cell? ⟨0, 0, none⟩ = some ev) (hev : ev = .nilIface ∨ ∃ te pe, ev = .iface te pe) :
    Calls Tryz.prog 119 #[.string s] w fun e w' => ∃ N, e = .returned (.tuple #[.int .i64 (0), .iface 199 (.pointer (some ⟨N, 0, none⟩))]) ∧ w.heap.size ≤ N ∧ w'.heap[N]? = some (.cells #[.string ⟨#[65, 116, 111, 105]⟩, .string s, ev] 230 (0, 0)) ∧ Below w.heap.size w w' := Any.strconv_Atoi_syntax Tryz.laysC172 s hlim h ev w hv hev
open Go.RowKit in
theorem Tryz.strconv_Atoi_range (s : ByteArray) (hlim : s.size ≤ 281474976710656) (h : Lib.atoiAll s.data.toList = .range) (ev : Value) (w : World) (hv : w.cell? ⟨1, 0, none⟩ = some ev) (hev : ev = .nilIface ∨ ∃ te pe, ev = .iface te pe) :
    Calls Tryz.prog 119 #[.string s] w fun e w' => ∃ N, e = .returned (.tuple #[.int .i64 (Lib.atoiSat s.data.toList), .iface 199 (.pointer (some ⟨N, 0, none⟩))]) ∧ w.heap.size ≤ N ∧ w'.heap[N]? = some (.cells #[.string ⟨#[65, 116, 111, 105]⟩, .string s, ev] 230 (0, 0)) ∧ Below w.heap.size w w' := Any.strconv_Atoi_range Tryz.laysC172 s hlim h ev w hv hev
def Tryz.lays101_ren : Go.Shelf.Ren := ⟨fun | 101 => 120 | 208 => 142 | 206 => 162 | n => n, fun | 9 => 9 | 4 => 4 | 3 => 3 | n => n, fun | n => n⟩
theorem Tryz.lays101 : Go.Proofs.Lays.n101 Tryz.prog Tryz.lays101_ren := {
  mixed := by kernel_rfl
  f101 := Tryz.func120.trans (congrArg some (by kernel_rfl))
  f206 := Tryz.func162.trans (congrArg some (by kernel_rfl))
  f208 := Tryz.func142.trans (congrArg some (by kernel_rfl))
  t3 := Tryz.underlying3
  a3 := Tryz.isAgg3
  z3 := Tryz.sizeOf3
  v3 := Tryz.zeroValue3
  t4 := Tryz.underlying4
  a4 := Tryz.isAgg4
  z4 := Tryz.sizeOf4
  v4 := Tryz.zeroValue4
  t9 := Tryz.underlying9
  a9 := Tryz.isAgg9
  z9 := Tryz.sizeOf9
  v9 := Tryz.zeroValue9 }
open Go.RowKit Go.Lib in
theorem Tryz.strings_TrimPrefix (s p : ByteArray) (w : World) :
    Calls Tryz.prog 120 #[.string s, .string p] w fun e w' => e = .returned (.string ⟨(Lib.trimPrefix s.data.toList p.data.toList).toArray⟩) ∧ w' = w := Any.strings_TrimPrefix Tryz.lays101 s p w
end Go.Proofs
end
/- Disk: Cut, Rename, Read, Sure, New. -/
section
namespace Go.Proofs.YtagncghpfdjkmaaGreatDoor
open Go.ChangeShapes Go.WideShapes Go.ChangeAt Go.RowKit Go.Maps

section
variable {base d M room N : Nat} {w w' : World} {fs fs' : List Fe}
theorem dread_yes (h : DiskAt base w d M room N fs) (s : ByteArray) (hs : s.size ≤ maxLen) (F : Nat) (f : Fil) (hg : getS s.data.toList fs = some (F, f)) :
    Calls Tryz.prog 88 #[.pointer (some ⟨d, 0, none⟩), .string s] w fun e w' => ∃ sp n, e = .returned (.tuple #[.slice sp n n, .int .i64 0]) ∧ f.sp.now.length = n ∧ n ≤ 262144 ∧ Bx w.heap.size w' sp n f.sp.now ∧ Below w.heap.size w w' := by
  have hm := getS_some hg
  have F1 := hide (find_yes h s hs F f hg)
  rw [show f.sp.now = f.b from h.nows hm]
  have c0 := (h.file _ hm).c0
  simp only at c0
  have h8 : f.b.length ≤ 262144 := (h.ok _ hm).b8
  have S1 := hide (fresh_calls f.bp f.b.length f.bc f.b w rfl (by omega) (h.file _ hm).bytes.bytes (h.file _ hm).bytes.nil0)
  have HN := hide (rfl : f.b.length = f.b.length)
  clear h hg hm
  generalize hn : f.b.length = n at c0 h8 S1 HN
  have HN2 := hide hn
  clear hn HN
  go_enter Tryz.func88, Tryz.ntmps88
  go_wp2_with (first
    | (go_at_call 92; refine (unhide F1).mono ?_; rintro e w' ⟨rfl, rfl⟩)
    | (go_at_call 116; refine (unhide S1).mono ?_; rintro e W ⟨sp, rfl, hx, hb⟩; have X1 := hide hx; have B1 := hide hb; clear hx hb))
  go_ret2
  exact ⟨sp, n, rfl, by first | exact unhide HN2 | rfl, h8, unhide X1, unhide B1⟩
theorem dread_no (h : DiskAt base w d M room N fs) (s : ByteArray) (hs : s.size ≤ maxLen) (hg : getS s.data.toList fs = none) :
    Calls Tryz.prog 88 #[.pointer (some ⟨d, 0, none⟩), .string s] w fun e w' => e = .returned (.tuple #[.slice none 0 0, .int .i64 8]) ∧ w' = w := by
  have F1 := hide (find_no h s hs hg)
  clear h hg
  go_enter Tryz.func88, Tryz.ntmps88
  go_wp2_with (go_at_call 92; refine (unhide F1).mono ?_; rintro e w' ⟨rfl, rfl⟩)
  go_ret2
  exact ⟨rfl, rfl⟩
theorem DiskAt.new (w : World) (hb : base ≤ w.heap.size) (room : Nat) : DiskAt base ((w.alloc (.map #[] 0)).alloc (.cells #[.int .i64 (room : Int), .map (some w.heap.size)] 105)) (w.heap.size + 1) w.heap.size room 0 [] := by
  have hs : (w.alloc (.map #[] 0)).heap.size = w.heap.size + 1 := by simp
  have b1 : Below (w.alloc (.map #[] 0)).heap.size (w.alloc (.map #[] 0)) ((w.alloc (.map #[] 0)).alloc (.cells #[.int .i64 (room : Int), .map (some w.heap.size)] 105)) := (Below.refl _ _).alloc (Nat.le_refl _) _
  refine ⟨?_, (MapAt.made w).later b1, List.Pairwise.nil, by simp, by simp, by omega, hb, by simp, by simp, by simp, by simp⟩
  rw [← hs]
  exact heap_new _ _
theorem dnew_calls (w : World) (hb : base ≤ w.heap.size) (z : Int) : Calls Tryz.prog 22 #[.int .i64 z] w fun e w' => e = .returned (.pointer (some ⟨w.heap.size + 1, 0, none⟩)) ∧ DiskAt base w' (w.heap.size + 1) w.heap.size z.toNat 0 [] ∧ Below w.heap.size w w' := by
  have HD := hide (DiskAt.new (base := base) w hb z.toNat)
  have HB := hide (show Below w.heap.size w ((w.alloc (.map #[] 0)).alloc (.cells #[.int .i64 (z.toNat : Int), .map (some w.heap.size)] 105)) from ((Below.refl _ _).alloc (Nat.le_refl _) _).alloc (by simp) _)
  have hmk := @run_makeMap Tryz.prog
  have hmx : max z 0 = (z.toNat : Int) := by omega
  generalize z.toNat = r at *
  clear hb
  go_enter Tryz.func22, Tryz.ntmps22
  go_wp2
  go_ret
  exact ⟨rfl, unhide HD, unhide HB⟩
end
end Go.Proofs.YtagncghpfdjkmaaGreatDoor
end
/- Disk: Used, Rename. -/
section
namespace Go.Proofs.YtagncghpfdjkmaaGreatDoor
open Go.ChangeShapes Go.WideShapes Go.ChangeAt Go.RowKit Go.Maps

theorem enter_used (c : Array Value) (w : World) : (callFunc 91 c).run Tryz.prog w = .ok (.enter 91 c) w := by
  simp [callFunc, go_sem, Tryz.func91]
  rw [if_neg (by decide +kernel), if_neg (fun h => by cases h)]
set_option maxHeartbeats 4000000 in
theorem used1_calls (s : ByteArray) (F U : Nat) (bp : Option Addr) (n c u : Nat) (w : World) (hU : w.heap[U]? = some (.cells #[.int .i64 (u : Int)] 3 (0, 0))) (hF : w.cell? ⟨F, 0, none⟩ = some (.slice bp n c)) (hn : u + n ≤ 4611686018427387904) :
    Calls Tryz.prog 91 #[.string s, .pointer (some ⟨F, 0, none⟩), .pointer (some ⟨U, 0, none⟩)] w fun e w' => e = .returned (.tuple #[]) ∧ w'.heap[U]? = some (.cells #[.int .i64 ((u + n : Nat) : Int)] 3 (0, 0)) ∧ w.grownBy w' (some U) ∧ w'.heap.size = w.heap.size := by
  have c0 := fcell hU 0 (.int .i64 (u : Int)) rfl
  have z0 := ffree hU 0
  have hw : IntKind.i64.wrap ((u : Int) + (n : Int)) = (u : Int) + (n : Int) := by rw [IntKind.wrap_i64]; omega
  have HU := hide hU
  clear hU
  go_enter Tryz.func91, Tryz.ntmps91
  go_region
  all_goals
    go_wp2
    go_end0
    have hg := grown_set w U 0 (.int .i64 ((u : Int) + (n : Int)))
    exact ⟨rfl, by rw [show ((u + n : Nat) : Int) = (u : Int) + (n : Int) by omega]; exact heap_setCell_same w U 0 #[.int .i64 (u : Int)] 3 (.int .i64 ((u : Int) + (n : Int))) (unhide HU), ⟨hg.os, hg.tape, hg.output, hg.size, hg.block⟩, by simp [World.setCell]⟩
def usedF (fs : List Fe) : Nat := (fs.map (fun x => x.2.2.b.length)).sum
theorem usedF_le : ∀ (fs : List Fe), (∀ x ∈ fs, x.2.2.b.length ≤ 262144) → usedF fs ≤ fs.length * 262144
  | [], _ => by simp [usedF]
  | x :: r, h => by
    have h1 := usedF_le r (fun y hy => h y (List.mem_cons_of_mem _ hy))
    have h2 := h x List.mem_cons_self
    simp only [usedF, List.map_cons, List.sum_cons, List.length_cons] at h1 ⊢
    omega
theorem usedF_take (fs : List Fe) (i : Nat) (hi : i < fs.length) : usedF (fs.take (i + 1)) = usedF (fs.take i) + fs[i].2.2.b.length := by
  rw [List.take_succ_eq_append_getElem hi]
  simp only [usedF, List.map_append, List.map_cons, List.map_nil, List.sum_append_nat, List.sum_cons, List.sum_nil, Nat.add_zero]
theorem usedF_take_le (fs : List Fe) (i : Nat) : usedF (fs.take i) ≤ usedF fs := by
  have : usedF fs = usedF (fs.take i) + usedF (fs.drop i) := by
    unfold usedF
    rw [← List.sum_append_nat, ← List.map_append, List.take_append_drop]
  omega
section
variable {base d M room N : Nat} {w w' : World} {fs fs' : List Fe}
theorem DiskAt.usedS (h : DiskAt base w d M room N fs) : usedS (sps fs) = usedF fs := by
  unfold Go.Proofs.YtagncghpfdjkmaaGreatDoor.usedS usedF sps
  rw [List.map_map]
  congr 1
  exact List.map_congr_left (fun x hx => by show x.2.2.sp.now.length = _; rw [h.nows hx])
theorem DiskAt.used_le (h : DiskAt base w d M room N fs) : usedF fs ≤ 4194304 := by
  have h1 := usedF_le fs (fun x hx => (h.ok x hx).b8)
  have := h.few
  omega
/-- A world in which nothing of the disk has changed. -/
theorem DiskAt.still (h : DiskAt base w d M room N fs) (hs : ∀ g, g < w.heap.size → w'.heap[g]? = w.heap[g]?) : DiskAt base w' d M room N fs := h.same (fun g hg _ => hs g hg)
theorem DiskAt.lookAt (h : DiskAt base w d M room N fs) (i : Nat) (hi : i < fs.length) : (Instr.lookup 103 (.map (some M)) (.string (str fs[i].1)) false).run Tryz.prog w = .ok (.pointer (some ⟨fs[i].2.1, 0, none⟩)) w :=
  (h.map.look_yes (str fs[i].1) (by rw [str_size]; have := h.names _ (List.getElem_mem hi); simp only [maxLen]; omega) fs[i].2.1 (List.mem_map.2 ⟨fs[i], List.getElem_mem hi, rfl⟩)).2
theorem dused_calls (h : DiskAt base w d M room N fs) : Calls Tryz.prog 35 #[.pointer (some ⟨d, 0, none⟩)] w fun e w' => e = .returned (.int .i64 (usedS (sps fs) : Int)) ∧ Below w.heap.size w w' := by
  have b0 : Below w.heap.size w (w.alloc (.cells #[.int .i64 0] 3)) := (Below.refl _ _).alloc (Nat.le_refl _) _
  have hW : (w.alloc (.cells #[.int .i64 0] 3)).heap.size = w.heap.size + 1 := by simp
  have hU0 := heap_new w (.cells #[.int .i64 0] 3)
  have EC := hide (each_calls base d M room N (w.alloc (.cells #[.int .i64 0] 3)) fs (h.later b0) 91 #[.pointer (some ⟨w.heap.size, 0, none⟩)] enter_used
    (fun w' => w'.heap[w.heap.size]? = some (.cells #[.int .i64 (usedS (sps fs) : Int)] 3 (0, 0)) ∧ Below w.heap.size w w') (fun W0 hb => by
      have hbW : Below w.heap.size w W0 := b0.trans (hb.mono b0.size)
      refine ⟨fun i w1 => w1.heap[w.heap.size]? = some (.cells #[.int .i64 (usedF (fs.take i) : Int)] 3 (0, 0)) ∧ W0.grownBy w1 (some w.heap.size), ⟨?_, ?_⟩, ?_, ?_, ?_⟩
      · rw [hb.block w.heap.size (by omega)]
        exact hU0
      · exact grown_refl _ _
      · rintro i w1 ⟨_, hg⟩ g hg1 hg2
        exact hg.block g hg2 (fun e => by have := Option.some.inj e; omega)
      · rintro i hi w1 ⟨hU, hg⟩
        have hs : ∀ g, g < w.heap.size → w1.heap[g]? = w.heap[g]? := fun g hlt => (hg.block g (Nat.lt_of_lt_of_le hlt hbW.size) (fun e => by have := Option.some.inj e; omega)).trans (hbW.block g hlt)
        have h1 := h.still hs
        refine ⟨h1.c1, h1.lookAt i hi, ?_⟩
        have hx := h1.file _ (List.getElem_mem hi)
        have hle := usedF_take_le fs (i + 1)
        have hu := h.used_le
        rw [usedF_take fs i hi] at hle
        refine (used1_calls (str fs[i].1) fs[i].2.1 w.heap.size _ _ _ _ w1 hU hx.c0 (by omega)).mono ?_
        rintro e w2 ⟨rfl, hU2, hg2, _⟩
        refine ⟨rfl, ?_, hg.trans hg2⟩
        rw [usedF_take fs i hi]
        exact hU2
      · rintro w1 ⟨hU, hg⟩
        rw [List.take_length] at hU
        refine ⟨by rw [h.usedS]; exact hU, ?_⟩
        exact hbW.grown hg hbW.size (fun g e => by have := Option.some.inj e; omega)))
  clear h b0 hW hU0
  go_enter Tryz.func35, Tryz.ntmps35
  go_wp2_with (go_at_call 77; refine (unhide EC).mono ?_; rintro e W ⟨rfl, hU, hB⟩; have c0 := fcell hU 0 _ rfl; have HB := hide hB; clear hU hB)
  go_ret
  exact ⟨rfl, unhide HB⟩
end
end Go.Proofs.YtagncghpfdjkmaaGreatDoor
end
