/- Heads, in plain words: kinds of bytes, texts that are cut at others, hosts, fields, and what a head's bytes say. -/
import Derived.Lib.IndexMore
import Derived.Lib.SlTrimSet
import Derived.Lib.Case
namespace Go.Proofs.YtcmiappiocfbiaaGreatDoor

abbrev Tx := List UInt8
/-- What a letter may stand in: 1 port, 2 escape, 4 part of a host, 8 token, 16 path, 32 query, 64 value. -/
def kindsN (c : Nat) : Nat :=
  if c = 35 ∨ c = 37 ∨ c = 94 ∨ c = 96 ∨ c = 124 then 72
  else if 48 ≤ c ∧ c ≤ 57 then 127
  else if (97 ≤ c ∧ c ≤ 102) ∨ (65 ≤ c ∧ c ≤ 70) then 126
  else if (97 ≤ c ∧ c ≤ 122) ∨ (65 ≤ c ∧ c ≤ 90) ∨ c = 45 then 124
  else if c = 33 ∨ c = 36 ∨ c = 38 ∨ c = 39 ∨ c = 42 ∨ c = 43 ∨ c = 46 ∨ c = 95 ∨ c = 126 then 120
  else if c = 47 ∨ c = 40 ∨ c = 41 ∨ c = 44 ∨ c = 59 ∨ c = 61 ∨ c = 58 ∨ c = 64 then 112
  else if c = 63 then 96
  else if c = 9 ∨ (32 ≤ c ∧ c ≤ 126) ∨ 127 < c then 64
  else 0
theorem kindsN_lt (c : Nat) : kindsN c < 128 := by
  unfold kindsN
  repeat' split
  all_goals omega
theorem kindsN_high (c : Nat) (h : 127 < c) : kindsN c = 64 := by
  unfold kindsN
  rw [if_neg (by omega), if_neg (by omega), if_neg (by omega), if_neg (by omega), if_neg (by omega), if_neg (by omega), if_neg (by omega), if_pos (by omega)]
def isK (k : Nat) (b : UInt8) : Bool := (kindsN b.toNat &&& k) != 0
def allK (k : Nat) (l : Tx) : Bool := l.all (isK k)
def isTokenL (l : Tx) : Bool := !l.isEmpty && allK 8 l
def escL : Tx → Bool
  | a :: b :: _ => isK 2 a && isK 2 b
  | _ => false
def okAt (k : Nat) (c : UInt8) (t : Tx) : Bool := if c = 37 then escL t else isK k c
def allEsc (k : Nat) : Tx → Bool
  | [] => true
  | c :: t => okAt k c t && allEsc k t
def isPathL (l : Tx) : Bool := [47].isPrefixOf l && allEsc 16 l
def isQueryL (l : Tx) : Bool := allEsc 32 l
def trimB (l : Tx) : Tx := Lib.trimS l [9, 32]
def isValueL (l : Tx) : Bool := allK 64 l && (l == trimB l)
def hostGo : Bool → Tx → Bool
  | begun, [] => begun
  | begun, c :: t => if c = 46 then begun && hostGo false t else isK 4 c && hostGo true t
def isHostL (l : Tx) : Bool := decide (l.length ≤ 64) && hostGo false l
def lowL (l : Tx) : Tx := Lib.toLowerA l

/-- A text ahead of the first place where another one stands, and what stands behind that. -/
def cutL (sep : Tx) : Tx → Tx × Option Tx
  | [] => ([], none)
  | c :: t => if sep.isPrefixOf (c :: t) then ([], some ((c :: t).drop sep.length)) else (c :: (cutL sep t).1, (cutL sep t).2)
def behindL (sep l : Tx) : Tx := (cutL sep l).2.getD []
theorem cutL_none {sep l : Tx} (h : (cutL sep l).2 = none) : (cutL sep l).1 = l := by
  induction l with
  | nil => rfl
  | cons c t ih =>
    unfold cutL at h ⊢
    split at h
    · cases h
    · rename_i hp; rw [if_neg hp]; simp only at h ⊢; rw [ih h]
theorem cutL_some {sep l b : Tx} (h : (cutL sep l).2 = some b) : l = (cutL sep l).1 ++ (sep ++ b) := by
  induction l with
  | nil => cases h
  | cons c t ih =>
    unfold cutL at h ⊢
    split at h
    · rename_i hp
      rw [if_pos hp]
      simp only [Option.some.injEq] at h
      subst h
      obtain ⟨r, hr⟩ := List.isPrefixOf_iff_prefix.1 hp
      simp only [List.nil_append]
      rw [← hr, List.drop_left]
    · rename_i hp
      rw [if_neg hp]
      simp only at h ⊢
      rw [List.cons_append, ← ih h]
theorem index_cutL {sep l : Tx} (hs : sep ≠ []) : Lib.index l sep = match (cutL sep l).2 with | none => -1 | some _ => ((cutL sep l).1.length : Int) := by
  induction l with
  | nil => cases sep with
    | nil => exact absurd rfl hs
    | cons a b => rfl
  | cons c t ih =>
    unfold Lib.index cutL
    by_cases hp : sep.isPrefixOf (c :: t) = true
    · rw [if_pos hp, if_pos hp]; rfl
    · rw [if_neg hp, if_neg hp, ih]
      cases h : (cutL sep t).2 with
      | none => simp
      | some b => simp only [List.length_cons]; rw [if_neg (by simp)]; omega
theorem index_cut0 {sep l : Tx} (hs : sep ≠ []) (h : (cutL sep l).2 = none) : Lib.index l sep = -1 := by rw [index_cutL hs, h]
theorem index_cut1 {sep l b : Tx} (hs : sep ≠ []) (h : (cutL sep l).2 = some b) : Lib.index l sep = ((cutL sep l).1.length : Int) := by rw [index_cutL hs, h]
theorem cut_is {sep l : Tx} (hs : sep ≠ []) : Lib.cut l sep = ((cutL sep l).1, behindL sep l, (cutL sep l).2.isSome) := by
  unfold Lib.cut behindL
  cases h : (cutL sep l).2 with
  | none => rw [index_cut0 hs h, if_neg (by decide), cutL_none h]; rfl
  | some b =>
    rw [index_cut1 hs h, if_pos (by omega)]
    have hb := cutL_some h
    have e : ((cutL sep l).1.length : Int).toNat = (cutL sep l).1.length := by omega
    rw [e]
    clear e h hs
    generalize (cutL sep l).1 = a at *
    subst hb
    refine Prod.ext ?_ (Prod.ext ?_ rfl)
    · show List.take _ _ = a
      rw [List.take_left]
    · show List.drop _ _ = b
      rw [← List.append_assoc, ← List.length_append, List.drop_left]
theorem cutL_len {sep l : Tx} : (cutL sep l).1.length ≤ l.length := by
  induction l with
  | nil => exact Nat.le_refl _
  | cons c t ih => unfold cutL; split <;> simp; omega
theorem behindL_len {sep l : Tx} : (behindL sep l).length ≤ l.length := by
  unfold behindL
  cases h : (cutL sep l).2 with
  | none => simp
  | some b => have := congrArg List.length (cutL_some h); simp at this; simp; omega
theorem behindL_lt {sep l : Tx} (hs : sep ≠ []) (hl : l ≠ []) : (behindL sep l).length < l.length := by
  unfold behindL
  cases h : (cutL sep l).2 with
  | none => simp; exact List.length_pos_iff.2 hl
  | some b =>
    have := congrArg List.length (cutL_some h)
    have : 0 < sep.length := List.length_pos_iff.2 hs
    simp at *; omega

/-- A host's text. -/
def hostL (s : Tx) : Option Tx :=
  if 5 < (behindL [58] s).length || !allK 1 (behindL [58] s) || !isHostL (cutL [58] s).1 then none else some (lowL (cutL [58] s).1)
structure Fd where
  name : Tx
  value : Tx
deriving DecidableEq
structure Hd where
  method : Tx
  path : Tx
  query : Tx
  host : Tx
  fields : List Fd
deriving DecidableEq
def httpL : Tx := [104, 116, 116, 112, 58, 47, 47]
/-- A target's path, query and host (none: an empty one). -/
def targetL (t : Tx) : Option (Tx × Tx × Tx) :=
  if !isQueryL (behindL [63] t) then none
  else if httpL.isPrefixOf (cutL [63] t).1 then
    let far := (cutL [63] t).1.drop 7
    let text := (cutL [47] far).1
    let path := match (cutL [47] far).2 with | none => [47] | some b => 47 :: b
    match hostL text with
    | none => none
    | some h => if isPathL path then some (path, behindL [63] t, h) else none
  else if isPathL (cutL [63] t).1 then some ((cutL [63] t).1, behindL [63] t, []) else none
def versionL : Tx := [72, 84, 84, 80, 47, 49, 46, 49]
def requestL (line : Tx) : Option (Tx × Tx × Tx × Tx) :=
  match targetL (cutL [32] (behindL [32] line)).1 with
  | none => none
  | some (p, q, h) => if isTokenL (cutL [32] line).1 && behindL [32] (behindL [32] line) == versionL then some ((cutL [32] line).1, p, q, h) else none
def fieldL (line : Tx) : Option Fd :=
  if (cutL [58] line).2.isSome && isTokenL (cutL [58] line).1 && isValueL (trimB (behindL [58] line)) then some ⟨lowL (cutL [58] line).1, trimB (behindL [58] line)⟩ else none
def crlf : Tx := [13, 10]
def fieldsL : Nat → Tx → Option (List Fd)
  | 0, _ => some []
  | n + 1, rest => if rest = [] then some [] else match fieldL (cutL crlf rest).1 with
    | none => none
    | some f => (fieldsL n (behindL crlf rest)).map (f :: ·)
def hostName : Tx := [104, 111, 115, 116]
def hostsOf (l : List Fd) : List Fd := l.filter (fun f => f.name == hostName)
def hostOfL (l : List Fd) : Option Tx := match hostsOf l with
  | [f] => hostL f.value
  | _ => none
def readL (text : Tx) : Option Hd :=
  match requestL (cutL crlf text).1 with
  | none => none
  | some (m, p, q, h) => match fieldsL text.length (behindL crlf text) with
    | none => none
    | some fs => match hostOfL fs with
      | none => none
      | some x => some ⟨m, p, q, if h = [] then x else h, fs⟩
inductive Got where
  | ok (h : Hd) (at_ : Nat)
  | bad (e : Nat)
deriving DecidableEq
def eShort : Nat := 3
def eLimit : Nat := 6
def eForm : Nat := 4
def parseL (b : Tx) : Got :=
  match (cutL (crlf ++ crlf) (b.take 2048)).2 with
  | none => if b.length < 2048 then .bad eShort else .bad eLimit
  | some _ => match readL ((cutL (crlf ++ crlf) (b.take 2048)).1 ++ crlf) with
    | none => .bad eForm
    | some h => if 32 < h.fields.length then .bad eLimit else .ok h ((cutL (crlf ++ crlf) (b.take 2048)).1.length + 4)
def liveIn : Tx := [71, 69, 84, 32, 47, 97, 63, 98, 32, 72, 84, 84, 80, 47, 49, 46, 49, 13, 10, 72, 111, 115, 116, 58, 32, 88, 46, 121, 58, 56, 48, 13, 10, 13, 10, 98, 111, 100, 121]
theorem live_parse : parseL liveIn = .ok ⟨[71, 69, 84], [47, 97], [98], [120, 46, 121], [⟨[104, 111, 115, 116], [88, 46, 121, 58, 56, 48]⟩]⟩ 35 := by decide +kernel
end Go.Proofs.YtcmiappiocfbiaaGreatDoor
