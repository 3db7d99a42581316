/- Heads, in plain words: targets of both kinds. -/
import Derived.Test.YtcmiappiocfbiaaGreatDoorHdg
namespace Go.Proofs.YtcmiappiocfbiaaGreatDoor
set_option linter.unusedVariables false

def okHost (c : UInt8) : Bool := c == 58 || c == 46 || isK 4 c || isK 1 c
theorem hostGo_all : ∀ (l : Tx) (g : Bool), hostGo g l = true → ∀ c ∈ l, okHost c = true
  | [], _, _, c, hc => by cases hc
  | x :: t, g, h, c, hc => by
    unfold hostGo at h
    by_cases hx : x = 46
    · rw [if_pos hx] at h
      rcases List.mem_cons.1 hc with rfl | hc
      · subst hx; decide
      · exact hostGo_all t false (Bool.and_eq_true_iff.1 h).2 c hc
    · rw [if_neg hx] at h
      rcases List.mem_cons.1 hc with rfl | hc
      · unfold okHost; rw [(Bool.and_eq_true_iff.1 h).1]; simp
      · exact hostGo_all t true (Bool.and_eq_true_iff.1 h).2 c hc
theorem host_parts {s x : Tx} (h : hostL s = some x) : allK 1 (behindL [58] s) = true ∧ isHostL (cutL [58] s).1 = true ∧ x = lowL (cutL [58] s).1 := by
  unfold hostL at h
  split at h
  · cases h
  · rename_i hn
    simp only [Bool.or_eq_true, Bool.not_eq_true', not_or, Bool.not_eq_false] at hn
    exact ⟨hn.1.2, hn.2, (Option.some.inj h).symm⟩
theorem host_all {s x : Tx} (h : hostL s = some x) : ∀ c ∈ s, okHost c = true := by
  obtain ⟨h1, h2, _⟩ := host_parts h
  have h3 : hostGo false (cutL [58] s).1 = true := (Bool.and_eq_true_iff.1 h2).2
  intro c hc
  cases hb : (cutL [58] s).2 with
  | none =>
    rw [← cutL_none hb] at hc
    exact hostGo_all _ _ h3 c hc
  | some b =>
    rw [cutL_some hb] at hc
    unfold behindL at h1
    rw [hb] at h1
    rcases List.mem_append.1 hc with hc | hc
    · exact hostGo_all _ _ h3 c hc
    · rcases List.mem_append.1 hc with hc | hc
      · rw [List.mem_singleton.1 hc]; decide
      · have := List.all_eq_true.1 h1 c hc
        unfold okHost; rw [this]; simp
theorem host_ne {s x : Tx} (h : hostL s = some x) : x ≠ [] ∧ s ≠ [] := by
  obtain ⟨_, h2, h3⟩ := host_parts h
  have h4 : hostGo false (cutL [58] s).1 = true := (Bool.and_eq_true_iff.1 h2).2
  have h5 : (cutL [58] s).1 ≠ [] := fun e => by rw [e] at h4; cases h4
  refine ⟨?_, fun e => ?_⟩
  · subst h3
    intro e
    have := congrArg List.length e
    simp [lowL, Lib.toLowerA] at this
    exact h5 this
  · subst e; exact h5 rfl
theorem esc_all (k : Nat) : ∀ (l : Tx), allEsc k l = true → ∀ c ∈ l, c = 37 ∨ isK k c = true
  | [], _, c, hc => by cases hc
  | x :: t, h, c, hc => by
    have h' : (okAt k x t && allEsc k t) = true := h
    obtain ⟨h1, h2⟩ := Bool.and_eq_true_iff.1 h'
    rcases List.mem_cons.1 hc with rfl | hc
    · unfold okAt at h1
      by_cases hx : c = 37
      · exact .inl hx
      · rw [if_neg hx] at h1; exact .inr h1
    · exact esc_all k t h2 c hc
theorem host_not {s x : Tx} (h : hostL s = some x) {c : UInt8} (hc : okHost c = false) : c ∉ s := fun e => by
  have := host_all h c e
  rw [hc] at this; cases this
theorem esc_not {k : Nat} {l : Tx} (h : allEsc k l = true) {c : UInt8} (h1 : ¬ c = 37) (h2 : isK k c = false) : c ∉ l := fun e => by
  rcases esc_all k l h c e with e | e
  · exact h1 e
  · rw [h2] at e; cases e
theorem drop_none {b : Tx} (h : ∀ c ∈ b, [9, 32].contains c = false) : b.dropWhile ([9, 32].contains ·) = b := by
  cases b with
  | nil => rfl
  | cons x t => rw [List.dropWhile_cons, if_neg (by rw [h x (by simp)]; decide)]
theorem trim_none {b : Tx} (h : ∀ c ∈ b, [9, 32].contains c = false) : trimB b = b ∧ (b ≠ [] → trimB (32 :: b) = b) := by
  have hr : ∀ c ∈ b.reverse, [9, 32].contains c = false := fun c hc => h c (List.mem_reverse.1 hc)
  refine ⟨?_, fun hn => ?_⟩
  · unfold trimB Lib.trimS Lib.trimLeftS Lib.trimRightS
    rw [drop_none hr, List.reverse_reverse, drop_none h]
  · unfold trimB Lib.trimS Lib.trimLeftS Lib.trimRightS
    rw [List.reverse_cons]
    have e : (b.reverse ++ [32]).dropWhile ([9, 32].contains ·) = b.reverse ++ [32] := by
      cases hb : b.reverse with
      | nil => exact absurd (List.reverse_eq_nil_iff.1 hb) hn
      | cons x t => rw [List.cons_append, List.dropWhile_cons, if_neg (by rw [hr x (by rw [hb]; simp)]; decide)]
    rw [e, List.reverse_append, List.reverse_reverse]
    show (32 :: b).dropWhile _ = b
    rw [List.dropWhile_cons, if_pos (by decide), drop_none h]
theorem each8 {p : UInt8 → Bool} (h : (List.range 256).all (fun n => p (UInt8.ofNat n)) = true) (x : UInt8) : p x = true := by
  have h1 := List.all_eq_true.1 h x.toNat (List.mem_range.2 x.toNat_lt)
  rwa [show UInt8.ofNat x.toNat = x from UInt8.ofNat_toNat] at h1
theorem host_val {s x : Tx} (h : hostL s = some x) : fieldL (hostName ++ 58 :: 32 :: s) = some ⟨hostName, s⟩ := by
  have hb : ∀ c ∈ s, [9, 32].contains c = false := fun c hc => by
    have h1 := host_all h c hc
    have h2 := each8 (p := fun c => !okHost c || !([9, 32].contains c)) (by decide +kernel) c
    rw [h1] at h2
    simpa using h2
  have hk : allK 64 s = true := List.all_eq_true.2 fun c hc => by
    have h1 := host_all h c hc
    have h2 := each8 (p := fun c => !okHost c || isK 64 c) (by decide +kernel) c
    rw [h1] at h2
    simpa using h2
  have hc : cutL [58] (hostName ++ 58 :: 32 :: s) = (hostName, some (32 :: s)) := cut1_app (by decide) (32 :: s)
  have hv : isValueL s = true := by unfold isValueL; rw [(trim_none hb).1, hk, beq_self_eq_true]; rfl
  unfold fieldL behindL
  rw [hc]
  simp only [Option.isSome_some, Option.getD_some, (trim_none hb).2 (host_ne h).2, hv]
  rfl
def req (t : Tx) : Tx := [71, 69, 84] ++ 32 :: (t ++ 32 :: versionL)
def twoL (t b : Tx) : Tx := req t ++ (crlf ++ ((hostName ++ 58 :: 32 :: b) ++ (crlf ++ crlf)))
theorem req_is {t p q h : Tx} (ht : (32 : UInt8) ∉ t) (hT : targetL t = some (p, q, h)) : requestL (req t) = some ([71, 69, 84], p, q, h) := by
  have c0 : cutL [32] (req t) = ([71, 69, 84], some (t ++ 32 :: versionL)) := cut1_app (by decide) _
  have c1 : cutL [32] (t ++ 32 :: versionL) = (t, some versionL) := cut1_app ht _
  unfold requestL behindL
  simp only [c0, Option.getD_some, c1, hT]
  rfl
theorem two_parse {t p q h b y : Tx} (h13 : (13 : UInt8) ∉ t) (h32 : (32 : UInt8) ∉ t) (hT : targetL t = some (p, q, h)) (hb : hostL b = some y) (hl : t.length + b.length ≤ 2000) : parseL (twoL t b) = .ok ⟨[71, 69, 84], p, q, if h = [] then y else h, [⟨hostName, b⟩]⟩ (twoL t b).length := by
  have n0 : (13 : UInt8) ∉ req t := fun e => by
    unfold req at e
    simp only [List.mem_append, List.mem_cons, h13, false_or] at e
    revert e; decide
  have n1 : (13 : UInt8) ∉ hostName ++ 58 :: 32 :: b := fun e => by
    have := host_not hb (c := 13) (by decide)
    simp only [List.mem_append, List.mem_cons, this, or_false] at e
    revert e; decide
  have hlen : (twoL t b).length = t.length + b.length + 25 := by simp [twoL, req, versionL, crlf, hostName]; omega
  have ht : (twoL t b).take 2048 = twoL t b := List.take_of_length_le (by omega)
  have hc : cutL (crlf ++ crlf) (twoL t b) = (req t ++ (crlf ++ (hostName ++ 58 :: 32 :: b)), some []) := by
    unfold twoL
    have e1 : (hostName ++ 58 :: 32 :: b) ++ (crlf ++ crlf) = 104 :: ([111, 115, 116] ++ 58 :: 32 :: b ++ (crlf ++ crlf)) := rfl
    have e2 := cut4_end n1 []
    rw [List.append_nil] at e2
    rw [e1, cut4_step n0 104 _ (by decide), ← e1, e2]
  have e : req t ++ (crlf ++ (hostName ++ 58 :: 32 :: b)) ++ crlf = req t ++ (crlf ++ ((hostName ++ 58 :: 32 :: b) ++ (crlf ++ []))) := by simp [List.append_assoc]
  have c0 : cutL crlf (req t ++ (crlf ++ ((hostName ++ 58 :: 32 :: b) ++ (crlf ++ [])))) = (req t, some ((hostName ++ 58 :: 32 :: b) ++ (crlf ++ []))) := cut2_app n0 _
  have c1 : cutL crlf ((hostName ++ 58 :: 32 :: b) ++ (crlf ++ [])) = (hostName ++ 58 :: 32 :: b, some []) := cut2_app n1 _
  obtain ⟨m, hm⟩ : ∃ m, (req t ++ (crlf ++ ((hostName ++ 58 :: 32 :: b) ++ (crlf ++ [])))).length = m + 2 := ⟨t.length + b.length + 21, by simp [req, versionL, crlf, hostName]; omega⟩
  have ff : fieldsL (m + 2) ((hostName ++ 58 :: 32 :: b) ++ (crlf ++ [])) = some [⟨hostName, b⟩] := by
    have n1 : ¬ (hostName ++ 58 :: 32 :: b) ++ (crlf ++ []) = [] := fun h => by cases h
    rw [fieldsL, if_neg n1, c1, host_val hb]
    simp only [behindL, c1, Option.getD_some]
    rfl
  have hh : hostOfL [⟨hostName, b⟩] = some y := by
    have e1 : hostsOf [⟨hostName, b⟩] = [⟨hostName, b⟩] := rfl
    unfold hostOfL
    rw [e1]
    exact hb
  have hrd : readL (req t ++ (crlf ++ (hostName ++ 58 :: 32 :: b)) ++ crlf) = some ⟨[71, 69, 84], p, q, if h = [] then y else h, [⟨hostName, b⟩]⟩ := by
    rw [e]
    unfold readL
    rw [c0, hm]
    simp only [req_is h32 hT, behindL, c0, Option.getD_some, ff, hh]
  unfold parseL
  rw [ht, hc]
  simp only [hrd]
  have e3 : (req t ++ (crlf ++ (hostName ++ 58 :: 32 :: b))).length + 4 = (twoL t b).length := by rw [hlen]; simp [req, versionL, crlf, hostName]; omega
  rw [e3]
  rfl
theorem tgt1 {a p q x : Tx} (ha : hostL a = some x) (hp : isPathL p = true) (hq : isQueryL q = true) : targetL (httpL ++ (a ++ (p ++ 63 :: q))) = some (p, q, x) := by
  obtain ⟨hp1, hp2⟩ := Bool.and_eq_true_iff.1 hp
  obtain ⟨r, hr⟩ := List.isPrefixOf_iff_prefix.1 hp1
  have n63 : (63 : UInt8) ∉ httpL ++ (a ++ p) := fun e => by
    simp only [List.mem_append, host_not ha (c := 63) (by decide), esc_not hp2 (c := 63) (by decide) (by decide), or_false] at e
    revert e; decide
  have c0 : cutL [63] (httpL ++ (a ++ (p ++ 63 :: q))) = (httpL ++ (a ++ p), some q) := by
    have := cut1_app n63 q
    rwa [List.append_assoc, List.append_assoc] at this
  have c1 : cutL [47] (a ++ p) = (a, some r) := by
    have := cut1_app (host_not ha (c := 47) (by decide)) r
    rw [← hr]; exact this
  have hpr : httpL.isPrefixOf (httpL ++ (a ++ p)) = true := List.isPrefixOf_iff_prefix.2 ⟨_, rfl⟩
  have hd : (httpL ++ (a ++ p)).drop 7 = a ++ p := rfl
  have hpp : (47 : UInt8) :: r = p := hr
  unfold targetL behindL
  simp only [c0, Option.getD_some, hq, hpr, hd, c1, ha, hpp, hp]
  rfl
theorem tgt2 {a x : Tx} (ha : hostL a = some x) : targetL (httpL ++ a) = some ([47], [], x) := by
  have n63 : (63 : UInt8) ∉ httpL ++ a := fun e => by
    simp only [List.mem_append, host_not ha (c := 63) (by decide), or_false] at e
    revert e; decide
  have c0 := cut1_no n63
  have c1 := cut1_no (host_not ha (c := 47) (by decide))
  have hpr : httpL.isPrefixOf (httpL ++ a) = true := List.isPrefixOf_iff_prefix.2 ⟨_, rfl⟩
  have hd : (httpL ++ a).drop 7 = a := rfl
  have hp : isPathL [47] = true := by decide
  have hq : isQueryL [] = true := rfl
  unfold targetL behindL
  simp only [c0, Option.getD_none, hq, hpr, hd, c1, ha, hp]
  rfl
theorem tgt3 {p : Tx} (hp : isPathL p = true) : targetL p = some (p, [], []) := by
  obtain ⟨hp1, hp2⟩ := Bool.and_eq_true_iff.1 hp
  obtain ⟨r, hr⟩ := List.isPrefixOf_iff_prefix.1 hp1
  have c0 := cut1_no (esc_not hp2 (c := 63) (by decide) (by decide))
  have hpr : httpL.isPrefixOf p = false := by rw [← hr]; rfl
  have hq : isQueryL [] = true := rfl
  unfold targetL behindL
  simp only [c0, Option.getD_none, hq, hpr, hp]
  rfl
end Go.Proofs.YtcmiappiocfbiaaGreatDoor
