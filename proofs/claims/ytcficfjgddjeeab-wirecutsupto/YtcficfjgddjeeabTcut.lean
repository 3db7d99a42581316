/- Plain: a message's bytes that are cut short, or with bytes behind. -/
import Derived.Test.YtcficfjgddjeeabTmat
namespace Go.Proofs.Ytcficfjgddjeeab

/-- Two rows agree as far as both go. -/
def Agree (l l' : List Nat) : Prop := ∀ i, i < l.length → i < l'.length → l'.getD i 0 = l.getD i 0
/-- A reader that looks at what it takes, and at nothing else. -/
def Pre {α : Type} (f : List Nat → Nat → Except Nat (α × Nat)) : Prop :=
  ∀ (l l' : List Nat) (k : Nat) (x : α) (k' : Nat), Agree l l' → k ≤ l.length → k ≤ l'.length → f l k = .ok (x, k') → k ≤ k' ∧ k' ≤ l.length ∧ (k' ≤ l'.length → f l' k = .ok (x, k')) ∧ (l'.length < k' → f l' k = .error 3)
theorem pre_pure {α : Type} (x : α) : Pre (fun _ k => .ok (x, k)) := by
  intro l l' k y k' _ h1 h2 h
  simp only [Except.ok.injEq, Prod.mk.injEq] at h
  obtain ⟨rfl, rfl⟩ := h
  exact ⟨Nat.le_refl _, h1, fun _ => rfl, fun h => by omega⟩
theorem pre_err {α : Type} (e : Nat) : Pre (α := α) (fun _ _ => .error e) := by
  intro l l' k y k' _ h1 h2 h
  cases h
theorem pre_if {α : Type} (c : Prop) [Decidable c] {f g : List Nat → Nat → Except Nat (α × Nat)} (hf : Pre f) (hg : Pre g) : Pre (fun l k => if c then f l k else g l k) := by
  by_cases h : c
  · simp only [if_pos h]; exact hf
  · simp only [if_neg h]; exact hg
theorem pre_bind {α β : Type} {f : List Nat → Nat → Except Nat (α × Nat)} {g : α → List Nat → Nat → Except Nat (β × Nat)} (hf : Pre f) (hg : ∀ a, Pre (g a)) : Pre (fun l k => bindE (f l k) fun a k => g a l k) := by
  intro l l' k x k' ha h1 h2 h
  simp only at h
  cases hr : f l k with
  | error e => rw [bindE_err hr] at h; cases h
  | ok p =>
    obtain ⟨a, k1⟩ := p
    rw [bindE_ok hr] at h
    obtain ⟨q1, q2, q3, q4⟩ := hf l l' k a k1 ha h1 h2 hr
    obtain ⟨r1, r2, _, _⟩ := hg a l l k1 x k' (fun _ _ _ => rfl) q2 q2 h
    by_cases hk : k1 ≤ l'.length
    · obtain ⟨_, _, r3, r4⟩ := hg a l l' k1 x k' ha q2 hk h
      exact ⟨by omega, r2, fun h => (bindE_ok (q3 hk)).trans (r3 h), fun h => (bindE_ok (q3 hk)).trans (r4 h)⟩
    · exact ⟨by omega, r2, fun h => by omega, fun h => bindE_err (q4 (by omega))⟩
theorem pre_one (a b : Nat) : Pre (fun l k => oneE l a b k) := by
  intro l l' k x k' ha h1 h2 h
  simp only [oneE] at h ⊢
  split at h
  · next hk =>
    split at h
    · next hx =>
      simp only [Except.ok.injEq, Prod.mk.injEq] at h
      obtain ⟨rfl, rfl⟩ := h
      refine ⟨by omega, by omega, fun h => ?_, fun h => ?_⟩
      · rw [if_pos (by omega), ha k hk (by omega), if_pos hx]
      · rw [if_neg (by omega)]
    · cases h
  · cases h
theorem agree_take {l l' : List Nat} {k n : Nat} (ha : Agree l l') (h1 : k + n ≤ l.length) (h2 : k + n ≤ l'.length) : (l'.drop k).take n = (l.drop k).take n := by
  apply List.ext_getElem
  · simp only [List.length_take, List.length_drop]; omega
  · intro i hi hi'
    simp only [List.length_take, List.length_drop] at hi hi'
    have := ha (k + i) (by omega) (by omega)
    simp only [List.getD_eq_getElem?_getD, List.getElem?_eq_getElem (show k + i < l.length by omega), List.getElem?_eq_getElem (show k + i < l'.length by omega), Option.getD_some] at this
    simpa using this
theorem pre_data (n : Nat) : Pre (fun l k => dataE l n k) := by
  intro l l' k x k' ha h1 h2 h
  simp only [dataE] at h ⊢
  split at h
  · cases h
  · next hk =>
    simp only [Except.ok.injEq, Prod.mk.injEq] at h
    obtain ⟨rfl, rfl⟩ := h
    refine ⟨by omega, by omega, fun h => ?_, fun h => ?_⟩
    · rw [if_neg (by omega), agree_take ha (by omega) h]
    · rw [if_pos (by omega)]
theorem pre_takeF : ∀ (f s m : Nat) (l l' : List Nat) (k n k' : Nat), Agree l l' → k ≤ l.length → k ≤ l'.length → takeF l (f + 1) s m k = (0, n, k') → k ≤ k' ∧ k' ≤ l.length ∧ (k' ≤ l'.length → takeF l' (f + 1) s m k = (0, n, k')) ∧ (l'.length < k' → (takeF l' (f + 1) s m k).1 = 3) := by
  intro f
  induction f with
  | zero =>
    intro s m l l' k n k' ha h1 h2 h
    by_cases hk : k < l.length
    · by_cases hk' : k < l'.length
      · have hx := ha k hk hk'
        rw [takeF] at h ⊢
        rw [if_neg (by omega)] at h ⊢
        rw [hx]
        split at h
        · simp at h
        · next n1 =>
          split at h
          · simp at h
          · next n2 =>
            split at h
            · simp at h
            · next n3 =>
              simp only [Prod.mk.injEq] at h
              obtain ⟨_, rfl, rfl⟩ := h
              exact ⟨by omega, by omega, fun _ => by rw [if_neg n1, if_neg n2, if_neg n3], fun h => by omega⟩
      · have h0 := takeF_short 0 s m hk'
        rw [takeF, if_neg (by omega)] at h
        refine ⟨?_, ?_, fun h' => ?_, fun _ => by rw [h0]⟩ <;> (split at h; · simp at h) <;> (split at h; · simp at h) <;> (split at h; · simp at h) <;> (simp only [Prod.mk.injEq] at h; omega)
    · rw [takeF_short 0 s m hk] at h
      simp at h
  | succ f ih =>
    intro s m l l' k n k' ha h1 h2 h
    by_cases hk : k < l.length
    · by_cases hb : 128 ≤ l.getD k 0
      · rw [takeF_more (f + 1) s m rfl hk hb (by omega)] at h
        by_cases hk' : k < l'.length
        · obtain ⟨r1, r2, r3, r4⟩ := ih _ _ l l' (k + 1) n k' ha (by omega) (by omega) h
          have e := takeF_more (f + 1) s m (ha k hk hk') hk' hb (by omega)
          exact ⟨by omega, r2, fun h => e.trans (r3 h), fun h => by rw [e]; exact r4 h⟩
        · obtain ⟨r1, r2, _, _⟩ := ih _ _ l l (k + 1) n k' (fun _ _ _ => rfl) (by omega) (by omega) h
          exact ⟨by omega, r2, fun h => by omega, fun _ => by rw [takeF_short (f + 1) s m hk']⟩
      · rw [takeF, if_neg (by omega), if_neg hb] at h
        by_cases hk' : k < l'.length
        · rw [takeF, if_neg (by omega), ha k hk hk', if_neg hb]
          split at h
          · simp at h
          · next n2 =>
            split at h
            · simp at h
            · next n3 =>
              simp only [Prod.mk.injEq] at h
              obtain ⟨_, rfl, rfl⟩ := h
              exact ⟨by omega, by omega, fun _ => by rw [if_neg n2, if_neg n3], fun h => by omega⟩
        · have h0 := takeF_short (f + 1) s m hk'
          refine ⟨?_, ?_, fun h' => ?_, fun _ => by rw [h0]⟩ <;> (split at h; · simp at h) <;> (split at h; · simp at h) <;> (simp only [Prod.mk.injEq] at h; omega)
    · rw [takeF_short (f + 1) s m hk] at h
      simp at h
theorem pre_take : Pre takeE := by
  intro l l' k x k' ha h1 h2 h
  simp only [takeE] at h ⊢
  split at h
  · next h0 =>
    simp only [Except.ok.injEq, Prod.mk.injEq] at h
    obtain ⟨r1, r2, r3, r4⟩ := pre_takeF 5 0 0 l l' k x k' ha h1 h2 (by
      show takeN l k = _
      rw [← h.1, ← h.2, ← h0])
    refine ⟨r1, r2, fun h => ?_, fun h => ?_⟩
    · have e : takeN l' k = (0, x, k') := r3 h
      rw [e, if_pos rfl]
    · have e : (takeN l' k).1 = 3 := r4 h
      rw [e, if_neg (by decide)]
  · cases h
theorem pre_up (most : Nat) : Pre (fun l k => upE l most k) := pre_bind pre_take fun n => pre_if _ (pre_err 6) (pre_pure n)
theorem posE_eq : posE = fun l k => bindE (takeE l k) fun n k => if n = 0 then .error 4 else .ok (n, k) := by
  funext l k; unfold posE bindE; cases takeE l k <;> rfl
theorem sizeE_eq (kind : Nat) : (fun l k => sizeE l kind k) = fun l k => bindE (takeE l k) fun n k => if kind = 1 ∧ 0 < n then .error 4 else if 2048 < n then .error 6 else .ok (n, k) := by
  funext l k; unfold sizeE bindE; cases takeE l k <;> rfl
theorem pre_pos : Pre posE := by rw [posE_eq]; exact pre_bind pre_take fun n => pre_if _ (pre_err 4) (pre_pure n)
theorem pre_size (kind : Nat) : Pre (fun l k => sizeE l kind k) := by rw [sizeE_eq]; exact pre_bind pre_take fun n => pre_if _ (pre_err 4) (pre_if _ (pre_err 6) (pre_pure n))
theorem entryE_eq : entryE = fun l k => bindE (oneE l 1 3 k) fun kd k => bindE (posE l k) fun t k => bindE (posE l k) fun i k => bindE (sizeE l kd k) fun n k => bindE (dataE l n k) fun d k => .ok ((kd, t, i, d), k) := by
  funext l k
  unfold entryE bindE
  cases oneE l 1 3 k with
  | error => rfl
  | ok p =>
    simp only
    cases posE l p.2 with
    | error => rfl
    | ok q =>
      simp only
      cases posE l q.2 with
      | error => rfl
      | ok r =>
        simp only
        cases sizeE l p.1 r.2 with
        | error => rfl
        | ok s =>
          simp only
          cases dataE l s.1 s.2 <;> rfl
theorem pre_entry : Pre entryE := by
  rw [entryE_eq]
  exact pre_bind (pre_one 1 3) fun kd => pre_bind pre_pos fun _ => pre_bind pre_pos fun _ => pre_bind (pre_size kd) fun n => pre_bind (pre_data n) fun _ => pre_pure _
theorem pre_ents : ∀ n, Pre (fun l k => entsE l n k)
  | 0 => pre_pure _
  | n + 1 => pre_bind pre_entry fun _ => pre_bind (pre_ents n) fun _ => pre_pure _
theorem pre_msg : Pre msgE :=
  pre_bind (pre_one 1 7) fun _ => pre_bind (pre_one 1 9) fun _ => pre_bind (pre_one 1 9) fun _ => pre_bind (pre_one 0 1) fun _ =>
  pre_bind pre_take fun _ => pre_bind pre_take fun _ => pre_bind pre_take fun _ => pre_bind pre_take fun _ => pre_bind pre_take fun _ => pre_bind pre_take fun _ =>
  pre_bind (pre_up 8) fun n => pre_bind (pre_ents n) fun _ => pre_bind (pre_up 32768) fun m => pre_bind (pre_data m) fun _ => pre_pure _
/-- Bytes taken for a message, cut short. -/
theorem msg_cut {l : List Nat} {m : MsgN} (h : wholeE l (msgE l 0) = .ok m) {n : Nat} (hn : n < l.length) : wholeE (l.take n) (msgE (l.take n) 0) = .error 3 := by
  obtain ⟨k, h0, hk⟩ := wholeE_ok h
  obtain ⟨_, _, _, r⟩ := pre_msg l (l.take n) 0 m k (fun i hi hi' => by
    rw [List.length_take] at hi'
    simp only [List.getD_eq_getElem?_getD, List.getElem?_take, if_pos (show i < n by omega)]) (Nat.zero_le _) (Nat.zero_le _) h0
  rw [r (by rw [List.length_take]; omega)]
  rfl
/-- Bytes taken for a message, with bytes behind. -/
theorem msg_behind {l b : List Nat} {m : MsgN} (h : wholeE l (msgE l 0) = .ok m) (hb : 0 < b.length) : wholeE (l ++ b) (msgE (l ++ b) 0) = .error 4 := by
  obtain ⟨k, h0, hk⟩ := wholeE_ok h
  obtain ⟨_, hkl, r, _⟩ := pre_msg l (l ++ b) 0 m k (fun i hi hi' => by
    simp only [List.getD_eq_getElem?_getD, List.getElem?_append_left hi]) (Nat.zero_le _) (Nat.zero_le _) h0
  rw [r (by rw [List.length_append]; omega)]
  simp only [wholeE]
  rw [if_pos (by rw [List.length_append]; omega)]
end Go.Proofs.Ytcficfjgddjeeab
