/- Logs: each method of a log, told by the records that are synced and those behind them. -/
import Derived.Test.YtijcpmbfhfppmaaGreatDoorWgi
import Derived.Test.YtijcpmbfhfppmaaGreatDoorWdb
import Derived.Test.YtijcpmbfhfppmaaGreatDoorWgj
namespace Go.Proofs.YtijcpmbfhfppmaaGreatDoor
open Go.ChangeShapes Go.WideShapes Go.ChangeAt Go.RowKit
set_option linter.unusedVariables false
section
variable {Av : Nat → Prop} {base : Nat} {w w' : World} {L d M room N N' : Nat} {ss ss' : Ds} {c : Wc} {n : Nat} {ep : Option Addr} {ec : Nat} {hs : List (Option Addr × Nat)} {r1 r2 : List (List Nat)}
/-- Records were added, or it is as it was. -/
def PutEnd (Av : Nat → Prop) (base L d M room N : Nat) (w : World) (c : Wc) (n : Nat) (r1 r2 : List (List Nat)) (k : Nat) (e : Ending) (w' : World) : Prop :=
  ∃ (r : Nat) (ss' : Ds) (c' : Wc) (ep : Option Addr) (ec : Nat) (hs : List (Option Addr × Nat)) (rs : List (List Nat)), e = .returned (.int .i64 (r : Int)) ∧ WAt Av base w' L d M room N ss' c' n ep ec hs ∧ LS room ss' c' n r1 (r2 ++ rs) ∧ (r ≠ 0 → c' = c) ∧ rs.length ≤ k ∧ c'.es.length ≤ c.es.length + 300 ∧ Asd Av base w w'
theorem append_do (z : WAt Av base w L d M room N ss c n ep ec hs) (ls : LS room ss c n r1 r2) (hN : N + 2 ≤ 1000000) (hr : room ≤ 20000) (a : Option Addr) (m k : Nat) (es : List EntI) (hm : es.length = m) (hE : EntsIn (fun g => g < base ∨ Av g) w a es) (h6 : sumN es ≤ 6000) (hl : c.es.length ≤ 100000) :
    Calls Tryz.prog 27 #[.pointer (some ⟨L, 0, none⟩), .slice a m k] w (PutEnd Av base L d M room (N + 2) w c n r1 r2 m) := by
  have h20 := sumN_len es
  refine (append_calls z hN a m k es hm hE (by omega)).mono ?_
  rintro e W ⟨rfl, ⟨ep', ec', hs', z'⟩, a'⟩
  have hfit := ls.fit
  rcases ls.append es (fun b hb => by have := recsE_sum hb; omega) with ⟨x, hx⟩ | ⟨ss', hx, ls'⟩
  · rw [hx] at z' ⊢
    exact ⟨x, ss, c, ep', ec', hs', [], rfl, z', by rw [List.append_nil]; exact ls, fun _ => rfl, by simp, by omega, a'⟩
  · rw [hx] at z' ⊢
    have := addAll_len c es
    exact ⟨0, ss', _, ep', ec', hs', _, rfl, z', ls', fun h => absurd rfl h, by rw [List.length_map, hm]; exact Nat.le_refl _, by show (addAll c es).es.length ≤ c.es.length + 300; omega, a'⟩
theorem hard_do (z : WAt Av base w L d M room N ss c n ep ec hs) (ls : LS room ss c n r1 r2) (hN : N + 2 ≤ 1000000) (hr : room ≤ 20000) (t v : Int) :
    Calls Tryz.prog 28 #[.pointer (some ⟨L, 0, none⟩), .agg #[.int .i64 t, .int .i64 v]] w (PutEnd Av base L d M room (N + 2) w c n r1 r2 1) := by
  by_cases h : 0 ≤ t ∧ t ≤ 1099511627776 ∧ 0 ≤ v ∧ v ≤ 9
  · obtain ⟨t', rfl⟩ : ∃ t' : Nat, t = (t' : Int) := ⟨t.toNat, by omega⟩
    obtain ⟨v', rfl⟩ : ∃ v' : Nat, v = (v' : Int) := ⟨v.toNat, by omega⟩
    refine (setHard_yes z hN t' v' (by omega) (by omega)).mono ?_
    rintro e W ⟨rfl, ⟨ep', ec', hs', z'⟩, a'⟩
    rcases ls.hard (t := t') (v := v') (by omega) (by omega) (by omega) with ⟨x, hx⟩ | ⟨ss', hx, ls'⟩
    · rw [hx] at z' ⊢
      exact ⟨x, ss, c, ep', ec', hs', [], rfl, z', by rw [List.append_nil]; exact ls, fun _ => rfl, by simp, by omega, a'⟩
    · rw [hx] at z' ⊢
      exact ⟨0, ss', _, ep', ec', hs', _, rfl, z', ls', fun h => absurd rfl h, by simp, by simp only; omega, a'⟩
  · refine (setHard_no z t v h).mono ?_
    rintro e W ⟨rfl, ⟨ep', ec', hs', z'⟩, a'⟩
    exact ⟨2, ss, c, ep', ec', hs', [], rfl, z'.monoN (by omega) hN, by rw [List.append_nil]; exact ls, fun _ => rfl, by simp, by omega, a'⟩
/-- All is synced. -/
def SynEnd (Av : Nat → Prop) (base L d M room N : Nat) (w : World) (c : Wc) (n : Nat) (r1 r2 : List (List Nat)) (e : Ending) (w' : World) : Prop :=
  ∃ (ss' : Ds) (ep : Option Addr) (ec : Nat) (hs : List (Option Addr × Nat)), e = .returned (.int .i64 0) ∧ WAt Av base w' L d M room N ss' c n ep ec hs ∧ LS room ss' c n (r1 ++ r2) [] ∧ Asd Av base w w'
theorem sync_do (z : WAt Av base w L d M room N ss c n ep ec hs) (ls : LS room ss c n r1 r2) :
    Calls Tryz.prog 29 #[.pointer (some ⟨L, 0, none⟩)] w (SynEnd Av base L d M room N w c n r1 r2) := by
  refine (wsync_calls z).mono ?_
  rintro e W ⟨rfl, z', a'⟩
  obtain ⟨q1, q2⟩ := ls.sync
  rw [q1] at z' ⊢
  exact ⟨_, ep, ec, hs, rfl, z', q2, a'.sub (fun g hg => .inl hg)⟩
/-- Written anew, or as it was. -/
def NewEnd (P : Prop) (Av : Nat → Prop) (base L d M room N : Nat) (w : World) (ss : Ds) (c : Wc) (n : Nat) (e : Ending) (w' : World) : Prop :=
  ∃ (r : Nat) (ss' : Ds) (c' : Wc) (n' : Nat) (ep : Option Addr) (ec : Nat) (hs : List (Option Addr × Nat)), e = .returned (.int .i64 (r : Int)) ∧ WAt Av base w' L d M room N ss' c' n' ep ec hs ∧ Asd Av base w w' ∧ c'.es.length ≤ c.es.length ∧
    ((r = 0 ∧ P ∧ ∃ r1', LS room ss' c' n' r1' []) ∨ (ss' = ss ∧ c' = c ∧ n' = n ∧ (r = 0 → ¬ P)))
theorem reset_do (z : WAt Av base w L d M room N ss c n ep ec hs) (ls : LS room ss c n r1 r2) (hN : N + 1 ≤ 1000000) (i t : Int) :
    Calls Tryz.prog 31 #[.pointer (some ⟨L, 0, none⟩), .agg #[.int .i64 i, .int .i64 t]] w (NewEnd True Av base L d M room (N + 1) w ss c n) := by
  by_cases h : (0 ≤ i ∧ i ≤ 1099511627776) ∧ 0 ≤ t ∧ t ≤ 1099511627776
  · obtain ⟨i', rfl⟩ : ∃ i' : Nat, i = (i' : Int) := ⟨i.toNat, by omega⟩
    obtain ⟨t', rfl⟩ : ∃ t' : Nat, t = (t' : Int) := ⟨t.toNat, by omega⟩
    refine (reset_yes z hN i' t' (by omega) (by omega)).mono ?_
    rintro e W ⟨rfl, ⟨ep', ec', hs', z'⟩, a'⟩
    rcases ls.new (c2 := ⟨i', t', c.ht, c.hv, []⟩) ⟨by simp only; omega, by simp only; omega, z.ok.ht, z.ok.hv, fun e he => by simp at he⟩ Ix.nil with ⟨x, h0, hx⟩ | ⟨ss', hx, ls'⟩
    · rw [hx] at z' ⊢
      exact ⟨x, _, _, _, ep', ec', hs', rfl, z', a', by simp, .inr ⟨rfl, rfl, rfl, fun h => absurd h h0⟩⟩
    · rw [hx] at z' ⊢
      exact ⟨0, _, _, _, ep', ec', hs', rfl, z', a', by simp, .inl ⟨rfl, trivial, _, ls'⟩⟩
  · refine (reset_no z i t h).mono ?_
    rintro e W ⟨rfl, ⟨ep', ec', hs', z'⟩, a'⟩
    exact ⟨2, _, _, _, ep', ec', hs', rfl, z'.monoN (by omega) hN, a', by simp, .inr ⟨rfl, rfl, rfl, fun h => by omega⟩⟩
theorem compact_do (z : WAt Av base w L d M room N ss c n ep ec hs) (ls : LS room ss c n r1 r2) (hN : N + 1 ≤ 1000000) (i : Int) (hi : -9223372036854775808 ≤ i ∧ i ≤ 9223372036854775807) :
    Calls Tryz.prog 30 #[.pointer (some ⟨L, 0, none⟩), .int .i64 i] w (NewEnd ((c.bi : Int) < i) Av base L d M room (N + 1) w ss c n) := by
  refine (compact_calls z hN ls.ix i hi).mono ?_
  rintro e W ⟨rfl, ⟨ep', ec', hs', z'⟩, a'⟩
  have hW : wCompact room n c i ss = (if (termW c i).2 = false then (2, ss, c, n) else if i = (c.bi : Int) then (0, ss, c, n) else wNew room n c ⟨i.toNat, (termW c i).1.toNat, c.ht, c.hv, c.es.drop (i.toNat - c.bi)⟩ ss) := rfl
  by_cases h1 : (termW c i).2 = false
  · rw [if_pos h1] at hW
    rw [hW] at z' ⊢
    exact ⟨2, _, _, _, ep', ec', hs', rfl, z', a', by simp, .inr ⟨rfl, rfl, rfl, fun h => by omega⟩⟩
  · rw [if_neg h1] at hW
    by_cases h2 : i = (c.bi : Int)
    · rw [if_pos h2] at hW
      rw [hW] at z' ⊢
      exact ⟨0, _, _, _, ep', ec', hs', rfl, z', a', by simp, .inr ⟨rfl, rfl, rfl, fun _ => by omega⟩⟩
    · rw [if_neg h2] at hW
      have hr : (c.bi : Int) < i ∧ i ≤ ((c.bi + c.es.length : Nat) : Int) := by
        by_cases hq : (c.bi : Int) < i ∧ i ≤ ((c.bi + c.es.length : Nat) : Int)
        · exact hq
        · exfalso
          apply h1
          unfold termW
          rw [if_neg h2, if_neg hq]
      have ht : termW c i = (((c.es.getD (i - (c.bi : Int) - 1).toNat default).2.1 : Int), true) := by
        unfold termW
        rw [if_neg h2, if_pos hr]
      obtain ⟨k, rfl⟩ : ∃ k : Nat, i = (k : Int) := ⟨i.toNat, by omega⟩
      obtain ⟨ok2, ix2, _⟩ := comp_ok z.ok ls.ix (show c.bi < k by omega) (show k ≤ c.bi + c.es.length by omega) (show (termW c (k : Int)).1 = _ by rw [ht])
      rw [Int.toNat_natCast] at hW
      rcases ls.new ok2 ix2 with ⟨x, h0, hx⟩ | ⟨ss', hx, ls'⟩
      · rw [hx] at hW
        rw [hW] at z' ⊢
        exact ⟨x, _, _, _, ep', ec', hs', rfl, z', a', by simp, .inr ⟨rfl, rfl, rfl, fun h => absurd h h0⟩⟩
      · rw [hx] at hW
        rw [hW] at z' ⊢
        exact ⟨0, _, _, _, ep', ec', hs', rfl, z', a', by simp only [List.length_drop]; omega, .inl ⟨rfl, hr.1, _, ls'⟩⟩
end
end Go.Proofs.YtijcpmbfhfppmaaGreatDoor
