/- Disk: what a crash leaves. -/
import Derived.Test.YtijcpmbfhfppmaaGreatDoorDkh
import Derived.Test.YtijcpmbfhfppmaaGreatDoorArgi
namespace Go.Proofs.YtijcpmbfhfppmaaGreatDoor
open Go.ChangeShapes Go.WideShapes Go.ChangeAt Go.RowKit Go.Maps

def unitsAt (ks : List Int) (i : Nat) : Nat := (ks.getD i 0).toNat
def crashOne (U : Nat) (x : Nm × Sp) : Ds := if x.2.la = false ∧ (crashL x.2.cs x.2.y U).2 = U then [] else [(x.1, ⟨true, (crashL x.2.cs x.2.y U).1, []⟩)]
def crashS (ks : List Int) : Nat → Ds → Ds
  | _, [] => []
  | i, x :: r => crashOne (unitsAt ks i) x ++ crashS ks (i + 1) r
theorem putF_mid {α : Type} {k : Nm} {u v : α} : ∀ (p r : List (Nm × α)), Rises (p ++ (k, u) :: r) → putF k v (p ++ (k, u) :: r) = p ++ (k, v) :: r
  | [], r, _ => by simp [putF, nm_irrefl]
  | x :: p, r, h => by
    have h1 := List.pairwise_cons.1 (show (x :: (p ++ (k, u) :: r)).Pairwise _ from h)
    have h2 : x.1 < k := h1.1 (k, u) (by simp)
    show putF k v (x :: (p ++ (k, u) :: r)) = _
    unfold putF
    rw [if_pos h2, putF_mid p r h1.2]
    rfl
theorem delF_mid {α : Type} {k : Nm} {u : α} (p r : List (Nm × α)) (h : Rises (p ++ (k, u) :: r)) : delF k (p ++ (k, u) :: r) = p ++ r := by
  have hn := h.nodup
  rw [List.map_append, List.map_cons] at hn
  have hp : ∀ x ∈ p, x.1 ≠ k := fun x hx e => by
    rw [List.nodup_append] at hn
    exact hn.2.2 x.1 (List.mem_map.2 ⟨x, hx, rfl⟩) k (by simp) e
  have hr : ∀ x ∈ r, x.1 ≠ k := fun x hx e => by
    rw [List.nodup_append] at hn
    have := (List.nodup_cons.1 hn.2.1).1
    exact this (List.mem_map.2 ⟨x, hx, e⟩)
  unfold delF
  rw [List.filter_append, List.filter_cons, if_neg (by simp)]
  rw [List.filter_eq_self.2 (fun x hx => by simpa using hp x hx), List.filter_eq_self.2 (fun x hx => by simpa using hr x hx)]
section
variable {base d M room N : Nat} {w w' w2 : World} {fs fs' : List Fe}
/-- Blocks of other kinds are none of its own. -/
theorem DiskAt.other (h : DiskAt base w d M room N fs) {g : Nat} {cs : Array Value} {T : TypeId} (hg : w.heap[g]? = some (.cells cs T (0, 0))) (h1 : T ≠ 118) (h2 : T ≠ 5) (h3 : T ≠ 152) (h4 : T ≠ 101) : ¬ DMut d M fs g ∧ ¬ DRed fs g := by
  constructor
  · rintro (rfl | rfl | ⟨x, hx, hm⟩)
    · rw [h.box] at hg; simp only [Option.some.injEq, Obj.cells.injEq] at hg; exact h4 hg.2.1.symm
    · obtain ⟨es, k, hm⟩ := h.map.isMap
      rw [hm] at hg; simp at hg
    · obtain ⟨cur, T', hc, hT⟩ := (h.file x hx).mut_is hm
      rw [hc] at hg
      simp only [Option.some.injEq, Obj.cells.injEq] at hg
      rw [hg.2.1] at hT
      rcases hT with e | e | e
      · exact h1 e
      · exact h2 e
      · exact h3 e
  · rintro ⟨x, hx, hm⟩
    obtain ⟨_, _, cur, hc⟩ := (h.file x hx).red_lt hm
    rw [hc] at hg
    simp only [Option.some.injEq, Obj.cells.injEq] at hg
    exact h2 hg.2.1.symm
/-- A file is taken away behind a call on it. -/
theorem DiskAt.lose (h : DiskAt base w d M room N fs) {x : Fe} (hx : x ∈ fs) {f' : Fil} (hg : FGrew x.2.1 w x.2.2 w' f') (hgr : w'.grownBy w2 (some M)) (hm : MapAt w2 M (delF x.1 (ptrs fs))) :
    DiskAt base w2 d M room N (delF x.1 fs) ∧ DGrew d M w fs w2 (delF x.1 fs) := by
  have hk : ∀ g, g < w.heap.size → ¬ x.mut g → g ≠ M → w2.heap[g]? = w.heap[g]? := fun g hlt h1 h2 => (hgr.block g (Nat.lt_of_lt_of_le hlt hg.size) (fun e => h2 (Option.some.inj e))).trans (hg.block g hlt h1)
  have hmem := fun (y : Fe) => mem_delF (k := x.1) (fs := fs) y
  refine ⟨⟨(hk d h.ltD (h.notD hx).1 h.dm).trans h.box, by rw [ptrs_del]; exact hm, h.rise.del _, ?_, fun y hy => h.ok y ((hmem y).1 hy).1, h.lowD, h.lowM, fun y hy z hz => h.ap y ((hmem y).1 hy).1 z ((hmem z).1 hz).1, fun y hy z hz => h.rd y ((hmem y).1 hy).1 z ((hmem z).1 hz).1, Nat.le_trans (List.length_filter_le _ _) h.few, fun y hy => h.names y ((hmem y).1 hy).1⟩,
    ⟨hgr.os.trans hg.os, hgr.tape.trans hg.tape, hgr.output.trans hg.output, Nat.le_trans hg.size hgr.size, fun i hi hn => hk i hi (fun e => hn (.inr (.inr ⟨x, hx, e⟩))) (fun e => hn (.inr (.inl e))), ?_, ?_⟩⟩
  · intro y hy
    obtain ⟨hy, hne⟩ := (hmem y).1 hy
    refine (h.file y hy).same (fun g hgy => ?_)
    rcases hgy with hgy | hgy
    · exact hk g ((h.file y hy).mut_lt hgy).2 (fun e => h.ap y hy x hx hne g hgy e) (fun e => (h.notM hy).1 (e ▸ hgy))
    · exact hk g ((h.file y hy).red_lt hgy).2.1 (fun e => h.rd x hx y hy g e hgy) (fun e => (h.notM hy).2 (e ▸ hgy))
  · rintro g (e | e | ⟨y, hy, hm⟩)
    · exact .inl (.inl e)
    · exact .inl (.inr (.inl e))
    · exact .inl (.inr (.inr ⟨y, ((hmem y).1 hy).1, hm⟩))
  · rintro g ⟨y, hy, hm⟩
    exact .inl ⟨y, ((hmem y).1 hy).1, hm⟩
theorem enter_crash (c : Array Value) (w : World) : (callFunc 73 c).run Tryz.prog w = .ok (.enter 73 c) w := by
  simp [callFunc, go_sem, Tryz.func73]
  rw [if_neg (by decide +kernel), if_neg (fun h => by cases h)]
/-- What the visit of a file leaves. -/
structure Visited (base d M room N : Nat) (w : World) (p r : List Fe) (x : Fe) (P i U : Nat) (w' : World) : Prop where
  cnt : w'.heap[P]? = some (.cells #[.int .i64 ((i + 1 : Nat) : Int)] 3 (0, 0))
  same : ∀ g, g < w.heap.size → ¬ DMut d M (p ++ x :: r) g → g ≠ P → w'.heap[g]? = w.heap[g]?
  os : w'.os = w.os
  tape : w'.tape = w.tape
  output : w'.output = w.output
  size : w.heap.size ≤ w'.heap.size
  left : ∃ p', DiskAt base w' d M room N (p' ++ r) ∧ (∀ g, DMut d M (p' ++ r) g → DMut d M (p ++ x :: r) g ∨ w.heap.size ≤ g) ∧ (∀ g, DRed (p' ++ r) g → DRed (p ++ x :: r) g ∨ w.heap.size ≤ g) ∧ sps p' = sps p ++ crashOne U (x.1, x.2.2.sp)
set_option maxRecDepth 20000 in
set_option maxHeartbeats 40000000 in
theorem crash1_calls (p r : List Fe) (x : Fe) (h : DiskAt base w d M room N (p ++ x :: r)) (hbs : base ≤ w.heap.size) (hN : N ≤ 1000000) (P K Q i : Nat) (hi : i ≤ 1000) (hP : w.heap[P]? = some (.cells #[.int .i64 (i : Int)] 3 (0, 0)))
    (kp : Option Addr) (kn kc : Nat) (hK : w.heap[K]? = some (.cells #[.slice kp kn kc] 32 (0, 0))) (hQ : w.heap[Q]? = some (.cells #[.pointer (some ⟨d, 0, none⟩)] 38 (0, 0))) (ks : List Int) (hks : ks.length = kn) (hI : IntsAt w kp ks) :
    Calls Tryz.prog 73 #[.string (str x.1), .pointer (some ⟨x.2.1, 0, none⟩), .pointer (some ⟨P, 0, none⟩), .pointer (some ⟨K, 0, none⟩), .pointer (some ⟨Q, 0, none⟩)] w fun e w' => e = .returned (.tuple #[]) ∧ Visited base d M room N w p r x P i (unitsAt ks i) w' := by
  have hx : x ∈ p ++ x :: r := by simp
  have hoP := h.other hP (by decide) (by decide) (by decide) (by decide)
  have hoQ := h.other hQ (by decide) (by decide) (by decide) (by decide)
  have hPQ : P ≠ Q := fun e => by rw [e, hQ] at hP; simp at hP
  have h1 : DiskAt base (w.setCell ⟨P, 0, none⟩ (.int .i64 ((i + 1 : Nat) : Int))) d M room N (p ++ x :: r) := h.same (fun g hlt hg => heap_setCell_other _ ⟨P, 0, none⟩ g _ (fun e => by
    have e2 : g = P := e
    rw [e2] at hg
    exact hg.elim hoP.1 hoP.2))
  have hs1 : (w.setCell ⟨P, 0, none⟩ (.int .i64 ((i + 1 : Nat) : Int))).heap.size = w.heap.size := by simp [World.setCell]
  have hP1 := heap_setCell_same w P 0 #[.int .i64 (i : Int)] 3 (.int .i64 ((i + 1 : Nat) : Int)) hP
  have hQ1 : (w.setCell ⟨P, 0, none⟩ (.int .i64 ((i + 1 : Nat) : Int))).heap[Q]? = some (.cells #[.pointer (some ⟨d, 0, none⟩)] 38 (0, 0)) := (heap_setCell_other _ ⟨P, 0, none⟩ Q _ (fun e => hPQ e.symm)).trans hQ
  have hUle : unitsAt ks i ≤ 9223372036854775807 := by
    unfold unitsAt
    by_cases hik : i < ks.length
    · rw [List.getD_eq_getElem?_getD, List.getElem?_eq_getElem hik]
      have := hI.bd _ (List.getElem_mem hik)
      simp only [Option.getD_some]
      omega
    · rw [List.getD_eq_getElem?_getD, List.getElem?_eq_none (by omega)]; simp
  have hok := h.ok x hx
  have C1 := hide (crash_calls base (w.setCell ⟨P, 0, none⟩ (.int .i64 ((i + 1 : Nat) : Int))) x.2.1 x.2.2 (h1.file x hx) (unitsAt ks i) hUle (by have := hok.few; omega) hok.fit (by have := hok.y8; omega) (by rw [hs1]; exact hbs))
  have hU : max (ks.getD i 0) 0 = ((unitsAt ks i : Nat) : Int) := by unfold unitsAt; omega
  have hnm := h.names x hx
  have KE := hide (show ∀ e w2, CrashEnd base (w.setCell ⟨P, 0, none⟩ (.int .i64 ((i + 1 : Nat) : Int))) x.2.1 x.2.2 (unitsAt ks i) e w2 →
      (e = .returned (.bool false) ∧ w2.cell? ⟨Q, 0, none⟩ = some (.pointer (some ⟨d, 0, none⟩)) ∧ w2.cell? ⟨d, 1, none⟩ = some (.map (some M)) ∧ ∃ w3, (∀ ty, (Builtin.delete_ #[99, 9] ty #[.map (some M), .string (str x.1)]).run Tryz.prog w2 = .ok (.tuple #[]) w3) ∧ Visited base d M room N w p r x P i (unitsAt ks i) w3) ∨
      (e = .returned (.bool true) ∧ Visited base d M room N w p r x P i (unitsAt ks i) w2) from by
    intro e w2 hend
    rcases hend with ⟨a1, a2, rfl, g, hg⟩ | ⟨b1, rfl, g, hf, hg, hb, hy, hl, hxs⟩
    · refine .inl ⟨rfl, ?_, ?_, ?_⟩
      · exact fcell ((hg.block Q (by rw [hs1]; exact (Array.getElem?_eq_some_iff.1 hQ).1) (fun e => hoQ.1 (.inr (.inr ⟨x, hx, e⟩)))).trans hQ1) 0 _ rfl
      · exact fcell ((hg.block d h1.ltD (h1.notD hx).1).trans h1.box) 1 _ rfl
      · have hm2 : MapAt w2 M (ptrs (p ++ x :: r)) := h1.map.same (hg.block M h1.map.lt (h1.notM hx).1)
        obtain ⟨w3, hd, hm3, hg3, _⟩ := hm2.drop (h.rise.map (fun x : Nat × Fil => x.1)) (str x.1) (by rw [str_size]; simp only [maxLen]; omega) 0
        rw [str_list] at hm3
        obtain ⟨k1, k2⟩ := h1.lose hx hg hg3 hm3
        have e1 : delF x.1 (p ++ x :: r) = p ++ r := delF_mid (u := x.2) p r h.rise
        rw [e1] at k1 k2
        refine ⟨w3, fun _ => hd, ⟨?_, ?_, k2.os, k2.tape, k2.output, by have := k2.size; rw [hs1] at this; exact this, p, k1, ?_, ?_, ?_⟩⟩
        · exact (k2.block P (by rw [hs1]; exact (Array.getElem?_eq_some_iff.1 hP).1) hoP.1).trans hP1
        · intro g hlt hn hne
          exact (k2.block g (by rw [hs1]; exact hlt) hn).trans (heap_setCell_other _ ⟨P, 0, none⟩ g _ hne)
        · intro g hg'; have := k2.muts g hg'; rw [hs1] at this; exact this
        · intro g hg'; have := k2.reds g hg'; rw [hs1] at this; exact this
        · have e3 : crashOne (unitsAt ks i) (x.1, x.2.2.sp) = [] := if_pos ⟨a1, a2⟩
          rw [e3, List.append_nil]
    · refine .inr ⟨rfl, ?_⟩
      obtain ⟨k1, k2⟩ := h1.upd hx hf hg (hok.crashed (unitsAt ks i) hb hy hl hxs) (Nat.le_refl _)
      have e1 : putF x.1 (x.2.1, g) (p ++ x :: r) = p ++ (x.1, x.2.1, g) :: r := putF_mid (u := x.2) p r h.rise
      rw [e1] at k1 k2
      have e2 : p ++ (x.1, x.2.1, g) :: r = (p ++ [(x.1, x.2.1, g)]) ++ r := by simp
      rw [e2] at k1 k2
      refine ⟨?_, ?_, k2.os, k2.tape, k2.output, by have := k2.size; rw [hs1] at this; exact this, p ++ [(x.1, x.2.1, g)], k1, ?_, ?_, ?_⟩
      · exact (k2.block P (by rw [hs1]; exact (Array.getElem?_eq_some_iff.1 hP).1) hoP.1).trans hP1
      · intro g hlt hn hne
        exact (k2.block g (by rw [hs1]; exact hlt) hn).trans (heap_setCell_other _ ⟨P, 0, none⟩ g _ hne)
      · intro g hg'; have := k2.muts g hg'; rw [hs1] at this; exact this
      · intro g hg'; have := k2.reds g hg'; rw [hs1] at this; exact this
      · have e3 : crashOne (unitsAt ks i) (x.1, x.2.2.sp) = [(x.1, ⟨true, (crashL x.2.2.sp.cs x.2.2.sp.y (unitsAt ks i)).1, []⟩)] := if_neg b1
        rw [e3, sps, List.map_append]
        simp [Fil.sp, hl, hy, hxs])
  have q0 := fcell hP 0 (.int .i64 (i : Int)) rfl
  have qz := ffree hP 0
  have q1 := fcell hK 0 (.slice kp kn kc) rfl
  have hw : IntKind.i64.wrap ((i : Int) + 1) = ((i + 1 : Nat) : Int) := by rw [IntKind.wrap_i64]; omega
  have HI := hide hI
  have HKS := hide hks
  clear h h1 hbs hI hks hP1 hQ1 hs1 hoP hoQ hok hUle hnm hx hP hK hQ
  generalize unitsAt ks i = U at *
  generalize str x.1 = nm at *
  generalize x.2.1 = F at *
  by_cases hik : i < kn
  · have hi0 : (0 : Int) ≤ (i : Int) := by omega
    have hi1 : (i : Int) < (kn : Int) := by omega
    have hik2 : i < ks.length := by rw [unhide HKS]; exact hik
    obtain ⟨b, off, rfl, p0⟩ := (unhide HI).cell i hik2
    have hU2 : max ks[i] 0 = (U : Int) := by
      rw [← hU, List.getD_eq_getElem?_getD, List.getElem?_eq_getElem hik2]; rfl
    generalize ks[i] = kk at *
    clear hU
    go_enter Tryz.func73, Tryz.ntmps73
    go_wp2_with fail
    refine (unhide C1).mono ?_
    intro e w2 hend
    rcases unhide KE e w2 hend with ⟨rfl, r1, r2, w3, r3, r4⟩ | ⟨rfl, r4⟩
    · have R4 := hide r4
      clear r4 hend
      go_wp2
      go_end0
      exact ⟨rfl, unhide R4⟩
    · have R4 := hide r4
      clear r4 hend
      go_wp2
      go_end0
      exact ⟨rfl, unhide R4⟩
  · have hi1 : ¬ (i : Int) < (kn : Int) := by omega
    have hU2 : U = 0 := by
      rw [List.getD_eq_getElem?_getD, List.getElem?_eq_none (by rw [unhide HKS]; omega)] at hU
      simp at hU
      omega
    subst hU2
    clear hU
    go_enter Tryz.func73, Tryz.ntmps73
    go_wp2_with fail
    refine (unhide C1).mono ?_
    intro e w2 hend
    rcases unhide KE e w2 hend with ⟨rfl, r1, r2, w3, r3, r4⟩ | ⟨rfl, r4⟩
    · have R4 := hide r4
      clear r4 hend
      go_wp2
      go_end0
      exact ⟨rfl, unhide R4⟩
    · have R4 := hide r4
      clear r4 hend
      go_wp2
      go_end0
      exact ⟨rfl, unhide R4⟩
end
end Go.Proofs.YtijcpmbfhfppmaaGreatDoor
