/- A slice of ints that came in, as a list. -/
import Derived.Test.YtagncghpfdjkmaaGreatDoorB07
import Derived.Lib.SlBytesConst
section
namespace Go.Proofs.YtagncghpfdjkmaaGreatDoor
open Go.ChangeShapes Go.WideShapes Go.ChangeAt Go.RowKit

/-- The numbers of a slice as they lie in memory. -/
structure IntsAt (w : World) (a : Option Addr) (l : List Int) : Prop where
  bd : ∀ n ∈ l, -9223372036854775808 ≤ n ∧ n ≤ 9223372036854775807
  cell : ∀ i (hi : i < l.length), ∃ b off, a = some ⟨b, off, none⟩ ∧ w.cell? ⟨b, off + i, none⟩ = some (.int .i64 l[i])
theorem IntsAt.later {w w' : World} {a : Option Addr} {l : List Int} (h : IntsAt w a l) (hb : Below w.heap.size w w') : IntsAt w' a l :=
  ⟨h.bd, fun i hi => by obtain ⟨b, off, e, hc⟩ := h.cell i hi; exact ⟨b, off, e, cell_later hb hc⟩⟩
theorem row64 {H : Type} {enc : TypeId × Value → H} {W : World} {a : Option Addr} {len cap : Nat} {d : DataW H} {p : List MemPlace}
    (h : DataW.Trod enc Tryz.prog W 0 (fun _ => true) true 24 (.slice a len cap) d p) :
    ∃ l : List Int, l.length = len ∧ len ≤ maxLen ∧ IntsAt W a l := by
  obtain ⟨fuel, hf⟩ := h
  rcases open_ints Tryz.underlying24 Tryz.underlying3 (by kernel_rfl) hf with ⟨hcs, hx⟩ | ⟨x, l, c, zs, hcs, _, hl, hm, hz, hx, hcell, hwz⟩
  · simp [Value.cells] at hcs
    obtain ⟨rfl, rfl, rfl⟩ := hcs
    exact ⟨[], rfl, by simp [maxLen], ⟨by simp, by simp⟩⟩
  · simp [Value.cells] at hcs
    obtain ⟨rfl, rfl, rfl⟩ := hcs
    have hz' : zs.length = cap := by simpa using hz
    refine ⟨zs.take len, by rw [List.length_take]; omega, by omega, ⟨fun n hn => bounds_i64 (hwz n (List.mem_of_mem_take hn)), fun i hi => ?_⟩⟩
    rw [List.length_take] at hi
    have hiz : i < zs.length := by omega
    have hc := hcell i hiz
    obtain ⟨b, off, spot⟩ := x
    have hspot : spot = none := by simpa [Addr.add] using World.cell?_spot (hcell 0 (by omega))
    subst hspot
    refine ⟨b, off, rfl, ?_⟩
    rw [Addr.add_lit] at hc
    rw [hc, List.getElem_take, List.getD_eq_getElem?_getD, List.getElem?_eq_getElem hiz]
    rfl
end Go.Proofs.YtagncghpfdjkmaaGreatDoor
end
/- Disk: what a crash leaves. -/
section
namespace Go.Proofs.YtagncghpfdjkmaaGreatDoor
open Go.ChangeShapes Go.WideShapes Go.ChangeAt Go.RowKit Go.Maps

def unitsAt (ks : List Int) (i : Nat) : Nat := (ks.getD i 0).toNat
def crashOne (U : Nat) (x : Nm × Sp) : Ds := if x.2.la = false ∧ (crashL x.2.cs x.2.y U).2 = U then [] else [(x.1, ⟨true, (crashL x.2.cs x.2.y U).1, []⟩)]
def crashS (ks : List Int) : Nat → Ds → Ds
  | _, [] => []
  | i, x :: r => crashOne (unitsAt ks i) x ++ crashS ks (i + 1) r
theorem putF_mid {α : Type} {k : Nm} {u v : α} : ∀ (p r : List (Nm × α)), Rises (p ++ (k, u) :: r) → putF k v (p ++ (k, u) :: r) = p ++ (k, v) :: r
  | [], r, _ => by simp [putF, nm_irrefl]
  | x :: p, r, h => by
    have h1 := List.pairwise_cons.1 (show (x :: (p ++ (k, u) :: r)).Pairwise _ from h)
    have h2 : x.1 < k := h1.1 (k, u) (by simp)
    show putF k v (x :: (p ++ (k, u) :: r)) = _
    unfold putF
    rw [if_pos h2, putF_mid p r h1.2]
    rfl
theorem delF_mid {α : Type} {k : Nm} {u : α} (p r : List (Nm × α)) (h : Rises (p ++ (k, u) :: r)) : delF k (p ++ (k, u) :: r) = p ++ r := by
  have hn := h.nodup
  rw [List.map_append, List.map_cons] at hn
  have hp : ∀ x ∈ p, x.1 ≠ k := fun x hx e => by
    rw [List.nodup_append] at hn
    exact hn.2.2 x.1 (List.mem_map.2 ⟨x, hx, rfl⟩) k (by simp) e
  have hr : ∀ x ∈ r, x.1 ≠ k := fun x hx e => by
    rw [List.nodup_append] at hn
    have := (List.nodup_cons.1 hn.2.1).1
    exact this (List.mem_map.2 ⟨x, hx, e⟩)
  unfold delF
  rw [List.filter_append, List.filter_cons, if_neg (by simp)]
  rw [List.filter_eq_self.2 (fun x hx => by simpa using hp x hx), List.filter_eq_self.2 (fun x hx => by simpa using hr x hx)]
section
variable {base d M room N : Nat} {w w' w2 : World} {fs fs' : List Fe}
/-- Blocks of other kinds are none of its own. -/
theorem DiskAt.other (h : DiskAt base w d M room N fs) {g : Nat} {cs : Array Value} {T : TypeId} (hg : w.heap[g]? = some (.cells cs T (0, 0))) (h1 : T ≠ 126) (h2 : T ≠ 5) (h3 : T ≠ 164) (h4 : T ≠ 105) : ¬ DMut d M fs g ∧ ¬ DRed fs g := by
  constructor
  · rintro (rfl | rfl | ⟨x, hx, hm⟩)
    · rw [h.box] at hg; simp only [Option.some.injEq, Obj.cells.injEq] at hg; exact h4 hg.2.1.symm
    · obtain ⟨es, k, hm⟩ := h.map.isMap
      rw [hm] at hg; simp at hg
    · obtain ⟨cur, T', hc, hT⟩ := (h.file x hx).mut_is hm
      rw [hc] at hg
      simp only [Option.some.injEq, Obj.cells.injEq] at hg
      rw [hg.2.1] at hT
      rcases hT with e | e | e
      · exact h1 e
      · exact h2 e
      · exact h3 e
  · rintro ⟨x, hx, hm⟩
    obtain ⟨_, _, cur, hc⟩ := (h.file x hx).red_lt hm
    rw [hc] at hg
    simp only [Option.some.injEq, Obj.cells.injEq] at hg
    exact h2 hg.2.1.symm
/-- A file is taken away behind a call on it. -/
theorem DiskAt.lose (h : DiskAt base w d M room N fs) {x : Fe} (hx : x ∈ fs) {f' : Fil} (hg : FGrew x.2.1 w x.2.2 w' f') (hgr : w'.grownBy w2 (some M)) (hm : MapAt w2 M (delF x.1 (ptrs fs))) :
    DiskAt base w2 d M room N (delF x.1 fs) ∧ DGrew d M w fs w2 (delF x.1 fs) := by
  have hk : ∀ g, g < w.heap.size → ¬ x.mut g → g ≠ M → w2.heap[g]? = w.heap[g]? := fun g hlt h1 h2 => (hgr.block g (Nat.lt_of_lt_of_le hlt hg.size) (fun e => h2 (Option.some.inj e))).trans (hg.block g hlt h1)
  have hmem := fun (y : Fe) => mem_delF (k := x.1) (fs := fs) y
  refine ⟨⟨(hk d h.ltD (h.notD hx).1 h.dm).trans h.box, by rw [ptrs_del]; exact hm, h.rise.del _, ?_, fun y hy => h.ok y ((hmem y).1 hy).1, h.lowD, h.lowM, fun y hy z hz => h.ap y ((hmem y).1 hy).1 z ((hmem z).1 hz).1, fun y hy z hz => h.rd y ((hmem y).1 hy).1 z ((hmem z).1 hz).1, Nat.le_trans (List.length_filter_le _ _) h.few, fun y hy => h.names y ((hmem y).1 hy).1⟩,
    ⟨hgr.os.trans hg.os, hgr.tape.trans hg.tape, hgr.output.trans hg.output, Nat.le_trans hg.size hgr.size, fun i hi hn => hk i hi (fun e => hn (.inr (.inr ⟨x, hx, e⟩))) (fun e => hn (.inr (.inl e))), ?_, ?_⟩⟩
  · intro y hy
    obtain ⟨hy, hne⟩ := (hmem y).1 hy
    refine (h.file y hy).same (fun g hgy => ?_)
    rcases hgy with hgy | hgy
    · exact hk g ((h.file y hy).mut_lt hgy).2 (fun e => h.ap y hy x hx hne g hgy e) (fun e => (h.notM hy).1 (e ▸ hgy))
    · exact hk g ((h.file y hy).red_lt hgy).2.1 (fun e => h.rd x hx y hy g e hgy) (fun e => (h.notM hy).2 (e ▸ hgy))
  · rintro g (e | e | ⟨y, hy, hm⟩)
    · exact .inl (.inl e)
    · exact .inl (.inr (.inl e))
    · exact .inl (.inr (.inr ⟨y, ((hmem y).1 hy).1, hm⟩))
  · rintro g ⟨y, hy, hm⟩
    exact .inl ⟨y, ((hmem y).1 hy).1, hm⟩
theorem enter_crash (c : Array Value) (w : World) : (callFunc 78 c).run Tryz.prog w = .ok (.enter 78 c) w := by
  simp [callFunc, go_sem, Tryz.func78]
  rw [if_neg (by decide +kernel), if_neg (fun h => by cases h)]
/-- What the visit of a file leaves. -/
structure Visited (base d M room N : Nat) (w : World) (p r : List Fe) (x : Fe) (P i U : Nat) (w' : World) : Prop where
  cnt : w'.heap[P]? = some (.cells #[.int .i64 ((i + 1 : Nat) : Int)] 3 (0, 0))
  same : ∀ g, g < w.heap.size → ¬ DMut d M (p ++ x :: r) g → g ≠ P → w'.heap[g]? = w.heap[g]?
  os : w'.os = w.os
  tape : w'.tape = w.tape
  output : w'.output = w.output
  size : w.heap.size ≤ w'.heap.size
  left : ∃ p', DiskAt base w' d M room N (p' ++ r) ∧ (∀ g, DMut d M (p' ++ r) g → DMut d M (p ++ x :: r) g ∨ w.heap.size ≤ g) ∧ (∀ g, DRed (p' ++ r) g → DRed (p ++ x :: r) g ∨ w.heap.size ≤ g) ∧ sps p' = sps p ++ crashOne U (x.1, x.2.2.sp)
set_option maxRecDepth 20000 in
set_option maxHeartbeats 40000000 in
theorem crash1_calls (p r : List Fe) (x : Fe) (h : DiskAt base w d M room N (p ++ x :: r)) (hbs : base ≤ w.heap.size) (hN : N ≤ 1000000) (P K Q i : Nat) (hi : i ≤ 1000) (hP : w.heap[P]? = some (.cells #[.int .i64 (i : Int)] 3 (0, 0)))
    (kp : Option Addr) (kn kc : Nat) (hK : w.heap[K]? = some (.cells #[.slice kp kn kc] 24 (0, 0))) (hQ : w.heap[Q]? = some (.cells #[.pointer (some ⟨d, 0, none⟩)] 45 (0, 0))) (ks : List Int) (hks : ks.length = kn) (hI : IntsAt w kp ks) :
    Calls Tryz.prog 78 #[.string (str x.1), .pointer (some ⟨x.2.1, 0, none⟩), .pointer (some ⟨P, 0, none⟩), .pointer (some ⟨K, 0, none⟩), .pointer (some ⟨Q, 0, none⟩)] w fun e w' => e = .returned (.tuple #[]) ∧ Visited base d M room N w p r x P i (unitsAt ks i) w' := by
  have hx : x ∈ p ++ x :: r := by simp
  have hoP := h.other hP (by decide) (by decide) (by decide) (by decide)
  have hoQ := h.other hQ (by decide) (by decide) (by decide) (by decide)
  have hPQ : P ≠ Q := fun e => by rw [e, hQ] at hP; simp at hP
  have h1 : DiskAt base (w.setCell ⟨P, 0, none⟩ (.int .i64 ((i + 1 : Nat) : Int))) d M room N (p ++ x :: r) := h.same (fun g hlt hg => heap_setCell_other _ ⟨P, 0, none⟩ g _ (fun e => by
    have e2 : g = P := e
    rw [e2] at hg
    exact hg.elim hoP.1 hoP.2))
  have hs1 : (w.setCell ⟨P, 0, none⟩ (.int .i64 ((i + 1 : Nat) : Int))).heap.size = w.heap.size := by simp [World.setCell]
  have hP1 := heap_setCell_same w P 0 #[.int .i64 (i : Int)] 3 (.int .i64 ((i + 1 : Nat) : Int)) hP
  have hQ1 : (w.setCell ⟨P, 0, none⟩ (.int .i64 ((i + 1 : Nat) : Int))).heap[Q]? = some (.cells #[.pointer (some ⟨d, 0, none⟩)] 45 (0, 0)) := (heap_setCell_other _ ⟨P, 0, none⟩ Q _ (fun e => hPQ e.symm)).trans hQ
  have hUle : unitsAt ks i ≤ 9223372036854775807 := by
    unfold unitsAt
    by_cases hik : i < ks.length
    · rw [List.getD_eq_getElem?_getD, List.getElem?_eq_getElem hik]
      have := hI.bd _ (List.getElem_mem hik)
      simp only [Option.getD_some]
      omega
    · rw [List.getD_eq_getElem?_getD, List.getElem?_eq_none (by omega)]; simp
  have hok := h.ok x hx
  have C1 := hide (crash_calls base (w.setCell ⟨P, 0, none⟩ (.int .i64 ((i + 1 : Nat) : Int))) x.2.1 x.2.2 (h1.file x hx) (unitsAt ks i) hUle (by have := hok.few; omega) hok.fit (by have := hok.y8; omega) (by rw [hs1]; exact hbs))
  have hU : max (ks.getD i 0) 0 = ((unitsAt ks i : Nat) : Int) := by unfold unitsAt; omega
  have hnm := h.names x hx
  have KE := hide (show ∀ e w2, CrashEnd base (w.setCell ⟨P, 0, none⟩ (.int .i64 ((i + 1 : Nat) : Int))) x.2.1 x.2.2 (unitsAt ks i) e w2 →
      (e = .returned (.bool false) ∧ w2.cell? ⟨Q, 0, none⟩ = some (.pointer (some ⟨d, 0, none⟩)) ∧ w2.cell? ⟨d, 1, none⟩ = some (.map (some M)) ∧ ∃ w3, (∀ ty, (Builtin.delete_ #[103, 9] ty #[.map (some M), .string (str x.1)]).run Tryz.prog w2 = .ok (.tuple #[]) w3) ∧ Visited base d M room N w p r x P i (unitsAt ks i) w3) ∨
      (e = .returned (.bool true) ∧ Visited base d M room N w p r x P i (unitsAt ks i) w2) from by
    intro e w2 hend
    rcases hend with ⟨a1, a2, rfl, g, hg⟩ | ⟨b1, rfl, g, hf, hg, hb, hy, hl, hxs⟩
    · refine .inl ⟨rfl, ?_, ?_, ?_⟩
      · exact fcell ((hg.block Q (by rw [hs1]; exact (Array.getElem?_eq_some_iff.1 hQ).1) (fun e => hoQ.1 (.inr (.inr ⟨x, hx, e⟩)))).trans hQ1) 0 _ rfl
      · exact fcell ((hg.block d h1.ltD (h1.notD hx).1).trans h1.box) 1 _ rfl
      · have hm2 : MapAt w2 M (ptrs (p ++ x :: r)) := h1.map.same (hg.block M h1.map.lt (h1.notM hx).1)
        obtain ⟨w3, hd, hm3, hg3, _⟩ := hm2.drop (h.rise.map (fun x : Nat × Fil => x.1)) (str x.1) (by rw [str_size]; simp only [maxLen]; omega) 0
        rw [str_list] at hm3
        obtain ⟨k1, k2⟩ := h1.lose hx hg hg3 hm3
        have e1 : delF x.1 (p ++ x :: r) = p ++ r := delF_mid (u := x.2) p r h.rise
        rw [e1] at k1 k2
        refine ⟨w3, fun _ => hd, ⟨?_, ?_, k2.os, k2.tape, k2.output, by have := k2.size; rw [hs1] at this; exact this, p, k1, ?_, ?_, ?_⟩⟩
        · exact (k2.block P (by rw [hs1]; exact (Array.getElem?_eq_some_iff.1 hP).1) hoP.1).trans hP1
        · intro g hlt hn hne
          exact (k2.block g (by rw [hs1]; exact hlt) hn).trans (heap_setCell_other _ ⟨P, 0, none⟩ g _ hne)
        · intro g hg'; have := k2.muts g hg'; rw [hs1] at this; exact this
        · intro g hg'; have := k2.reds g hg'; rw [hs1] at this; exact this
        · have e3 : crashOne (unitsAt ks i) (x.1, x.2.2.sp) = [] := if_pos ⟨a1, a2⟩
          rw [e3, List.append_nil]
    · refine .inr ⟨rfl, ?_⟩
      obtain ⟨k1, k2⟩ := h1.upd hx hf hg (hok.crashed (unitsAt ks i) hb hy hl hxs) (Nat.le_refl _)
      have e1 : putF x.1 (x.2.1, g) (p ++ x :: r) = p ++ (x.1, x.2.1, g) :: r := putF_mid (u := x.2) p r h.rise
      rw [e1] at k1 k2
      have e2 : p ++ (x.1, x.2.1, g) :: r = (p ++ [(x.1, x.2.1, g)]) ++ r := by simp
      rw [e2] at k1 k2
      refine ⟨?_, ?_, k2.os, k2.tape, k2.output, by have := k2.size; rw [hs1] at this; exact this, p ++ [(x.1, x.2.1, g)], k1, ?_, ?_, ?_⟩
      · exact (k2.block P (by rw [hs1]; exact (Array.getElem?_eq_some_iff.1 hP).1) hoP.1).trans hP1
      · intro g hlt hn hne
        exact (k2.block g (by rw [hs1]; exact hlt) hn).trans (heap_setCell_other _ ⟨P, 0, none⟩ g _ hne)
      · intro g hg'; have := k2.muts g hg'; rw [hs1] at this; exact this
      · intro g hg'; have := k2.reds g hg'; rw [hs1] at this; exact this
      · have e3 : crashOne (unitsAt ks i) (x.1, x.2.2.sp) = [(x.1, ⟨true, (crashL x.2.2.sp.cs x.2.2.sp.y (unitsAt ks i)).1, []⟩)] := if_neg b1
        rw [e3, sps, List.map_append]
        simp [Fil.sp, hl, hy, hxs])
  have q0 := fcell hP 0 (.int .i64 (i : Int)) rfl
  have qz := ffree hP 0
  have q1 := fcell hK 0 (.slice kp kn kc) rfl
  have hw : IntKind.i64.wrap ((i : Int) + 1) = ((i + 1 : Nat) : Int) := by rw [IntKind.wrap_i64]; omega
  have HI := hide hI
  have HKS := hide hks
  clear h h1 hbs hI hks hP1 hQ1 hs1 hoP hoQ hok hUle hnm hx hP hK hQ
  generalize unitsAt ks i = U at *
  generalize str x.1 = nm at *
  generalize x.2.1 = F at *
  by_cases hik : i < kn
  · have hi0 : (0 : Int) ≤ (i : Int) := by omega
    have hi1 : (i : Int) < (kn : Int) := by omega
    have hik2 : i < ks.length := by rw [unhide HKS]; exact hik
    obtain ⟨b, off, rfl, p0⟩ := (unhide HI).cell i hik2
    have hU2 : max ks[i] 0 = (U : Int) := by
      rw [← hU, List.getD_eq_getElem?_getD, List.getElem?_eq_getElem hik2]; rfl
    generalize ks[i] = kk at *
    clear hU
    go_enter Tryz.func78, Tryz.ntmps78
    go_wp2_with fail
    refine (unhide C1).mono ?_
    intro e w2 hend
    rcases unhide KE e w2 hend with ⟨rfl, r1, r2, w3, r3, r4⟩ | ⟨rfl, r4⟩
    · have R4 := hide r4
      clear r4 hend
      go_wp2
      go_end0
      exact ⟨rfl, unhide R4⟩
    · have R4 := hide r4
      clear r4 hend
      go_wp2
      go_end0
      exact ⟨rfl, unhide R4⟩
  · have hi1 : ¬ (i : Int) < (kn : Int) := by omega
    have hU2 : U = 0 := by
      rw [List.getD_eq_getElem?_getD, List.getElem?_eq_none (by rw [unhide HKS]; omega)] at hU
      simp at hU
      omega
    subst hU2
    clear hU
    go_enter Tryz.func78, Tryz.ntmps78
    go_wp2_with fail
    refine (unhide C1).mono ?_
    intro e w2 hend
    rcases unhide KE e w2 hend with ⟨rfl, r1, r2, w3, r3, r4⟩ | ⟨rfl, r4⟩
    · have R4 := hide r4
      clear r4 hend
      go_wp2
      go_end0
      exact ⟨rfl, unhide R4⟩
    · have R4 := hide r4
      clear r4 hend
      go_wp2
      go_end0
      exact ⟨rfl, unhide R4⟩
end
end Go.Proofs.YtagncghpfdjkmaaGreatDoor
end
/- Disk: Crash. -/
section
namespace Go.Proofs.YtagncghpfdjkmaaGreatDoor
open Go.ChangeShapes Go.WideShapes Go.ChangeAt Go.RowKit Go.Maps

section
variable {base d M room N : Nat} {w w' w2 : World} {fs fs' : List Fe}
theorem IntsAt.same {w w' : World} {a : Option Addr} {l : List Int} (h : IntsAt w a l) (hs : ∀ b off, a = some ⟨b, off, none⟩ → 0 < l.length → w'.heap[b]? = w.heap[b]?) : IntsAt w' a l :=
  ⟨h.bd, fun i hi => by
    obtain ⟨b, off, e, hc⟩ := h.cell i hi
    exact ⟨b, off, e, by rw [World.cell?_of_block (w := w) (w' := w') (hs b off e (by omega))]; exact hc⟩⟩
set_option maxRecDepth 20000 in
set_option maxHeartbeats 4000000 in
theorem dcrash_calls (h : DiskAt base w d M room N fs) (hbs : base ≤ w.heap.size) (hN : N ≤ 1000000) (kp : Option Addr) (kn kc : Nat) (ks : List Int) (hks : ks.length = kn) (hI : IntsAt w kp ks) (hne : ∀ b off, kp = some ⟨b, off, none⟩ → 0 < ks.length → ¬ DMut d M fs b) :
    Calls Tryz.prog 26 #[.pointer (some ⟨d, 0, none⟩), .slice kp kn kc] w fun e w' => e = .returned (.tuple #[]) ∧ ∃ fs', DiskAt base w' d M room N fs' ∧ DGrew d M w fs w' fs' ∧ sps fs' = crashS ks 0 (sps fs) := by
  have b1 : Below w.heap.size w (w.alloc (.cells #[.pointer (some ⟨d, 0, none⟩)] 45)) := (Below.refl _ _).alloc (Nat.le_refl _) _
  have b2 : Below w.heap.size w ((w.alloc (.cells #[.pointer (some ⟨d, 0, none⟩)] 45)).alloc (.cells #[.slice kp kn kc] 24)) := b1.alloc b1.size _
  have b3 : Below w.heap.size w (((w.alloc (.cells #[.pointer (some ⟨d, 0, none⟩)] 45)).alloc (.cells #[.slice kp kn kc] 24)).alloc (.cells #[.int .i64 0] 3)) := b2.alloc b2.size _
  have s1 : (w.alloc (.cells #[.pointer (some ⟨d, 0, none⟩)] 45)).heap.size = w.heap.size + 1 := by simp
  have s2 : ((w.alloc (.cells #[.pointer (some ⟨d, 0, none⟩)] 45)).alloc (.cells #[.slice kp kn kc] 24)).heap.size = w.heap.size + 2 := by simp
  have s3 : (((w.alloc (.cells #[.pointer (some ⟨d, 0, none⟩)] 45)).alloc (.cells #[.slice kp kn kc] 24)).alloc (.cells #[.int .i64 0] 3)).heap.size = w.heap.size + 3 := by simp
  have hQ : (((w.alloc (.cells #[.pointer (some ⟨d, 0, none⟩)] 45)).alloc (.cells #[.slice kp kn kc] 24)).alloc (.cells #[.int .i64 0] 3)).heap[w.heap.size]? = some (.cells #[.pointer (some ⟨d, 0, none⟩)] 45 (0, 0)) := by
    rw [Below.heap_alloc _ _ _ (by omega), Below.heap_alloc _ _ _ (by omega)]; exact heap_new _ _
  have hK : (((w.alloc (.cells #[.pointer (some ⟨d, 0, none⟩)] 45)).alloc (.cells #[.slice kp kn kc] 24)).alloc (.cells #[.int .i64 0] 3)).heap[w.heap.size + 1]? = some (.cells #[.slice kp kn kc] 24 (0, 0)) := by
    rw [Below.heap_alloc _ _ _ (by omega), ← s1]; exact heap_new _ _
  have hP : (((w.alloc (.cells #[.pointer (some ⟨d, 0, none⟩)] 45)).alloc (.cells #[.slice kp kn kc] 24)).alloc (.cells #[.int .i64 0] 3)).heap[w.heap.size + 2]? = some (.cells #[.int .i64 0] 3 (0, 0)) := by
    rw [← s2]; exact heap_new _ _
  have hlow : ∀ g, DMut d M fs g ∨ DRed fs g → g < w.heap.size := fun g hg => hg.elim (fun hh => (h.mut_lt hh).2) (fun hh => (h.red_lt hh).2)
  have EC := hide (show ∀ W3 : World, Below w.heap.size w W3 → W3.heap.size = w.heap.size + 3 → W3.heap[w.heap.size]? = some (.cells #[.pointer (some ⟨d, 0, none⟩)] 45 (0, 0)) → W3.heap[w.heap.size + 1]? = some (.cells #[.slice kp kn kc] 24 (0, 0)) → W3.heap[w.heap.size + 2]? = some (.cells #[.int .i64 0] 3 (0, 0)) →
      Calls Tryz.prog 77 #[.pointer (some ⟨d, 0, none⟩), .func (.func 78) #[] #[.pointer (some ⟨w.heap.size + 2, 0, none⟩), .pointer (some ⟨w.heap.size + 1, 0, none⟩), .pointer (some ⟨w.heap.size, 0, none⟩)]] W3 fun e w' => e = .returned (.tuple #[]) ∧ ∃ fs', DiskAt base w' d M room N fs' ∧ DGrew d M w fs w' fs' ∧ sps fs' = crashS ks 0 (sps fs) from fun W3 b3 s3 hQ hK hP =>
    each_calls base d M room N W3 fs (h.later b3) 78 _ enter_crash
    (fun w' => ∃ fs', DiskAt base w' d M room N fs' ∧ DGrew d M w fs w' fs' ∧ sps fs' = crashS ks 0 (sps fs)) (fun W0 hb => by
      have hb0 : Below w.heap.size w W0 := b3.trans (hb.mono b3.size)
      have hW0 : w.heap.size + 3 ≤ W0.heap.size := by have := hb.size; omega
      refine ⟨fun i w1 => ∃ p', DiskAt base w1 d M room N (p' ++ fs.drop i) ∧ sps p' ++ crashS ks i (sps (fs.drop i)) = crashS ks 0 (sps fs) ∧ (∀ g, DMut d M (p' ++ fs.drop i) g → DMut d M fs g ∨ W0.heap.size ≤ g) ∧ (∀ g, DRed (p' ++ fs.drop i) g → DRed fs g ∨ W0.heap.size ≤ g) ∧ w1.heap[w.heap.size + 2]? = some (.cells #[.int .i64 (i : Int)] 3 (0, 0)) ∧ (∀ g, g < W0.heap.size → ¬ DMut d M fs g → g ≠ w.heap.size + 2 → w1.heap[g]? = W0.heap[g]?) ∧ (w1.os = W0.os ∧ w1.tape = W0.tape ∧ w1.output = W0.output ∧ W0.heap.size ≤ w1.heap.size), ?_, ?_, ?_, ?_⟩
      · refine ⟨[], h.later hb0, by simp [sps], fun g hg => .inl hg, fun g hg => .inl hg, ?_, fun g _ _ _ => rfl, rfl, rfl, rfl, Nat.le_refl _⟩
        rw [hb.block _ (by omega)]; exact hP
      · rintro i w1 ⟨p', _, _, _, _, _, hs, _⟩ g hg1 hg2
        exact hs g hg2 (fun hm => by have := hlow g (.inl hm); omega) (by omega)
      · rintro i hi w1 ⟨p', hd, hsp, hmu, hre, hP1, hs, ho, ht, hou, hsz⟩
        have hdrop : fs.drop i = fs[i] :: fs.drop (i + 1) := List.drop_eq_getElem_cons hi
        rw [hdrop] at hd hsp hmu hre
        have hx : fs[i] ∈ p' ++ fs[i] :: fs.drop (i + 1) := List.mem_append_right _ List.mem_cons_self
        have hnm := hd.names _ hx
        refine ⟨hd.c1, (hd.map.look_yes (str fs[i].1) (by rw [str_size]; simp only [maxLen]; omega) fs[i].2.1 (List.mem_map.2 ⟨fs[i], hx, rfl⟩)).2, ?_⟩
        have hsame : ∀ g, w.heap.size ≤ g → g < w.heap.size + 2 → w1.heap[g]? = W3.heap[g]? := fun g h1 h2 => (hs g (by omega) (fun hm => by have := hlow g (.inl hm); omega) (by omega)).trans (hb.block g (by omega))
        have hi16 := h.few
        refine (crash1_calls p' (fs.drop (i + 1)) fs[i] hd (Nat.le_trans hbs (Nat.le_trans hb0.size hsz)) hN (w.heap.size + 2) (w.heap.size + 1) w.heap.size i (by omega) hP1 kp kn kc ((hsame _ (by omega) (by omega)).trans hK) ((hsame _ (by omega) (by omega)).trans hQ) ks hks (hI.same (fun b off e h0 => ?_))).mono ?_
        · have hbl : b < w.heap.size := by
            obtain ⟨b', off', e1, e2⟩ := hI.cell 0 h0
            rw [e1] at e
            have hbb : b' = b := by simpa using congrArg (fun x => x.map Addr.block) e
            have := World.block_lt_of_cell? _ _ e2
            simp only at this
            omega
          exact (hs b (Nat.lt_of_lt_of_le hbl hb0.size) (hne b off e h0) (by omega)).trans (hb0.block b hbl)
        · rintro e w2 ⟨rfl, hv⟩
          refine ⟨rfl, ?_⟩
          obtain ⟨p2, k1, k2, k3, k4⟩ := hv.left
          refine ⟨p2, k1, ?_, fun g hg => ?_, fun g hg => ?_, hv.cnt, fun g h1 h2 h3 => ?_, hv.os.trans ho, hv.tape.trans ht, hv.output.trans hou, Nat.le_trans hsz hv.size⟩
          · rw [k4, List.append_assoc, ← hsp]
            rfl
          · rcases k2 g hg with h1 | h1
            · exact hmu g h1
            · exact .inr (Nat.le_trans hsz h1)
          · rcases k3 g hg with h1 | h1
            · exact hre g h1
            · exact .inr (Nat.le_trans hsz h1)
          · refine (hv.same g (Nat.lt_of_lt_of_le h1 hsz) (fun hm => ?_) h3).trans (hs g h1 h2 h3)
            rcases hmu g hm with h4 | h4
            · exact h2 h4
            · omega
      · rintro w1 ⟨p', hd, hsp, hmu, hre, hP1, hs, ho, ht, hou, hsz⟩
        rw [List.drop_length, List.append_nil] at hd hmu hre
        rw [List.drop_length] at hsp
        refine ⟨p', hd, ⟨ho.trans hb0.os, ht.trans hb0.tape, hou.trans hb0.output, Nat.le_trans hb0.size hsz, fun g hg hn => ?_, fun g hg => (hmu g hg).imp id (Nat.le_trans hb0.size), fun g hg => (hre g hg).imp id (Nat.le_trans hb0.size)⟩, ?_⟩
        · exact (hs g (Nat.lt_of_lt_of_le hg hb0.size) hn (by omega)).trans (hb0.block g hg)
        · rw [← hsp]
          show sps p' = sps p' ++ crashS ks fs.length (sps [])
          rw [show sps [] = [] from rfl, crashS, List.append_nil]))
  have EC2 := hide (unhide EC _ b3 s3 hQ hK hP)
  clear EC h hbs hI hne b1 b2 b3 s1 s2 s3 hQ hK hP hlow
  go_enter Tryz.func26, Tryz.ntmps26
  go_wp2_with (go_at_call 77; refine (unhide EC2).mono ?_; rintro e W ⟨rfl, hE⟩; have HE := hide hE; clear hE)
  go_end0
  exact ⟨rfl, unhide HE⟩
end
end Go.Proofs.YtagncghpfdjkmaaGreatDoor
end
/- Disk: what must be whatever is asked (live). -/
section
namespace Go.Proofs.YtagncghpfdjkmaaGreatDoor
open Go.ChangeShapes Go.WideShapes Go.ChangeAt Go.RowKit Go.Maps

theorem DGrew.below {base d M room N : Nat} {w w' : World} {fs fs' : List Fe} (h : DiskAt base w d M room N fs) (hbs : base ≤ w.heap.size) (hg : DGrew d M w fs w' fs') : Below base w w' :=
  ⟨hg.os, hg.tape, hg.output, hg.size, fun i hi => hg.block i (by omega) (fun hm => by have := (h.mut_lt hm).1; omega)⟩
theorem lit_bytes (W : World) (l : List Nat) (fr : Nat × Nat) (hl : ∀ c ∈ l, c < 256) : BytesAt (W.alloc (.cells (l.map byteV).toArray 5 fr)) (some ⟨W.heap.size, 0, none⟩) l := by
  refine ⟨hl, fun i hi => ⟨W.heap.size, 0, rfl, ?_⟩⟩
  rw [cell_of_row _ _ _ _ _ _ (heap_new W _), Nat.zero_add]
  simp [hi]
  rfl
theorem lit_ints (W : World) (l : List Int) (hl : ∀ n ∈ l, -9223372036854775808 ≤ n ∧ n ≤ 9223372036854775807) : IntsAt (W.alloc (.cells (l.map (Value.int .i64)).toArray 3)) (some ⟨W.heap.size, 0, none⟩) l := by
  refine ⟨hl, fun i hi => ⟨W.heap.size, 0, rfl, ?_⟩⟩
  rw [cell_of_row _ _ _ _ _ _ (heap_new W _), Nat.zero_add]
  simp [hi]
theorem new_ne {base d M room N : Nat} {W : World} {fs : List Fe} (h : DiskAt base W d M room N fs) (n : Nat) : ∀ b off, some (⟨W.heap.size, 0, none⟩ : Addr) = some ⟨b, off, none⟩ → 0 < n → ¬ DMut d M fs b := by
  intro b off e _ hm
  have h1 := (h.mut_lt hm).2
  simp only [Option.some.injEq, Addr.mk.injEq] at e
  omega
theorem sm {s : ByteArray} (h : s.size ≤ 1000) : s.size ≤ maxLen := by simp only [maxLen]; omega
def L1 : Ds := [([97], ⟨false, [], [(false, 0, [120, 121, 122])]⟩)]
def L2 : Ds := [([97], ⟨true, [120, 121, 122], []⟩)]
def L3 : Ds := [([97], ⟨true, [120, 121, 122], [(false, 1, [112, 113])]⟩)]
def L4 : Ds := [([97], ⟨true, [120, 121, 122], [(false, 1, [112, 113])]⟩), ([98], ⟨false, [], [(false, 0, [120])]⟩)]
def L5 : Ds := [([97], ⟨true, [120, 112, 122], []⟩)]
end Go.Proofs.YtagncghpfdjkmaaGreatDoor
end
/- Disk: contracts over what a disk is by the document. -/
section
namespace Go.Proofs.YtagncghpfdjkmaaGreatDoor
open Go.ChangeShapes Go.WideShapes Go.ChangeAt Go.RowKit Go.Maps

/-- A disk in memory, from a block on, by the document. -/
structure Dv (base : Nat) (w : World) (d M room N : Nat) (ss : Ds) : Prop where
  le : base ≤ w.heap.size
  few : N ≤ 1000000
  at_ : ∃ fs, DiskAt base w d M room N fs ∧ sps fs = ss
section
variable {base d M room N : Nat} {w w' : World} {ss : Ds}
theorem Dv.later (h : Dv base w d M room N ss) (hb : Below w.heap.size w w') : Dv base w' d M room N ss := by
  obtain ⟨fs, h1, h2⟩ := h.at_
  exact ⟨Nat.le_trans h.le hb.size, h.few, fs, h1.later hb, h2⟩
theorem Dv.drew (h : Dv base w d M room N ss) : Dv base w.drew d M room N ss := by
  obtain ⟨fs, h1, h2⟩ := h.at_
  exact ⟨h.le, h.few, fs, h1.drew, h2⟩
theorem Dv.mono {N' : Nat} (h : Dv base w d M room N ss) (hN : N ≤ N') (hf : N' ≤ 1000000) : Dv base w d M room N' ss := by
  obtain ⟨fs, h1, h2⟩ := h.at_
  exact ⟨h.le, hf, fs, h1.mono hN, h2⟩
theorem Dv.rise (h : Dv base w d M room N ss) : Rises ss := by
  obtain ⟨fs, h1, rfl⟩ := h.at_
  exact h1.riseS
/-- How a call ends. -/
def VEnd (base d M room N : Nat) (w : World) (r : Nat × Ds) (e : Ending) (w' : World) : Prop := e = .returned (.int .i64 (r.1 : Int)) ∧ Dv base w' d M room N r.2 ∧ Below base w w'
theorem VEnd.of {r : Nat × Ds} {e : Ending} {fs : List Fe} (h : DiskAt base w d M room N fs) (hb : base ≤ w.heap.size) {N' : Nat} (hN : N' ≤ 1000000) (hE : DEnd base d M room N' w fs r e w') : VEnd base d M room N' w r e w' := by
  obtain ⟨he, fs', h1, hg, hs⟩ := hE
  exact ⟨he, ⟨Nat.le_trans hb hg.size, hN, fs', h1, hs⟩, DGrew.below h hb hg⟩
/-- A list that the law itself has just made may be handed in too. -/
theorem vcrash_new (h : Dv base w d M room N ss) (ks : List Int) (hks : ∀ n ∈ ks, -9223372036854775808 ≤ n ∧ n ≤ 9223372036854775807) (n c : Nat) (hn : ks.length = n) :
    Calls Tryz.prog 26 #[.pointer (some ⟨d, 0, none⟩), .slice (some ⟨w.heap.size, 0, none⟩) n c] (w.alloc (.cells (ks.map (Value.int .i64)).toArray 3)) fun e w' => e = .returned (.tuple #[]) ∧ Dv base w' d M room N (crashS ks 0 ss) ∧ Below base w w' := by
  obtain ⟨fs, h1, rfl⟩ := h.at_
  have b1 : Below w.heap.size w (w.alloc (.cells (ks.map (Value.int .i64)).toArray 3)) := (Below.refl _ _).alloc (Nat.le_refl _) _
  have hle := Nat.le_trans h.le b1.size
  refine (dcrash_calls (h1.later b1) hle h.few _ n c ks hn (lit_ints w ks hks) (new_ne h1 _)).mono ?_
  rintro e W ⟨rfl, fs', h2, hg, hs⟩
  exact ⟨rfl, ⟨Nat.le_trans hle hg.size, h.few, fs', h2, hs⟩, (b1.mono h.le).trans (DGrew.below (h1.later b1) hle hg)⟩
end
/-! What a new file is. -/
theorem wrote_now (s : Sp) (z : Nat) (o : List Nat) : (wrote s z o).now = overL s.now z o := by
  unfold wrote
  split
  · rename_i h
    rw [List.eq_nil_of_length_eq_zero h, overL_nil]
  · show nowC (s.cs ++ [(false, z, o)]) s.y = _
    rw [nowC_snoc]
    simp only [ontoC, unitsC, Bool.false_eq_true, if_false, List.take_length]
    rfl
theorem over_nil (o : List Nat) : overL [] 0 o = o := by simp [overL]
theorem wrote0_now (o : List Nat) : (wrote sp0 0 o).now = o := (wrote_now _ _ _).trans (over_nil o)
theorem dWrite_new (room : Nat) (k : Nm) (hk : nameL k = true) (o : List Nat) (ss : Ds) (hg : getS k ss = none) (hl : ss.length < 16) (ho : o.length ≤ 262144) (hu : usedS ss + o.length ≤ room) : dWrite room k 0 o ss = (0, putF k (wrote sp0 0 o) ss) := by
  have e0 : sp0.now = [] := rfl
  unfold dWrite
  rw [hg, if_neg (by simp [hk])]
  simp only [Option.getD_none, e0, List.length_nil, Option.isNone_none, true_and]
  rw [if_neg (by omega), if_neg (by omega), if_neg (by omega)]
  rfl
theorem crashS_first (ks : List Int) (i : Nat) (k : Nm) (y : List Nat) (r : Ds) : crashS ks i ((k, ⟨true, y, []⟩) :: r) = (k, ⟨true, y, []⟩) :: crashS ks (i + 1) r := by
  simp [crashS, crashOne, crashL]
end Go.Proofs.YtagncghpfdjkmaaGreatDoor
end
