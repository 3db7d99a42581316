/- SnapWhole, plainly: what a crash leaves, and what Load and Save make of it. -/
import Derived.Test.YtagncghpfdjkmaaGreatDoorB26
import Derived.Test.YtagncghpfdjkmaaGreatDoorB18
import Derived.Test.YtagncghpfdjkmaaGreatDoorB15
import Derived.Test.YtagncghpfdjkmaaGreatDoorB27
import Derived.Test.YtagncghpfdjkmaaGreatDoorB08
import Derived.Deep.Slices
import Derived.Test.YtagncghpfdjkmaaGreatDoorB14
import Derived.Test.YtagncghpfdjkmaaGreatDoorB01
import Derived.Test.YtagncghpfdjkmaaGreatDoorB11
section
namespace Go.Proofs.YtagncghpfdjkmaaGreatDoor
open Go.ChangeShapes Go.WideShapes Go.ChangeAt Go.RowKit
set_option linter.unusedVariables false

theorem all_one {ss : Ds} {z : Nm × Sp} (h : Rises ss) (ha : ∀ x ∈ ss, x = z) (hz : z ∈ ss) : ss = [z] := by
  cases ss with
  | nil => cases hz
  | cons x r =>
    have e := ha x List.mem_cons_self
    subst e
    cases r with
    | nil => rfl
    | cons y r =>
      have e2 := ha y (List.mem_cons_of_mem _ List.mem_cons_self)
      have := (List.pairwise_cons.1 h).1 y List.mem_cons_self
      rw [e2] at this
      exact absurd this (nm_irrefl _)
theorem crash_in (ks : List Int) : ∀ (ss : Ds) (i : Nat) (x : Nm × Sp), x ∈ crashS ks i ss → ∃ z ∈ ss, x.1 = z.1 ∧ (∀ y, z.2 = ⟨true, y, []⟩ → x = z)
  | [], i, x, h => by cases h
  | z :: r, i, x, h => by
    unfold crashS at h
    rcases List.mem_append.1 h with h | h
    · refine ⟨z, List.mem_cons_self, ?_⟩
      unfold crashOne at h
      split at h
      · cases h
      · rw [List.mem_singleton] at h
        subst h
        refine ⟨rfl, fun y hy => ?_⟩
        rw [hy]
        obtain ⟨k, v⟩ := z
        dsimp only at hy
        subst hy
        rfl
    · obtain ⟨z2, h1, h2⟩ := crash_in ks r (i + 1) x h
      exact ⟨z2, List.mem_cons_of_mem _ h1, h2⟩
theorem crash_keeps (ks : List Int) : ∀ (ss : Ds) (i : Nat) (z : Nm × Sp) (y : List Nat), z ∈ ss → z.2 = ⟨true, y, []⟩ → z ∈ crashS ks i ss
  | [], i, z, y, h, _ => by cases h
  | x :: r, i, z, y, h, hy => by
    unfold crashS
    rcases List.mem_cons.1 h with rfl | h
    · refine List.mem_append_left _ ?_
      unfold crashOne
      obtain ⟨k, v⟩ := z
      dsimp only at hy
      subst hy
      rw [if_neg (by simp)]
      exact List.mem_singleton.2 rfl
    · exact List.mem_append_right _ (crash_keeps ks r (i + 1) z y h hy)
/-- Beside snap.tmp there is this one alone. -/
structure Wh (a : Sn) (ss : Ds) : Prop where
  rise : Rises ss
  only : ∀ x ∈ ss, x.1 ≠ spareS → x = snF a
  there : snF a ∈ ss
theorem Wh.cl {a : Sn} {ss : Ds} (h : Wh a ss) (ha : snE a = 0) : Cl ss := ⟨h.rise, fun x hx hne => ⟨a, ha, h.only x hx hne⟩⟩
theorem Wh.load {a : Sn} {ss : Ds} (h : Wh a ss) (ha : snE a = 0) : sLoad ss = some a :=
  (h.cl ha).load ha h.there (fun x hx hne => by rw [h.only x hx hne, snF_num ha]; exact Nat.le_refl _)
theorem Wh.crash {a : Sn} {ss : Ds} (h : Wh a ss) (ks : List Int) (hr : Rises (crashS ks 0 ss)) : Wh a (crashS ks 0 ss) :=
  ⟨hr, fun x hx hne => by
    obtain ⟨z, hz, e, hw⟩ := crash_in ks ss 0 x hx
    have := h.only z hz (by rw [← e]; exact hne)
    rw [hw _ (by rw [this]; rfl)]
    exact this, crash_keeps ks ss 0 _ _ h.there rfl⟩
theorem Wh.one {a : Sn} (ha : snE a = 0) : Wh a [snF a] := ⟨List.pairwise_singleton _ _, fun x hx _ => List.mem_singleton.1 hx, List.mem_singleton.2 rfl⟩
theorem Wh.tmp {a : Sn} {ss : Ds} (ha : snE a = 0) (h : Wh a ss) (v : Sp) : Wh a (putF spareS v ss) :=
  ⟨h.rise.put _ _, fun x hx hne => by
    rcases (mem_putF h.rise x).1 hx with rfl | ⟨h1, _⟩
    · exact absurd rfl hne
    · exact h.only x h1 hne, (mem_putF h.rise _).2 (.inr ⟨h.there, snF_spare ha⟩)⟩
theorem Wh.del {a : Sn} {ss : Ds} (ha : snE a = 0) (h : Wh a ss) : delF spareS ss = [snF a] :=
  all_one (h.rise.del _) (fun x hx => h.only x ((mem_delF x).1 hx).1 ((mem_delF x).1 hx).2) ((mem_delF _).2 ⟨h.there, snF_spare ha⟩)
/-- Save of the first one. -/
theorem save_first {room : Nat} {a : Sn} (ha : snE a = 0) (hu : (snB a).length ≤ room) : sSave room a [] = (0, [snF a]) := by
  have hc : Cl [] := ⟨List.Pairwise.nil, fun x hx => by cases hx⟩
  rw [hc.save ha (by simp [delF]) (by simp [delF, usedS]; omega)]
  congr 1
  refine all_one (hc.saved ha).rise (fun x hx => ?_) ((hc.kept ha _).2 (.inl rfl))
  rcases (hc.kept ha x).1 hx with e | ⟨e, _⟩
  · exact e
  · cases e
theorem Wh.save {room : Nat} {a b : Sn} {ss : Ds} (h : Wh a ss) (ha : snE a = 0) (hb : snE b = 0) (hlt : a.i < b.i) (hu : (snB a).length + (snB b).length ≤ room) : sSave room b ss = (0, [snF b]) := by
  have hc := h.cl ha
  rw [hc.save hb (by rw [h.del ha]; simp) (by rw [h.del ha]; simp [usedS]; rw [show (snF a).2.now = snB a from rfl]; omega)]
  congr 1
  refine all_one (hc.saved hb).rise (fun x hx => ?_) ((hc.kept hb _).2 (.inl rfl))
  rcases (hc.kept hb x).1 hx with e | ⟨e, e2, e3⟩
  · exact e
  · rw [h.only x e e2, snF_num ha] at e3
    have := (snE_may ha).1
    omega
/-- The elder and the newer one. -/
structure Wt (a b : Sn) (ss : Ds) : Prop where
  rise : Rises ss
  only : ∀ x ∈ ss, x = snF a ∨ x = snF b
  there : snF b ∈ ss
theorem Wt.cl {a b : Sn} {ss : Ds} (h : Wt a b ss) (ha : snE a = 0) (hb : snE b = 0) : Cl ss := ⟨h.rise, fun x hx _ => (h.only x hx).elim (fun e => ⟨a, ha, e⟩) (fun e => ⟨b, hb, e⟩)⟩
theorem Wt.load {a b : Sn} {ss : Ds} (h : Wt a b ss) (ha : snE a = 0) (hb : snE b = 0) (hlt : a.i < b.i) : sLoad ss = some b :=
  (h.cl ha hb).load hb h.there (fun x hx _ => by
    rcases h.only x hx with e | e
    · rw [e, snF_num ha]; omega
    · rw [e, snF_num hb]; exact Nat.le_refl _)
theorem Wt.crash {a b : Sn} {ss : Ds} (h : Wt a b ss) (ks : List Int) : crashS ks 0 ss = ss :=
  crash_whole ks ss 0 (fun x hx => (h.only x hx).elim (fun e => by rw [e]; exact ⟨_, rfl⟩) (fun e => by rw [e]; exact ⟨_, rfl⟩))
theorem Wt.save {room : Nat} {a b : Sn} {ss : Ds} (h : Wt a b ss) (ha : snE a = 0) (hb : snE b = 0) (hlt : a.i < b.i) (hl : ss.length < 16) (hu : usedS ss + (snB b).length ≤ room) : sSave room b ss = (0, [snF b]) := by
  have hc := h.cl ha hb
  have hd : delF spareS ss = ss := delF_none (fun e => by
    obtain ⟨x, hx, ex⟩ := List.mem_map.1 e
    rcases h.only x hx with e | e
    · exact snF_spare ha (by rw [← e]; exact ex)
    · exact snF_spare hb (by rw [← e]; exact ex))
  rw [hc.save hb (by rw [hd]; exact hl) (by rw [hd]; exact hu)]
  congr 1
  refine all_one (hc.saved hb).rise (fun x hx => ?_) ((hc.kept hb _).2 (.inl rfl))
  rcases (hc.kept hb x).1 hx with e | ⟨e, e2, e3⟩
  · exact e
  · rcases h.only x e with e4 | e4
    · rw [e4, snF_num ha] at e3
      have := (snE_may ha).1
      omega
    · exact e4
theorem snB_4000 {s : Sn} (h : snE s = 0) (hd : s.d.length ≤ 4000) : (snB s).length ≤ 4100 := by
  have hm := mem_len (snE_may h).2.2.1
  obtain ⟨h1, h2, _, _⟩ := snE_may h
  unfold snB
  rw [if_pos h, frameB_length]
  unfold snI inB
  have a1 := numB_six s.i.toNat (by omega)
  have a2 := numB_six s.t.toNat (by omega)
  have a3 := numB_six (listB s.v ++ listB s.l).length (by omega)
  have a4 := numB_six s.d.length (by omega)
  simp only [List.length_append] at *
  omega
/-- The steps of a Save by hand, on a disk that has the elder one alone. -/
theorem tmp_write {a b : Sn} (ha : snE a = 0) (hb : snE b = 0) (hu : (snB a).length + (snB b).length ≤ 65536) : dWrite 65536 spareS 0 (snB b) [snF a] = (0, putF spareS (wrote sp0 0 (snB b)) [snF a]) :=
  dWrite_new 65536 spareS spare_name (snB b) _ (getS_none.2 (fun e => by simp at e; exact snF_spare ha e.symm)) (by simp) (by have := snB_len hb; omega) (by simp [usedS]; rw [show (snF a).2.now = snB a from rfl]; exact hu)
theorem tmp_sync {a b : Sn} (ha : snE a = 0) : dSync spareS (putF spareS (wrote sp0 0 (snB b)) [snF a]) = (0, putF spareS ⟨true, snB b, []⟩ [snF a]) := by
  unfold dSync
  rw [getS_put (List.pairwise_singleton _ _), if_pos rfl]
  dsimp only
  rw [wroteSp, putF_putF]
theorem tmp_rename {a b : Sn} (ha : snE a = 0) (hb : snE b = 0) : dRename spareS (snNm b.i.toNat) (putF spareS ⟨true, snB b, []⟩ [snF a]) = (0, putF (snNm b.i.toNat) ⟨true, snB b, []⟩ [snF a]) := by
  have hi := (snE_may hb).1
  unfold dRename
  rw [getS_put (List.pairwise_singleton _ _), if_pos rfl]
  dsimp only
  rw [if_pos (snNm_name (by omega) (by omega)), delF_put _ _ _ (fun e => by simp at e; exact snF_spare ha e.symm)]
theorem two_there {a b : Sn} : Wt a b (putF (snNm b.i.toNat) ⟨true, snB b, []⟩ [snF a]) :=
  ⟨Rises.put (List.pairwise_singleton _ _ : Rises [snF a]) _ _, fun x hx => by
    rcases (mem_putF (List.pairwise_singleton _ _ : Rises [snF a]) x).1 hx with e | ⟨e, _⟩
    · exact .inr e
    · exact .inl (List.mem_singleton.1 e), (mem_putF (List.pairwise_singleton _ _ : Rises [snF a]) _).2 (.inl rfl)⟩
theorem two_len {a b : Sn} : (putF (snNm b.i.toNat) (⟨true, snB b, []⟩ : Sp) [snF a]).length < 16 := by
  have h2 := putF_length (k := snNm b.i.toNat) (v := (⟨true, snB b, []⟩ : Sp)) (List.pairwise_singleton _ _ : Rises [snF a])
  split at h2 <;> simp at h2 <;> omega
theorem two_used {a b : Sn} : usedS (putF (snNm b.i.toNat) (⟨true, snB b, []⟩ : Sp) [snF a]) ≤ (snB a).length + (snB b).length := by
  have := used_put (snNm b.i.toNat) (⟨true, snB b, []⟩ : Sp) [snF a]
  rw [nowSp] at this
  have h2 : usedS [snF a] = (snB a).length := by simp [usedS]; rfl
  omega
end Go.Proofs.YtagncghpfdjkmaaGreatDoor
end
/- Bytes of one's own, one bit turned. -/
section
namespace Go.Proofs.YtagncghpfdjkmaaGreatDoor
open Go.ChangeShapes Go.WideShapes Go.ChangeAt Go.RowKit
set_option linter.unusedVariables false

theorem rem_natS (k : Int) (M : Nat) (h0 : 0 < M) (h1 : M ≤ 4611686018427387904) : ∃ N : Nat, wrap64 ((IntKind.u64.wrap k).tmod (M : Int)) = (N : Int) ∧ N < M := by
  have hw : 0 ≤ IntKind.u64.wrap k := wrap_u64_nonneg k
  obtain ⟨u, hu⟩ := Int.eq_ofNat_of_zero_le hw
  rw [hu]
  refine ⟨u % M, ?_, Nat.mod_lt _ h0⟩
  have e : ((u : Int).tmod (M : Int)) = ((u % M : Nat) : Int) := by rw [← Int.ofNat_tmod]
  have := Nat.mod_lt u h0
  rw [e]
  unfold wrap64
  omega

end Go.Proofs.YtagncghpfdjkmaaGreatDoor
end
/- A snapshot that came in, opened, with what its rows may weigh (open_snapS). -/
section
namespace Go.Proofs.YtagncghpfdjkmaaGreatDoor
open Go.ChangeShapes Go.WideShapes Go.ChangeAt Go.RowKit
set_option linter.unusedVariables false

/-- What its rows may weigh. -/
structure SnS (s : Sn) (h : SnH) : Prop where
  v : s.v.length * 8 ≤ 140737488351232
  l : s.l.length * 8 ≤ 140737488351232
  d : h.dc ≤ 140737488355328
  vz : h.va = none → h.vc = 0
  lz : h.la = none → h.lc = 0
end Go.Proofs.YtagncghpfdjkmaaGreatDoor
end
/- The document's Get. -/
section
namespace Go.Proofs.YtagncghpfdjkmaaGreatDoor
open Go.ChangeShapes Go.WideShapes Go.ChangeAt Go.RowKit

/-- How far the two lists are read. -/
def SpecQ (l : List Nat) (q p : Nat) (v r : List Int) : Prop :=
  (q = 0 ∧ p = 0 ∧ v = [] ∧ r = []) ∨ (q = 1 ∧ listE l 0 = .ok (v, p) ∧ r = []) ∨ (q = 2 ∧ ∃ k, listE l 0 = .ok (v, k) ∧ listE l k = .ok (r, p))
section
variable {w : World} {a : Option Addr} {c : Nat} {l : List Nat}
end
end Go.Proofs.YtagncghpfdjkmaaGreatDoor
end
/- The contracts of tollgateref01.Extend and Sum: they compute CRC-32's register bit by bit, and leave the world as it was. -/
section
namespace Go.Proofs.YtagncghpfdjkmaaGreatDoor
open Go.ChangeShapes Go.WideShapes Go.ChangeAt Go.RowKit

end Go.Proofs.YtagncghpfdjkmaaGreatDoor
end
/- The contract of tollgateref01.number, and those of Sum and Extend with the length apart. -/
section
namespace Go.Proofs.YtagncghpfdjkmaaGreatDoor
open Go.ChangeShapes Go.WideShapes Go.ChangeAt Go.RowKit

end Go.Proofs.YtagncghpfdjkmaaGreatDoor
end
/- The contract of tollgateref01.Next: what a frame at a place holds, or the error. -/
section
namespace Go.Proofs.YtagncghpfdjkmaaGreatDoor
open Go.ChangeShapes Go.WideShapes Go.ChangeAt Go.RowKit

end Go.Proofs.YtagncghpfdjkmaaGreatDoor
end
/- Snapshots: the document's Get (written by wip/mksgr.py). -/
section
namespace Go.Proofs.YtagncghpfdjkmaaGreatDoor
open Go.ChangeShapes Go.WideShapes Go.ChangeAt Go.RowKit
set_option linter.unusedVariables false

/-- How the document's Get ends. -/
def GetR (l : List Nat) (w : World) (en : Ending) (w' : World) : Prop := ∃ h, en = .returned (.tuple #[.agg (snRow (snOf (snL l)) h), .int .i64 (snX (snL l) : Int)]) ∧ SnAt w' (snOf (snL l)) h ∧ Below w.heap.size w w'
theorem OwnB.adr {base : Nat} {V : World} {sp : Option Addr} {cc : Nat} {l : List Nat} (x : OwnB base V sp cc l) : ∀ ad, sp = some ad → base ≤ ad.block := by
  intro ad e
  rcases x.owns.2 with ⟨hv, _⟩ | ⟨g, cap, cur, hv, hb, _⟩
  · simp only [Value.slice.injEq] at hv
    rw [e] at hv
    cases hv.1
  · simp only [Value.slice.injEq] at hv
    rw [e] at hv
    have := Option.some.inj hv.1
    rw [this]
    exact hb
/-- How far the numbers are read. -/
def SpecM (H : List Nat) (q k m0 m1 : Nat) : Prop := (q = 0 ∧ k = 0) ∨ (q = 1 ∧ takeE H 0 = .ok (m0, k) ∧ m0 ≠ 0) ∨ (q = 2 ∧ ∃ k1, takeE H 0 = .ok (m0, k1) ∧ m0 ≠ 0 ∧ takeE H k1 = .ok (m1, k) ∧ m1 ≠ 0)
/-- What is read behind both. -/
def snR (H : List Nat) (i t k2 : Nat) : Except Nat Sn := match takeE H k2 with
      | .error x => .error x
      | .ok (n, k3) => if H.length - k3 < n then .error 3 else match getE ((H.drop k3).take n) with
        | .error x => .error x
        | .ok (v, l) => match takeE H (k3 + n) with
          | .error x => .error x
          | .ok (z, k4) => if 16384 < z then .error 6 else if H.length - k4 < z then .error 3 else if k4 + z < H.length then .error 4 else .ok ⟨i, t, v, l, (H.drop k4).take z⟩
end Go.Proofs.YtagncghpfdjkmaaGreatDoor
end
/- Snapshots: the document's Copy. -/
section
namespace Go.Proofs.YtagncghpfdjkmaaGreatDoor
open Go.ChangeShapes Go.WideShapes Go.ChangeAt Go.RowKit
set_option linter.unusedVariables false

theorem blk_adr {sp : Option Addr} {g : Nat} (h : blk sp = some g) : ∃ ad, sp = some ad ∧ ad.block = g := by
  cases sp with
  | none => cases h
  | some ad => exact ⟨ad, rfl, Option.some.inj h⟩
theorem OwnB.blkLt {base : Nat} {V : World} {sp : Option Addr} {cc : Nat} {l : List Nat} (x : OwnB base V sp cc l) : ∀ g, blk sp = some g → g < V.heap.size := by
  intro g e
  obtain ⟨ad, rfl, rfl⟩ := blk_adr e
  rcases x.owns.2 with ⟨hv, _⟩ | ⟨g, cap, cur, hv, hb, hh, _⟩
  · simp only [Value.slice.injEq] at hv
    cases hv.1
  · simp only [Value.slice.injEq] at hv
    rw [Option.some.inj hv.1]
    exact (Array.getElem?_eq_some_iff.1 hh).1
end Go.Proofs.YtagncghpfdjkmaaGreatDoor
end
