/- The document's disk: Remove, Sync, Rename, Read, Sure. -/
import Derived.Test.YtghdiemihceaoaaRe4
import Derived.Deep.RegionHeld3
namespace Go.Proofs.Ytghdiemihceaoaa
open Go.ChangeShapes Go.WideShapes Go.ChangeAt Go.RowKit Go.Maps

/-- What a call on the document's disk leaves. -/
structure RDone (base R room : Nat) (w : World) (sp : Option Addr) (rs : List Rf) (rs' : List Rf) (w' : World) : Prop where
  at_ : ∃ sp' c', RefAt base w' R room sp' c' rs' ∧ ∀ g, footR sp' rs' g → footR sp rs g ∨ w.heap.size ≤ g
  grown : w.grownBy w' (some R)
def REnd (base R room : Nat) (w : World) (sp : Option Addr) (rs : List Rf) (r : Nat × Ds) (e : Ending) (w' : World) : Prop :=
  e = .returned (.int .i64 (r.1 : Int)) ∧ ∃ rs', rss rs' = r.2 ∧ RDone base R room w sp rs rs' w'
section
variable {base R room : Nat} {w w' : World} {sp : Option Addr} {c : Nat} {rs rs' : List Rf}
theorem rss_get (k : Nm) (rs : List Rf) : getS k (rss rs) = (getS k rs).map (fun v => v.s) := getS_map (fun v : RV => v.s) k rs
theorem rss_put (k : Nm) (v : RV) (rs : List Rf) : rss (putF k v rs) = putF k v.s (rss rs) := putF_map (fun v : RV => v.s) k v rs
theorem rss_del (k : Nm) (rs : List Rf) : rss (delF k rs) = delF k (rss rs) := delF_map (fun v : RV => v.s) k rs
theorem RefAt.stay (h : RefAt base w R room sp c rs) (hb : Below w.heap.size w w') : RDone base R room w sp rs rs w' := ⟨⟨sp, c, h.later hb, fun _ hg => .inl hg⟩, grown_below (some R) hb⟩
theorem RefAt.stored (h : RefAt base w R room sp c rs) {W : World} (hb : Below w.heap.size w W) {sp' : Option Addr} {c' n' : Nat} (ho : OwnR base W sp' c' rs') (hn : rs'.length = n') (hr : Rises rs') (hf : rs'.length ≤ 16) (hfoot : ∀ g, footR sp' rs' g → footR sp rs g ∨ w.heap.size ≤ g) :
    RDone base R room w sp rs rs' (W.setCell ⟨R, 1, none⟩ (.slice sp' n' c')) := by
  subst hn
  refine ⟨⟨sp', c', (h.later hb).set sp' c' rs' ho hr hf, hfoot⟩, ?_⟩
  have hg := grown_set W R 1 (.slice sp' rs'.length c')
  exact ⟨hg.os.trans hb.os, hg.tape.trans hb.tape, hg.output.trans hb.output, Nat.le_trans hb.size hg.size, fun i hi hne => (hg.block i (Nat.lt_of_lt_of_le hi hb.size) hne).trans (hb.block i hi)⟩
theorem REnd.stay {r : Nat × Ds} {e : Ending} (h : RefAt base w R room sp c rs) (hb : Below w.heap.size w w') (he : e = .returned (.int .i64 (r.1 : Int))) (hr : r.2 = rss rs) : REnd base R room w sp rs r e w' := ⟨he, rs, hr.symm, h.stay hb⟩
theorem RefAt.getI (h : RefAt base w R room sp c rs) (i : Nat) (hi : i < rs.length) : getS rs[i].1 rs = some rs[i].2 := getS_mem h.rise (List.getElem_mem hi)
theorem foot_put (sp' : Option Addr) (k : Nm) (v : RV) (hr : Rises rs) {n0 : Nat} (h1 : ∀ g, blk sp' = some g → n0 ≤ g) (h2 : ∀ g, Rf.foot (k, v) g → footR sp rs g ∨ n0 ≤ g) : ∀ g, footR sp' (putF k v rs) g → footR sp rs g ∨ n0 ≤ g := by
  rintro g (hg | ⟨x, hx, hg⟩)
  · exact .inr (h1 g hg)
  · rcases (mem_putF hr x).1 hx with rfl | ⟨hx, _⟩
    · exact h2 g hg
    · exact .inl (.inr ⟨x, hx, hg⟩)
theorem foot_del (sp' : Option Addr) (k : Nm) {n0 : Nat} (h1 : ∀ g, blk sp' = some g → n0 ≤ g) : ∀ g, footR sp' (delF k rs) g → footR sp rs g ∨ n0 ≤ g := by
  rintro g (hg | ⟨x, hx, hg⟩)
  · exact .inr (h1 g hg)
  · exact .inl (.inr ⟨x, ((mem_delF x).1 hx).1, hg⟩)
theorem putF_old_len {k : Nm} {v : RV} (hr : Rises rs) (hk : k ∈ rs.map (·.1)) : (putF k v rs).length = rs.length := by rw [putF_length hr, if_pos hk]
set_option maxRecDepth 20000 in
set_option maxHeartbeats 4000000 in
theorem rremove_calls (h : RefAt base w R room sp c rs) (hbs : base ≤ w.heap.size) (s : ByteArray) :
    Calls Try.prog 39 #[.pointer (some ⟨R, 0, none⟩), .string s] w (REnd base R room w sp rs (dRemove s.data.toList (rss rs))) := by
  have FC := hide (rfind_calls h s)
  have c1 := h.c1
  have WC := hide (rwithout_calls base w sp c rs s h.own h.few hbs)
  have EN := hide (show s.data.toList ∉ rs.map (·.1) → REnd base R room w sp rs (dRemove s.data.toList (rss rs)) (.returned (.int .i64 8)) w from fun hn => by
    have hg := getS_none.2 hn
    exact REnd.stay h (Below.refl _ _) (by simp [dRemove, rss_get, hg]) (by simp [dRemove, rss_get, hg]))
  have EY := hide (show ∀ i (hi : i < rs.length), rs[i].1 = s.data.toList → ∀ W sp' n' c', Below w.heap.size w W → OwnR base W sp' c' (delF s.data.toList rs) → (delF s.data.toList rs).length = n' → (∀ g, blk sp' = some g → w.heap.size ≤ g) → REnd base R room w sp rs (dRemove s.data.toList (rss rs)) (.returned (.int .i64 0)) (W.setCell ⟨R, 1, none⟩ (.slice sp' n' c')) from fun i hi he W sp' n' c' hb ho hn hg => by
    have hgs := h.getI i hi
    rw [he] at hgs
    refine ⟨by simp [dRemove, rss_get, hgs], delF s.data.toList rs, by simp [dRemove, rss_get, hgs, rss_del], h.stored hb ho hn (h.rise.del _) (Nat.le_trans (List.length_filter_le _ _) h.few) (foot_del sp' _ hg)⟩)
  have VC := hide (fun W (hb : Below w.heap.size w W) => show W.cell? ⟨R, 1, none⟩ = some (.slice sp rs.length c) ∧ W.frozen? ⟨R, 1, none⟩ = false from ⟨(h.later hb).c1, (h.later hb).z1⟩)
  clear h hbs
  generalize hn : rs.length = n at c1 WC VC
  go_enter Try.func39, Try.ntmps39
  go_wp2_with fail
  refine (unhide FC).mono ?_
  rintro e w2 ⟨rfl, hF⟩
  rcases hF with ⟨i, hi, he, rfl⟩ | ⟨hno, rfl⟩
  · have hi0 : ¬ ((i : Int) < 0) := by omega
    have EY2 := hide (unhide EY i hi he)
    clear hi he EY hn
    go_wp2_with (go_at_call 60; refine (unhide WC).mono ?_; rintro e W ⟨sp', n', c', rfl, hn', ho', hg', hb'⟩; obtain ⟨v1, z1⟩ := unhide VC W hb'; have E3 := hide (unhide EY2 W sp' n' c' hb' ho' hn' hg'); clear hn' ho' hg' hb')
    go_ret
    exact unhide E3
  · have E3 := hide (unhide EN hno)
    clear hno hn
    go_wp2
    go_ret
    exact unhide E3
theorem SOk.synced {s : Sp} (h : SOk s) : SOk ⟨true, s.now, []⟩ := ⟨trivial, by simp, by rw [← h.now]; exact h.len _, by rw [← h.now]; exact h.lt _, by simp⟩
set_option maxRecDepth 20000 in
set_option maxHeartbeats 40000000 in
theorem rsync_calls (h : RefAt base w R room sp c rs) (hbs : base ≤ w.heap.size) (s : ByteArray) :
    Calls Try.prog 37 #[.pointer (some ⟨R, 0, none⟩), .string s] w (REnd base R room w sp rs (dSync s.data.toList (rss rs))) := by
  have FC := hide (rfind_calls h s)
  have EN := hide (show s.data.toList ∉ rs.map (·.1) → REnd base R room w sp rs (dSync s.data.toList (rss rs)) (.returned (.int .i64 8)) w from fun hn => by
    have hg := getS_none.2 hn
    exact REnd.stay h (Below.refl _ _) (by simp [dSync, rss_get, hg]) (by simp [dSync, rss_get, hg]))
  have VC := hide (fun W (hb : Below w.heap.size w W) => h.later hb)
  have H := hide h
  have HS := hide hbs
  clear h hbs
  go_enter Try.func37, Try.ntmps37
  go_wp2_with fail
  refine (unhide FC).mono ?_
  rintro e w2 ⟨rfl, hF⟩
  rcases hF with ⟨i, hi, he, rfl⟩ | ⟨hno, rfl⟩
  · have hi0 : ¬ ((i : Int) < 0) := by omega
    have hi1 : (i : Int) < (rs.length : Int) := by omega
    have hi2 : (0 : Int) ≤ (i : Int) := by omega
    obtain ⟨g, rfl, p0, p1, p2, p3⟩ := (unhide H).own.cells i hi
    have c1 := (unhide H).c1
    have NC := hide (fun W (hb : Below w2.heap.size w2 W) => now_calls base W rs[i] ((unhide VC W hb).own.dat _ (List.getElem_mem hi)))
    have PC := hide (show ∀ W, Below w2.heap.size w2 W → W.cell? ⟨R, 1, none⟩ = some (.slice (some ⟨g, 0, none⟩) rs.length c) ∧ W.frozen? ⟨R, 1, none⟩ = false ∧ W.cell? ⟨g, i * 4, none⟩ = some (.string (str rs[i].1)) ∧ W.cell? ⟨g, i * 4 + 1, none⟩ = some (.bool rs[i].2.s.la) ∧ W.cell? ⟨g, i * 4 + 2, none⟩ = some (.slice rs[i].2.yp rs[i].2.s.y.length rs[i].2.yc) ∧ W.cell? ⟨g, i * 4 + 3, none⟩ = some (.slice rs[i].2.up rs[i].2.s.us.length rs[i].2.uc) from fun W b => by
      obtain ⟨g', e', q⟩ := (unhide VC W b).own.cells i hi
      obtain rfl : g = g' := by simpa using e'
      exact ⟨(unhide VC W b).c1, (unhide VC W b).z1, q⟩)
    have GI := hide (show getS s.data.toList rs = some rs[i].2 by rw [← he]; exact (unhide H).getI i hi)
    have OK := hide (((unhide H).own.dat _ (List.getElem_mem hi)).ok)
    have KM := hide (show s.data.toList ∈ rs.map (·.1) by rw [← he]; exact List.mem_map.2 ⟨_, List.getElem_mem hi, rfl⟩)
    generalize rs[i] = z at *
    obtain ⟨nm, t, yp, yc, up, uc⟩ := z
    unfold rfVal at NC
    simp only at he p0 p1 p2 p3 NC PC OK GI
    have UC := hide (show ∀ W sp2 n2 c2, Below w2.heap.size w2 W → t.now.length = n2 → Bx w2.heap.size W sp2 c2 t.now → Calls Try.prog 59 #[.slice (some ⟨g, 0, none⟩) rs.length c, .agg #[.string s, .bool true, .slice sp2 n2 c2, .slice none 0 0]] W fun e w' => ∃ sp' n' c', e = .returned (.slice sp' n' c') ∧ REnd base R room w2 (some ⟨g, 0, none⟩) rs (dSync s.data.toList (rss rs)) (.returned (.int .i64 0)) (w'.setCell ⟨R, 1, none⟩ (.slice sp' n' c')) ∧ Below w2.heap.size w2 w' from fun W sp2 n2 c2 hb hn2 hX => by
      subst hn2
      have hle := Nat.le_trans (unhide HS) hb.size
      have hat : RfAt base W (s.data.toList, ⟨⟨true, t.now, []⟩, sp2, c2, none, 0⟩) := ⟨(unhide OK).synced, hX.mono (unhide HS), W.ownsRow_nil base 90 3, by simp [Sp.us, usL]⟩
      have := rput_calls base W (some ⟨g, 0, none⟩) c rs (s.data.toList, ⟨⟨true, t.now, []⟩, sp2, c2, none, 0⟩) (unhide VC W hb).own (unhide H).rise (unhide H).few hat hle
      unfold rfVal at this
      simp only [str_of'] at this
      refine this.mono ?_
      rintro e W' ⟨sp', n', c', rfl, hn', ho', hg', hb'⟩
      have hbb := hb.trans (hb'.mono hb.size)
      refine ⟨sp', n', c', rfl, ⟨by simp [dSync, rss_get, unhide GI], _, ?_, (unhide H).stored hbb ho' hn' ((unhide H).rise.put _ _) (by rw [putF_old_len (unhide H).rise (unhide KM)]; exact (unhide H).few) (foot_put sp' _ _ (unhide H).rise (fun g hg => Nat.le_trans hb.size (hg' g hg)) ?_)⟩, hbb⟩
      · rw [rss_put]
        simp [dSync, rss_get, unhide GI]
      · rintro g (hg | hg)
        · exact .inr (hX.isT g hg).1
        · cases hg)
    have nn : ∀ x : Nat, x = rs.length → x = rs.length := fun _ h => h
    generalize rs.length = n at c1 PC UC hi1
    clear he hi nn
    obtain ⟨r1, r2, _⟩ := unhide PC w2 (Below.refl _ _)
    go_wp2_with fail
    go_region_law (first
      | (go_simp
         go_at_call 46
         refine (unhide NC w2.drew ((Below.refl _ _).drew)).mono ?_
         rintro e W ⟨sp2, n2, c2, rfl, hn2, h8, hX, b2⟩
         have BN := hide (show Below w2.heap.size w2 W from ⟨b2.os, b2.tape, b2.output, b2.size, b2.block⟩)
         have UX := hide (unhide UC W sp2 n2 c2 (unhide BN) hn2 hX)
         obtain ⟨u1, u2, _⟩ := unhide PC W (unhide BN)
         clear b2 hX hn2)
      | (go_simp
         go_at_call 59
         refine (unhide UX).mono ?_
         rintro e W' ⟨sp', n', c', rfl, hE, b3⟩
         have E3 := hide hE
         obtain ⟨v1, z1, _⟩ := unhide PC W' b3
         clear hE b3))
    all_goals
      go_wp2
      go_ret
      exact unhide E3
  · have E3 := hide (unhide EN hno)
    clear hno
    go_wp2
    go_ret
    exact unhide E3
end
end Go.Proofs.Ytghdiemihceaoaa
