/- Member: a tally; tally. -/
import Derived.Test.YtiapcpcdhonefaaMb1
import Derived.Maps.OwnSet
import Derived.Maps.RangeWalk
namespace Go.Proofs.Ytiapcpcdhonefaa
open Go.ChangeShapes Go.WideShapes Go.ChangeAt Go.RowKit Go.Maps

theorem intLaw : Keyed Try.prog 3 := int_keyed Try.underlying3
theorem wf64 {x : Int} (h : In64 x) : (Lit.int .i64 x).wf = true := WalkArith.wf_i64 h
theorem key64 {x : Int} (h : In64 x) : keyOf Try.prog 3 (.int .i64 x) = some (.int .i64 x) := keyOf_int_mk Try.underlying3 (wf64 h)
def upd (f : Int → Int) (x c : Int) : Int → Int := fun y => if y = x then c else f y
/-- A tally in memory: its map's block B, the voters, what each has. -/
structure TallyAt (w : World) (B n : Nat) (vs : List Int) (f : Int → Int) : Prop where
  map : ∃ D : DataW Unit, w.ownsMap Try.prog 3 (plainElem Try.prog 3) B n D ∧ (∀ x, In64 x → Maps.has D (.int .i64 x) = decide (x ∈ vs)) ∧ (∀ x, In64 x → x ∈ vs → ∀ zd, D.atKey (.int .i64 x) zd = .lit (.int .i64 (f x))) ∧ Maps.size D = vs.length
theorem TallyAt.kept {w w' : World} {B n : Nat} {vs : List Int} {f : Int → Int} {row : Option Nat} (h : TallyAt w B n vs f) (hg : w.grownBy w' row) (hne : some B ≠ row) : TallyAt w' B n vs f := by
  obtain ⟨D, h1, h2⟩ := h.map
  exact ⟨D, h1.kept hg hne, h2⟩
theorem TallyAt.later {w w' : World} {B n : Nat} {vs : List Int} {f : Int → Int} (h : TallyAt w B n vs f) (hb : Below w.heap.size w w') : TallyAt w' B n vs f := h.kept (grown_below none hb) (by simp)
theorem TallyAt.lt {w : World} {B n : Nat} {vs : List Int} {f : Int → Int} (h : TallyAt w B n vs f) : B < w.heap.size := by
  obtain ⟨D, h1, _⟩ := h.map
  exact h1.lt
theorem TallyAt.made (w : World) : TallyAt (w.alloc (.map #[] 0)) w.heap.size 0 [] (fun _ => 0) :=
  ⟨_, World.ownsMap_made (H := Unit) w Try.prog 3 (plainElem Try.prog 3), fun _ _ => rfl, by simp, rfl⟩
theorem TallyAt.store {w : World} {B n : Nat} {vs : List Int} {f : Int → Int} (h : TallyAt w B n vs f) (x c : Int) (hx : In64 x) (hc : In64 c) (hn : n < maxLen) : ∃ w', (Instr.mapUpdate 60 (.map (some B)) (.int .i64 x) (.int .i64 c)).run Try.prog w = .ok () w' ∧ TallyAt w' B (n + 1) (if x ∈ vs then vs else vs ++ [x]) (upd f x c) ∧ w.grownBy w' (some B) := by
  obtain ⟨D, hD, hH, hA, hS⟩ := h.map
  obtain ⟨w', hrun, r1, r2⟩ := hD.update intLaw Try.underlying60 hn (key64 hx) (plainElem_int (H := Unit) Try.underlying3 (wf64 hc))
  have hmap := hD.isMap
  have hkey := intLaw.key (key64 hx)
  have hmem : ∀ y, (y ∈ (if x ∈ vs then vs else vs ++ [x])) ↔ (y ∈ vs ∨ y = x) := by
    intro y
    split
    · rename_i hin
      exact ⟨.inl, fun h => h.elim id (fun e => e ▸ hin)⟩
    · simp
  refine ⟨w', hrun, ⟨_, r1, fun y hy => ?_, fun y hy hyv zd => ?_, ?_⟩, r2⟩
  · by_cases e : y = x
    · subst e
      rw [has_put_same hmap hkey]
      simp [hmem]
    · rw [has_put_other (fun e' => e (by simpa using e')), hH y hy]
      simp [hmem, e]
  · by_cases e : y = x
    · subst e
      rw [atKey_put_same hmap hkey]
      simp [upd]
    · rw [atKey_put_other (fun e' => e (by simpa using e')), hA y hy (((hmem y).1 hyv).resolve_right e)]
      simp [upd, e]
  · rw [size_put (hD.tidy intLaw), hH x hx, hS]
    by_cases e : x ∈ vs
    · simp [e]
    · simp [e]
theorem rise_in : ∀ (v : List Int) (last : Int), 0 ≤ last → riseFrom last v = true → ∀ x ∈ v, last < x ∧ x ≤ 9
  | [], _, _, _, x, hx => by simp at hx
  | n :: r, last, h0, h, x, hx => by
    simp only [riseFrom, Bool.and_eq_true, decide_eq_true_eq] at h
    rcases List.mem_cons.1 hx with rfl | hx
    · omega
    · have := rise_in r n (by omega) h.2 x hx
      omega
theorem rise_nodup : ∀ (v : List Int) (last : Int), 0 ≤ last → riseFrom last v = true → v.Nodup
  | [], _, _, _ => List.nodup_nil
  | n :: r, last, h0, h => by
    simp only [riseFrom, Bool.and_eq_true, decide_eq_true_eq] at h
    refine List.nodup_cons.2 ⟨fun hin => ?_, rise_nodup r n (by omega) h.2⟩
    have := (rise_in r n (by omega) h.2 n hin).1
    omega
section
variable {w : World} {va : Option Addr} {vc : Nat} {v : List Int} {la : Option Addr} {lc ln : Nat}
set_option maxRecDepth 20000 in
set_option maxHeartbeats 2000000 in
theorem tally_calls (hv : IntsAt w va v) (vn : Nat) (hvn : v.length = vn) (hvx : vn ≤ 100) (hnd : v.Nodup) :
    Calls Try.prog 21 #[mV va vn vc la ln lc] w fun e w' => ∃ B, e = .returned (.map (some B)) ∧ TallyAt w' B vn v (fun _ => 0) ∧ w.heap.size ≤ B ∧ Below w.heap.size w w' := by
  have hmm := @run_makeMap Try.prog
  have b1' : Below w.heap.size w (w.alloc (mB va vn vc la ln lc)) := (Below.refl _ _).alloc (Nat.le_refl _) _
  have b1 := hide (show Below w.heap.size w ((w.alloc (mB va vn vc la ln lc)).alloc (.map #[] 0)) from b1'.alloc b1'.size _)
  have V0 := hide hv
  have X1 := hide (heap_old (.map #[] 0) (heap_new w (mB va vn vc la ln lc)))
  have Z1 : (w.alloc (mB va vn vc la ln lc)).heap.size = w.heap.size + 1 := by simp
  have T1 := hide (show TallyAt ((w.alloc (mB va vn vc la ln lc)).alloc (.map #[] 0)) (w.heap.size + 1) 0 [] (fun _ => 0) from Z1 ▸ TallyAt.made (w.alloc (mB va vn vc la ln lc)))
  have VN := hide hvn
  have ND := hide hnd
  have BD := hide hv.bd
  have c0 := box_cell (unhide X1) 0 _ rfl
  clear hv hvn hnd b1' Z1
  go_enter Try.func21, Try.ntmps21
  go_wp2_with fail
  generalize hD : w.heap.size = D at *
  generalize (w.alloc (mB va vn vc la ln lc)).alloc (.map #[] 0) = w1 at *
  go_loopw [10] (fun i wr => ∃ (j : Nat), j ≤ vn ∧ i = .int .i64 (j : Int) ∧ Hid (TallyAt wr (D + 1) j (v.take j) (fun _ => 0)) ∧ Hid (Below D w wr)) (fun i _ => vn - (intOf i).toNat)
  case atStart => exact ⟨0, by omega, rfl, unhide T1, unhide b1⟩
  case round =>
    obtain ⟨j, hj, rfl, T, F⟩ := hrel
    have V2 := hide ((unhide V0).later (by rw [hD]; exact unhide F))
    by_cases hjm : j < vn
    · have hjl : j < v.length := by rw [unhide VN]; exact hjm
      obtain ⟨b, off, rfl, p0⟩ := (unhide V2).cell j hjl
      have hT := hide (List.take_succ_eq_append_getElem hjl)
      have hB := hide (unhide BD _ (List.getElem_mem hjl))
      have hno := hide (show v[j] ∉ v.take j from fun hin => by
        obtain ⟨q, hq, e⟩ := List.getElem_of_mem hin
        rw [List.length_take] at hq
        rw [List.getElem_take] at e
        exact (List.pairwise_iff_getElem.1 (unhide ND)) q j (by omega) hjl (by omega) e)
      generalize v[j] = x at *
      obtain ⟨w2, hrun, t2, g2⟩ := (unhide T).store x 0 (unhide hB) (by constructor <;> decide) (by simp only [maxLen]; omega)
      have T2 := hide (show TallyAt w2 (D + 1) (j + 1) (v.take (j + 1)) (fun _ => 0) by
        rw [if_neg (unhide hno)] at t2
        rw [unhide hT]
        have e : upd (fun _ => 0) x 0 = fun _ => 0 := by funext y; simp [upd]
        rw [e] at t2
        exact t2)
      have F2 := hide ((unhide F).grown g2 (by have := (unhide F).size; omega) (fun g' hg' => by have := Option.some.inj hg'; omega))
      have hj0 : (0 : Int) ≤ (j : Int) := by omega
      have hj1 : (j : Int) < (vn : Int) := by omega
      clear t2 g2
      go_wp2
      exact ⟨⟨j + 1, by omega, by go_num, unhide T2, unhide F2⟩, by simp [intOf]; omega⟩
    · obtain rfl : j = vn := by omega
      have T2 := hide (show TallyAt wr (D + 1) j v (fun _ => 0) by have := unhide T; rwa [List.take_of_length_le (by rw [unhide VN]; exact Nat.le_refl _)] at this)
      go_wp2
      go_ret
      exact ⟨D + 1, rfl, unhide T2, by omega, by rw [hD]; exact unhide F⟩
end
end Go.Proofs.Ytiapcpcdhonefaa
