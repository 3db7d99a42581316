/- Flight: rows of packets that are shifted and cleared; slices.IndexFunc. -/
import Derived.Test.YticemhnfcelpmaaFl5
import Derived.Lib.SliceRun
namespace Go.Proofs.Yticemhnfcelpmaa
open Go.ChangeShapes Go.WideShapes Go.ChangeAt Go.RowKit Go.Maps

theorem row_set {w : World} {g : Nat} {T : TypeId} {cur : List Value} (h : w.heap[g]? = some (.cells cur.toArray T (0, 0))) (k : Nat) (v : Value) : (w.setCell ⟨g, k, none⟩ v).heap[g]? = some (.cells (cur.set k v).toArray T (0, 0)) := by
  have := heap_setCell_same w g k _ T v h
  rw [this]
  simp
theorem row_setCells (g : Nat) (T : TypeId) : ∀ (vs : List Value) (o : Nat) (w : World) (cur : List Value), w.heap[g]? = some (.cells cur.toArray T (0, 0)) → (∃ cur' : List Value, (w.setCells g o vs).heap[g]? = some (.cells cur'.toArray T (0, 0)) ∧ cur'.length = cur.length ∧ ∀ k, k < o → cur'[k]? = cur[k]?) ∧ w.grownBy (w.setCells g o vs) (some g)
  | [], o, w, cur, h => ⟨⟨cur, h, rfl, fun _ _ => rfl⟩, grown_refl _ _⟩
  | v :: vs, o, w, cur, h => by
    obtain ⟨⟨cur', h1, h2, h3⟩, h4⟩ := row_setCells g T vs (o + 1) (w.setCell ⟨g, o, none⟩ v) (cur.set o v) (row_set h o v)
    refine ⟨⟨cur', h1, by rw [h2, List.length_set], fun k hk => ?_⟩, grown_trans (grown_set _ _ _ _) h4⟩
    rw [h3 k (by omega), List.getElem?_set_ne (by omega)]
theorem zeroP (w : World) : (zeroValue 35).run Try.prog w = .ok (.agg #[.int .i64 0, .int .i64 0, .int .i64 0, .slice none 0 0]) w := by kernel_rfl
theorem run_clearP (w : World) (ty : TypeId) (g o n c : Nat) (hn : 0 < n) (hc : ∀ j, j < n * 4 → (w.cell? ⟨g, o + j, none⟩).isSome = true) (hf : ∀ j, j < n * 4 → w.frozen? ⟨g, o + j, none⟩ = false) :
    ∃ Z : List Value, (Builtin.clear_ #[25] ty #[.slice (some ⟨g, o, none⟩) n c]).run Try.prog w = .ok (.tuple #[]) (w.setCells g o Z) := by
  refine ⟨(Builtin.zeroCells #[.int .i64 0, .int .i64 0, .int .i64 0, .slice none 0 0] n).toList, ?_⟩
  have hlen : (Builtin.zeroCells #[.int .i64 0, .int .i64 0, .int .i64 0, .slice none 0 0] n).toList.length = n * 4 := by simp [Builtin.zeroCells]
  have hone : ∀ v ∈ (Builtin.zeroCells #[.int .i64 0, .int .i64 0, .int .i64 0, .slice none 0 0] n).toList, v.oneCell' = true := by
    intro v hv
    simp only [Builtin.zeroCells, Array.mem_toList_iff, Array.mem_map] at hv
    obtain ⟨i, _, rfl⟩ := hv
    have h4 : i % 4 < 4 := Nat.mod_lt _ (by decide)
    generalize i % 4 = r at *
    match r, h4 with
    | 0, _ => rfl
    | 1, _ => rfl
    | 2, _ => rfl
    | 3, _ => rfl
  have hst := run_storeCells_cells (P := Try.prog) g o (Builtin.zeroCells #[.int .i64 0, .int .i64 0, .int .i64 0, .slice none 0 0] n).toList 0 w (by simpa [hlen] using hc) (by simpa [hlen] using hf) hone
  simp only [Nat.add_zero] at hst
  obtain ⟨m, rfl⟩ : ∃ m, n = m + 1 := ⟨n - 1, by omega⟩
  simp [Builtin.clear_, run_underlying Try.underlying25, hst, Value.cells]
/-- A packet as a value. -/
abbrev pkV (x : Pkt × Hdl) : Value := .agg #[.int .i64 x.1.1, .int .i64 x.1.2.1, .int .i64 x.1.2.2.1, .slice x.2.1 x.1.2.2.2.length x.2.2]
/-- A function value that picks packets: what it has caught lies in block B. -/
structure Picker (K : Nat) (caps : Array Value) (pick : Pkt → Bool) (B : Nat) (ob : Obj) : Prop where
  enter : ∀ (c : Array Value) (w : World), (callFunc K c).run Try.prog w = .ok (.enter K c) w
  call : ∀ (x : Pkt × Hdl) (w : World), w.heap[B]? = some ob → Calls Try.prog K (#[pkV x] ++ caps) w fun e w' => e = .returned (.bool (pick x.1)) ∧ Below w.heap.size w w'
set_option maxRecDepth 20000 in
set_option maxHeartbeats 2000000 in
theorem indexFunc_calls {base top : Nat} {w : World} {sp : Option Addr} {c : Nat} {xs : List (Pkt × Hdl)} (h : OwnP base top w sp c xs) (hx : xs.length ≤ 1000) {K : Nat} {caps : Array Value} {pick : Pkt → Bool} {B : Nat} {ob : Obj} (hK : Picker K caps pick B ob) (hB : w.heap[B]? = some ob) :
    Calls Try.prog 51 #[.slice sp xs.length c, .func (.func K) #[] caps] w fun e w' => (∃ r : Int, e = .returned (.int .i64 r) ∧ ((r = -1 ∧ ∀ x ∈ xs, pick x.1 = false) ∨ ∃ i : Nat, r = (i : Int) ∧ ∃ hi : i < xs.length, pick xs[i].1 = true ∧ ∀ q (hq : q < i), pick (xs[q]'(by omega)).1 = false)) ∧ Below w.heap.size w w' := by
  have H := hide h
  have HK := hide hK
  have HB := hide hB
  have hE := hK.enter
  clear h hK hB
  go_enter Try.func51, Try.ntmps51
  go_wp2_with fail
  go_loopw [8] (fun i wr => ∃ j : Nat, j ≤ xs.length ∧ i = .int .i64 (j : Int) ∧ Hid (∀ q (hq : q < j) (hq' : q < xs.length), pick xs[q].1 = false) ∧ Hid (Below w.heap.size w wr)) (fun i _ => xs.length - (intOf i).toNat)
  case atStart => exact ⟨0, by omega, rfl, fun q hq => by omega, Below.refl _ _⟩
  case round =>
    obtain ⟨j, hj, rfl, hdone, F⟩ := hrel
    by_cases hjn : j < xs.length
    · obtain ⟨g, rfl, p0, p1, p2, p3⟩ := ((unhide H).later (unhide F)).cell j hjn
      have hj0 : (0 : Int) ≤ (j : Int) := by omega
      have hj1 : (j : Int) < (xs.length : Int) := by omega
      go_wp2_with fail
      refine ((unhide HK).call xs[j] wr (later_block (unhide F) (unhide HB))).mono ?_
      rintro e w1 ⟨rfl, b1⟩
      have F1 := hide ((unhide F).trans (b1.mono (unhide F).size))
      clear b1 p0 p1 p2 p3
      cases hp : pick xs[j].1
      · have HD := hide (show ∀ q (hq : q < j + 1) (hq' : q < xs.length), pick xs[q].1 = false from fun q hq hq' => by
          by_cases e : q = j
          · subst e; exact hp
          · exact unhide hdone q (by omega) hq')
        go_wp2
        exact ⟨⟨j + 1, by omega, by go_num, unhide HD, unhide F1⟩, by simp [intOf]; omega⟩
      · have HP := hide hp
        go_wp2
        go_ret
        exact ⟨⟨(j : Int), rfl, .inr ⟨j, rfl, hjn, unhide HP, fun q hq => unhide hdone q hq (by omega)⟩⟩, unhide F1⟩
    · have HA := hide (show ∀ x ∈ xs, pick x.1 = false from fun x hx' => by
        obtain ⟨q, hq, rfl⟩ := List.getElem_of_mem hx'
        exact unhide hdone q (by omega) hq)
      go_wp2
      go_ret
      exact ⟨⟨-1, rfl, .inl ⟨rfl, unhide HA⟩⟩, unhide F⟩
end Go.Proofs.Yticemhnfcelpmaa
