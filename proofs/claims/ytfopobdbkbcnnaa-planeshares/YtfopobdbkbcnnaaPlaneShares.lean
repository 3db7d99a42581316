/- Proved: of n equal weights each has its share: the draw k / n and a bit takes the k-th one; for all four numbers; no condition. -/
import Derived.Test.YtfopobdbkbcnnaaParg
import Derived.Test.YtfopobdbkbcnnaaPld
import Derived.Test.YtfopobdbkbcnnaaPlf
import Derived.Deep.QuietTactic
namespace Go.Proofs.Ytfopobdbkbcnnaa.planeShares
open Go.ChangeShapes Go.WideShapes Go.ChangeAt Go.RowKit
set_option linter.unusedVariables false

theorem own : ownKnob Try.prog.godebug = none := by kernel_rfl
theorem laidOut : laidOutB Try.prog = true := by kernel_rfl

theorem wide_array {P : Program} {w : World} {r : Reach} {base : Nat} {t : TypeId} {v : Value} {n : Nat} {e : TypeId} (ht : P.underlying t = some (.array n e)) (h : Value.okWide P w r base t v) : ∃ cs, v = .agg cs ∧ cs.size = P.cellsOf t := by
  simp only [Value.okWide, ht] at h
  obtain ⟨cs, h1, h2, _⟩ := h
  exact ⟨cs, h1, h2⟩
structure Four where
  n : Nat
  k : Nat
  far : Nat
  w : Nat
theorem list4a {vs : Array Value} (h : vs.size = 4) : ∃ c0 c1 c2 c3, vs = #[c0, c1, c2, c3] := by
  obtain ⟨l⟩ := vs
  match l, h with
  | [c0, c1, c2, c3], _ => exact ⟨c0, c1, c2, c3, rfl⟩
set_option maxRecDepth 100000 in
theorem open_four {H : Type} {enc : TypeId × Value → H} {W : World} {r : Reach} {b0 : Nat} {v : Value} {d : DataW H} {p : List MemPlace} (hv : Value.okWide Try.prog W r b0 49 v)
    (h : DataW.Trod enc Try.prog W 0 (fun _ => true) true 49 v d p) : ∃ (e : Four) (_ : Unit), v = .agg #[.int .u8 (e.n : Int), .int .u8 (e.k : Int), .int .u8 (e.far : Int), .int .u8 (e.w : Int)] ∧ (e.n < 256 ∧ e.k < 256 ∧ e.far < 256 ∧ e.w < 256) := by
  obtain ⟨cs, rfl, hsz⟩ := wide_array Try.underlying49 hv
  obtain ⟨c0, c1, c2, c3, rfl⟩ := list4a (hsz.trans (by kernel_rfl))
  obtain ⟨fuel, hf⟩ := h
  obtain ⟨xs, m, _, _, _, hl, hx⟩ := DataW.trod_array Try.underlying49 hf
  have hc : Try.prog.cellsOf 5 = 1 := by kernel_rfl
  have h0 := hx 0 (by omega)
  have h1 := hx 1 (by omega)
  have h2 := hx 2 (by omega)
  have h3 := hx 3 (by omega)
  rw [hc, List.getElem?_eq_getElem (by omega)] at h0 h1 h2 h3
  obtain ⟨t0, e0, _, w0⟩ := DataW.trod_int Try.underlying5 h0
  obtain ⟨t1, e1, _, w1⟩ := DataW.trod_int Try.underlying5 h1
  obtain ⟨t2, e2, _, w2⟩ := DataW.trod_int Try.underlying5 h2
  obtain ⟨t3, e3, _, w3⟩ := DataW.trod_int Try.underlying5 h3
  simp [Value.cells] at e0 e1 e2 e3
  subst e0 e1 e2 e3
  obtain ⟨n0, rfl, b0⟩ := u8_nat w0
  obtain ⟨n1, rfl, b1⟩ := u8_nat w1
  obtain ⟨n2, rfl, b2⟩ := u8_nat w2
  obtain ⟨n3, rfl, b3⟩ := u8_nat w3
  exact ⟨⟨n0, n1, n2, n3⟩, (), rfl, b0, b1, b2, b3⟩
theorem rows2 (a b : Tg) : (rowsT [a, b]).toArray = #[.string a.1, .float .f64 a.2, .string b.1, .float .f64 b.2] := rfl
theorem rowsS (W : Nat) : (rowsT [sA W, sB]).toArray = #[.string ⟨#[97]⟩, .float .f64 (fl W 1074), .string ⟨#[98]⟩, .float .f64 0] := by
  rw [rows2]
  simp only [sA, sB]
theorem sL_lt (W : Nat) (hW : W ≤ 256) : ∀ j, ∀ t ∈ sL W j, t.2 < 18446744073709551616
  | 0, t, ht => by simp [sL] at ht
  | j + 1, t, ht => by
    unfold sL at ht
    rcases List.mem_append.1 ht with h | h
    · exact sL_lt W hW j t h
    · simp only [List.mem_cons, List.not_mem_nil, or_false] at h
      rcases h with rfl | rfl
      · have := (fl_ok W 1074 40 (by rw [p40]; omega) (by omega) (by omega)).1
        simp only [sA]
        simp only [fI] at this
        omega
      · decide
set_option maxRecDepth 20000 in
set_option maxHeartbeats 8000000 in
theorem walk0 (n k far u : Nat) (w : World) (hn4 : n % 4 = 0) (hn : n < 256) (hk : k < 256) (hf : far < 256) (hu : u < 256) :
    Calls Try.prog 9 #[.agg #[.int .u8 (n : Int), .int .u8 (k : Int), .int .u8 (far : Int), .int .u8 (u : Int)]] w fun e w' => e = .returned (.bool true) ∧ Below w.heap.size w w' := by
  have hi : k % 1 < 2 ^ 0 := Nat.mod_lt _ (by decide)
  obtain ⟨g2, g3, g4⟩ := share_draw 0 (k % 1) far (by omega) hi hf
  have r1 := shares 0 (u + 1) (k % 1) far (by omega) (by omega) (by omega) hi hf
  rw [show (2 : Nat) ^ 0 = 1 from rfl] at g4 r1
  have q2 := fun (ty : TypeId) (w : World) => run_float_arith (P := Try.prog) w .quo ty .f64 _ _ _ g2
  have q3 := fun (ty : TypeId) (w : World) => run_float_arith (P := Try.prog) w .add ty .f64 _ _ _ g3
  have q4 := fun (ty : TypeId) (w : World) => run_float_arith (P := Try.prog) w .quo ty .f64 _ _ _ g4
  have hdl := (fl_ok (k % 1 * 256 + far) (1066 - 0) 40 (by rw [p40]; omega) (by omega) (by omega)).1
  have hd64 : fl (k % 1 * 256 + far) (1066 - 0) < 18446744073709551616 := by simp only [fI] at hdl; omega
  have cv1 := conv_fl far
  have cv2 := conv_fl (k % 1)
  have cv3 : floatOfInt .f64 1 = fl 1 1074 := conv_fl 1
  have cv4 : floatOfInt .f64 ((u : Int) + 1) = fl (u + 1) 1074 := conv_fl (u + 1)
  have hr : (n : Int).tmod 4 = 0 := by
    rw [Int.tmod_eq_emod_of_nonneg (by omega)]
    omega
  have hk2 : (k : Int).tmod 1 = ((k % 1 : Nat) : Int) := by
    rw [Int.tmod_eq_emod_of_nonneg (by omega)]
    omega
  have hkl : k % 1 < 1 := Nat.mod_lt _ (by decide)
  have GL := hide (sL_lt (u + 1) (by omega) 1)
  have RS := hide (rowsS (u + 1))
  have b1 : Below w.heap.size w (w.alloc (.cells #[.int .u8 (n : Int), .int .u8 (k : Int), .int .u8 (far : Int), .int .u8 (u : Int)] 49)) := (Below.refl _ _).alloc (Nat.le_refl _) _
  have x1 := heap_new w (.cells #[.int .u8 (n : Int), .int .u8 (k : Int), .int .u8 (far : Int), .int .u8 (u : Int)] 49)
  have c0 := fcell0 x1 0 _ rfl
  have c1 := fcell0 x1 1 _ rfl
  have c2 := fcell0 x1 2 _ rfl
  have c3 := fcell0 x1 3 _ rfl
  have B1 := hide (show ∀ kk, Below w.heap.size w ((w.alloc (.cells #[.int .u8 (n : Int), .int .u8 (k : Int), .int .u8 (far : Int), .int .u8 (u : Int)] 49)).drewN kk) from fun kk => ⟨b1.os, b1.tape, b1.output, b1.size, b1.block⟩)
  clear hi g2 g3 g4 hdl b1 x1
  have R1 := hide r1
  have HD := hide hd64
  generalize fl (k % 1 * 256 + far) (1066 - 0) = dr at *
  generalize k % 1 = i at *
  clear r1 hd64 hn4
  go_enter Try.func9, Try.ntmps9
  go_wp2_with fail
  go_quiet (fail)
  have BV := hide (unhide B1 nq)
  generalize (w.alloc (.cells #[.int .u8 (n : Int), .int .u8 (k : Int), .int .u8 (far : Int), .int .u8 (u : Int)] 49)).drewN nq = V0 at *
  clear c0 c1 c2 c3 B1
  go_wp2_with fail
  go_loopw [9, 10] (fun s v wr => ∃ (j c m : Nat) (sp : Option Addr), j ≤ 1 ∧ v = .int .i64 (j : Int) ∧ s = .slice sp m c ∧ Hid (m = 2 * j) ∧ Hid (OwnT w.heap.size wr sp c (sL (u + 1) j)) ∧ Hid (Below w.heap.size w wr)) (fun _ v _ => 1 - (intOf v).toNat)
  case atStart => exact ⟨0, 0, 0, none, by omega, rfl, rfl, hide rfl, hide (OwnT.ofNil _ _), BV⟩
  case round =>
    obtain ⟨j, c, m, sp, hj, rfl, rfl, HM, O, B⟩ := hrel
    clear BV
    by_cases hjn : j < 1
    · have y1 : (j : Int) < 1 := by omega
      have bA : Below wr.heap.size wr (wr.alloc (.cells #[.string ⟨#[97]⟩, .float .f64 (fl (u + 1) 1074), .string ⟨#[98]⟩, .float .f64 0] 45)) := (Below.refl _ _).alloc (Nat.le_refl _) _
      have OA := hide ((unhide O).below bA)
      have XA := hide (show (wr.alloc (.cells #[.string ⟨#[97]⟩, .float .f64 (fl (u + 1) 1074), .string ⟨#[98]⟩, .float .f64 0] 45)).heap[wr.heap.size]? = some (.cells (rowsT [sA (u + 1), sB]).toArray 45 (0, 0)) by rw [unhide RS]; exact heap_new wr _)
      have BA := hide ((unhide B).trans (bA.mono (unhide B).size))
      have LL := hide (show (sL (u + 1) j).length = m by rw [sL_length, unhide HM])
      have hml : m ≤ 16 := by have := unhide HM; omega
      clear bA
      go_wp2_with (at_builtin; refine wpList_appendT rfl (.tmp 34) (.tmp 41) rfl w.heap.size sp m c (sL (u + 1) j) rfl (unhide LL) (unhide OA) wr.heap.size [sA (u + 1), sB] 2 rfl rfl (unhide XA) (by omega) (unhide BA).size ?_; intro sp2 c2 W2 ho2 hb2; have O2 := hide (show OwnT w.heap.size W2 sp2 c2 (sL (u + 1) (j + 1)) from ho2); have B2 := hide ((unhide BA).trans hb2); clear ho2 hb2)
      exact ⟨⟨j + 1, c2, m + 2, sp2, by omega, by go_num, rfl, hide (by have := unhide HM; omega), O2, B2⟩, by simp [intOf]; omega⟩
    · have hjj : ¬ (j : Int) < 1 := by omega
      obtain rfl : j = 1 := by omega
      have T1 := hide ((unhide O).at_ (unhide GL))
      have hm : m = 2 * 1 := unhide HM
      subst hm
      have W1 := hide (weigh_calls (unhide T1) (2 * 1) c (sL_length _ _) (by omega) dr (unhide HD))
      rw [unhide R1] at W1
      rw [show firstV (some (2 * i)) = .tuple #[.int .i64 (2 * (i : Int)), .bool true] by unfold firstV; simp only; congr 3] at W1
      go_wp2_with (first
        | (go_at_call 18; refine (unhide W1).mono ?_; rintro e V1 ⟨rfl, b1⟩; have D1 := hide ((unhide B).trans (b1.mono (unhide B).size)); clear b1)
        | (go_at_call 12; refine (live10_calls _).mono ?_; rintro e V3 ⟨rfl, b3⟩; have C3 := hide ((unhide D1).trans (b3.mono (unhide D1).size)); clear b3))
      go_ret
      exact ⟨rfl, unhide C3⟩
set_option maxRecDepth 20000 in
set_option maxHeartbeats 8000000 in
theorem walk1 (n k far u : Nat) (w : World) (hn4 : n % 4 = 1) (hn : n < 256) (hk : k < 256) (hf : far < 256) (hu : u < 256) :
    Calls Try.prog 9 #[.agg #[.int .u8 (n : Int), .int .u8 (k : Int), .int .u8 (far : Int), .int .u8 (u : Int)]] w fun e w' => e = .returned (.bool true) ∧ Below w.heap.size w w' := by
  have hi : k % 2 < 2 ^ 1 := Nat.mod_lt _ (by decide)
  obtain ⟨g2, g3, g4⟩ := share_draw 1 (k % 2) far (by omega) hi hf
  have r1 := shares 1 (u + 1) (k % 2) far (by omega) (by omega) (by omega) hi hf
  rw [show (2 : Nat) ^ 1 = 2 from rfl] at g4 r1
  have q2 := fun (ty : TypeId) (w : World) => run_float_arith (P := Try.prog) w .quo ty .f64 _ _ _ g2
  have q3 := fun (ty : TypeId) (w : World) => run_float_arith (P := Try.prog) w .add ty .f64 _ _ _ g3
  have q4 := fun (ty : TypeId) (w : World) => run_float_arith (P := Try.prog) w .quo ty .f64 _ _ _ g4
  have hdl := (fl_ok (k % 2 * 256 + far) (1066 - 1) 40 (by rw [p40]; omega) (by omega) (by omega)).1
  have hd64 : fl (k % 2 * 256 + far) (1066 - 1) < 18446744073709551616 := by simp only [fI] at hdl; omega
  have cv1 := conv_fl far
  have cv2 := conv_fl (k % 2)
  have cv3 : floatOfInt .f64 2 = fl 2 1074 := conv_fl 2
  have cv4 : floatOfInt .f64 ((u : Int) + 1) = fl (u + 1) 1074 := conv_fl (u + 1)
  have hr : (n : Int).tmod 4 = 1 := by
    rw [Int.tmod_eq_emod_of_nonneg (by omega)]
    omega
  have hk2 : (k : Int).tmod 2 = ((k % 2 : Nat) : Int) := by
    rw [Int.tmod_eq_emod_of_nonneg (by omega)]
    omega
  have hkl : k % 2 < 2 := Nat.mod_lt _ (by decide)
  have GL := hide (sL_lt (u + 1) (by omega) 2)
  have RS := hide (rowsS (u + 1))
  have b1 : Below w.heap.size w (w.alloc (.cells #[.int .u8 (n : Int), .int .u8 (k : Int), .int .u8 (far : Int), .int .u8 (u : Int)] 49)) := (Below.refl _ _).alloc (Nat.le_refl _) _
  have x1 := heap_new w (.cells #[.int .u8 (n : Int), .int .u8 (k : Int), .int .u8 (far : Int), .int .u8 (u : Int)] 49)
  have c0 := fcell0 x1 0 _ rfl
  have c1 := fcell0 x1 1 _ rfl
  have c2 := fcell0 x1 2 _ rfl
  have c3 := fcell0 x1 3 _ rfl
  have B1 := hide (show ∀ kk, Below w.heap.size w ((w.alloc (.cells #[.int .u8 (n : Int), .int .u8 (k : Int), .int .u8 (far : Int), .int .u8 (u : Int)] 49)).drewN kk) from fun kk => ⟨b1.os, b1.tape, b1.output, b1.size, b1.block⟩)
  clear hi g2 g3 g4 hdl b1 x1
  have R1 := hide r1
  have HD := hide hd64
  generalize fl (k % 2 * 256 + far) (1066 - 1) = dr at *
  generalize k % 2 = i at *
  clear r1 hd64 hn4
  go_enter Try.func9, Try.ntmps9
  go_wp2_with fail
  go_quiet (fail)
  have BV := hide (unhide B1 nq)
  generalize (w.alloc (.cells #[.int .u8 (n : Int), .int .u8 (k : Int), .int .u8 (far : Int), .int .u8 (u : Int)] 49)).drewN nq = V0 at *
  clear c0 c1 c2 c3 B1
  go_wp2_with fail
  go_loopw [9, 10] (fun s v wr => ∃ (j c m : Nat) (sp : Option Addr), j ≤ 2 ∧ v = .int .i64 (j : Int) ∧ s = .slice sp m c ∧ Hid (m = 2 * j) ∧ Hid (OwnT w.heap.size wr sp c (sL (u + 1) j)) ∧ Hid (Below w.heap.size w wr)) (fun _ v _ => 2 - (intOf v).toNat)
  case atStart => exact ⟨0, 0, 0, none, by omega, rfl, rfl, hide rfl, hide (OwnT.ofNil _ _), BV⟩
  case round =>
    obtain ⟨j, c, m, sp, hj, rfl, rfl, HM, O, B⟩ := hrel
    clear BV
    by_cases hjn : j < 2
    · have y1 : (j : Int) < 2 := by omega
      have bA : Below wr.heap.size wr (wr.alloc (.cells #[.string ⟨#[97]⟩, .float .f64 (fl (u + 1) 1074), .string ⟨#[98]⟩, .float .f64 0] 45)) := (Below.refl _ _).alloc (Nat.le_refl _) _
      have OA := hide ((unhide O).below bA)
      have XA := hide (show (wr.alloc (.cells #[.string ⟨#[97]⟩, .float .f64 (fl (u + 1) 1074), .string ⟨#[98]⟩, .float .f64 0] 45)).heap[wr.heap.size]? = some (.cells (rowsT [sA (u + 1), sB]).toArray 45 (0, 0)) by rw [unhide RS]; exact heap_new wr _)
      have BA := hide ((unhide B).trans (bA.mono (unhide B).size))
      have LL := hide (show (sL (u + 1) j).length = m by rw [sL_length, unhide HM])
      have hml : m ≤ 16 := by have := unhide HM; omega
      clear bA
      go_wp2_with (at_builtin; refine wpList_appendT rfl (.tmp 34) (.tmp 41) rfl w.heap.size sp m c (sL (u + 1) j) rfl (unhide LL) (unhide OA) wr.heap.size [sA (u + 1), sB] 2 rfl rfl (unhide XA) (by omega) (unhide BA).size ?_; intro sp2 c2 W2 ho2 hb2; have O2 := hide (show OwnT w.heap.size W2 sp2 c2 (sL (u + 1) (j + 1)) from ho2); have B2 := hide ((unhide BA).trans hb2); clear ho2 hb2)
      exact ⟨⟨j + 1, c2, m + 2, sp2, by omega, by go_num, rfl, hide (by have := unhide HM; omega), O2, B2⟩, by simp [intOf]; omega⟩
    · have hjj : ¬ (j : Int) < 2 := by omega
      obtain rfl : j = 2 := by omega
      have T1 := hide ((unhide O).at_ (unhide GL))
      have hm : m = 2 * 2 := unhide HM
      subst hm
      have W1 := hide (weigh_calls (unhide T1) (2 * 2) c (sL_length _ _) (by omega) dr (unhide HD))
      rw [unhide R1] at W1
      rw [show firstV (some (2 * i)) = .tuple #[.int .i64 (2 * (i : Int)), .bool true] by unfold firstV; simp only; congr 3] at W1
      go_wp2_with (first
        | (go_at_call 18; refine (unhide W1).mono ?_; rintro e V1 ⟨rfl, b1⟩; have D1 := hide ((unhide B).trans (b1.mono (unhide B).size)); clear b1)
        | (go_at_call 12; refine (live10_calls _).mono ?_; rintro e V3 ⟨rfl, b3⟩; have C3 := hide ((unhide D1).trans (b3.mono (unhide D1).size)); clear b3))
      go_ret
      exact ⟨rfl, unhide C3⟩
set_option maxRecDepth 20000 in
set_option maxHeartbeats 8000000 in
theorem walk2 (n k far u : Nat) (w : World) (hn4 : n % 4 = 2) (hn : n < 256) (hk : k < 256) (hf : far < 256) (hu : u < 256) :
    Calls Try.prog 9 #[.agg #[.int .u8 (n : Int), .int .u8 (k : Int), .int .u8 (far : Int), .int .u8 (u : Int)]] w fun e w' => e = .returned (.bool true) ∧ Below w.heap.size w w' := by
  have hi : k % 4 < 2 ^ 2 := Nat.mod_lt _ (by decide)
  obtain ⟨g2, g3, g4⟩ := share_draw 2 (k % 4) far (by omega) hi hf
  have r1 := shares 2 (u + 1) (k % 4) far (by omega) (by omega) (by omega) hi hf
  rw [show (2 : Nat) ^ 2 = 4 from rfl] at g4 r1
  have q2 := fun (ty : TypeId) (w : World) => run_float_arith (P := Try.prog) w .quo ty .f64 _ _ _ g2
  have q3 := fun (ty : TypeId) (w : World) => run_float_arith (P := Try.prog) w .add ty .f64 _ _ _ g3
  have q4 := fun (ty : TypeId) (w : World) => run_float_arith (P := Try.prog) w .quo ty .f64 _ _ _ g4
  have hdl := (fl_ok (k % 4 * 256 + far) (1066 - 2) 40 (by rw [p40]; omega) (by omega) (by omega)).1
  have hd64 : fl (k % 4 * 256 + far) (1066 - 2) < 18446744073709551616 := by simp only [fI] at hdl; omega
  have cv1 := conv_fl far
  have cv2 := conv_fl (k % 4)
  have cv3 : floatOfInt .f64 4 = fl 4 1074 := conv_fl 4
  have cv4 : floatOfInt .f64 ((u : Int) + 1) = fl (u + 1) 1074 := conv_fl (u + 1)
  have hr : (n : Int).tmod 4 = 2 := by
    rw [Int.tmod_eq_emod_of_nonneg (by omega)]
    omega
  have hk2 : (k : Int).tmod 4 = ((k % 4 : Nat) : Int) := by
    rw [Int.tmod_eq_emod_of_nonneg (by omega)]
    omega
  have hkl : k % 4 < 4 := Nat.mod_lt _ (by decide)
  have GL := hide (sL_lt (u + 1) (by omega) 4)
  have RS := hide (rowsS (u + 1))
  have b1 : Below w.heap.size w (w.alloc (.cells #[.int .u8 (n : Int), .int .u8 (k : Int), .int .u8 (far : Int), .int .u8 (u : Int)] 49)) := (Below.refl _ _).alloc (Nat.le_refl _) _
  have x1 := heap_new w (.cells #[.int .u8 (n : Int), .int .u8 (k : Int), .int .u8 (far : Int), .int .u8 (u : Int)] 49)
  have c0 := fcell0 x1 0 _ rfl
  have c1 := fcell0 x1 1 _ rfl
  have c2 := fcell0 x1 2 _ rfl
  have c3 := fcell0 x1 3 _ rfl
  have B1 := hide (show ∀ kk, Below w.heap.size w ((w.alloc (.cells #[.int .u8 (n : Int), .int .u8 (k : Int), .int .u8 (far : Int), .int .u8 (u : Int)] 49)).drewN kk) from fun kk => ⟨b1.os, b1.tape, b1.output, b1.size, b1.block⟩)
  clear hi g2 g3 g4 hdl b1 x1
  have R1 := hide r1
  have HD := hide hd64
  generalize fl (k % 4 * 256 + far) (1066 - 2) = dr at *
  generalize k % 4 = i at *
  clear r1 hd64 hn4
  go_enter Try.func9, Try.ntmps9
  go_wp2_with fail
  go_quiet (fail)
  have BV := hide (unhide B1 nq)
  generalize (w.alloc (.cells #[.int .u8 (n : Int), .int .u8 (k : Int), .int .u8 (far : Int), .int .u8 (u : Int)] 49)).drewN nq = V0 at *
  clear c0 c1 c2 c3 B1
  go_wp2_with fail
  go_loopw [9, 10] (fun s v wr => ∃ (j c m : Nat) (sp : Option Addr), j ≤ 4 ∧ v = .int .i64 (j : Int) ∧ s = .slice sp m c ∧ Hid (m = 2 * j) ∧ Hid (OwnT w.heap.size wr sp c (sL (u + 1) j)) ∧ Hid (Below w.heap.size w wr)) (fun _ v _ => 4 - (intOf v).toNat)
  case atStart => exact ⟨0, 0, 0, none, by omega, rfl, rfl, hide rfl, hide (OwnT.ofNil _ _), BV⟩
  case round =>
    obtain ⟨j, c, m, sp, hj, rfl, rfl, HM, O, B⟩ := hrel
    clear BV
    by_cases hjn : j < 4
    · have y1 : (j : Int) < 4 := by omega
      have bA : Below wr.heap.size wr (wr.alloc (.cells #[.string ⟨#[97]⟩, .float .f64 (fl (u + 1) 1074), .string ⟨#[98]⟩, .float .f64 0] 45)) := (Below.refl _ _).alloc (Nat.le_refl _) _
      have OA := hide ((unhide O).below bA)
      have XA := hide (show (wr.alloc (.cells #[.string ⟨#[97]⟩, .float .f64 (fl (u + 1) 1074), .string ⟨#[98]⟩, .float .f64 0] 45)).heap[wr.heap.size]? = some (.cells (rowsT [sA (u + 1), sB]).toArray 45 (0, 0)) by rw [unhide RS]; exact heap_new wr _)
      have BA := hide ((unhide B).trans (bA.mono (unhide B).size))
      have LL := hide (show (sL (u + 1) j).length = m by rw [sL_length, unhide HM])
      have hml : m ≤ 16 := by have := unhide HM; omega
      clear bA
      go_wp2_with (at_builtin; refine wpList_appendT rfl (.tmp 34) (.tmp 41) rfl w.heap.size sp m c (sL (u + 1) j) rfl (unhide LL) (unhide OA) wr.heap.size [sA (u + 1), sB] 2 rfl rfl (unhide XA) (by omega) (unhide BA).size ?_; intro sp2 c2 W2 ho2 hb2; have O2 := hide (show OwnT w.heap.size W2 sp2 c2 (sL (u + 1) (j + 1)) from ho2); have B2 := hide ((unhide BA).trans hb2); clear ho2 hb2)
      exact ⟨⟨j + 1, c2, m + 2, sp2, by omega, by go_num, rfl, hide (by have := unhide HM; omega), O2, B2⟩, by simp [intOf]; omega⟩
    · have hjj : ¬ (j : Int) < 4 := by omega
      obtain rfl : j = 4 := by omega
      have T1 := hide ((unhide O).at_ (unhide GL))
      have hm : m = 2 * 4 := unhide HM
      subst hm
      have W1 := hide (weigh_calls (unhide T1) (2 * 4) c (sL_length _ _) (by omega) dr (unhide HD))
      rw [unhide R1] at W1
      rw [show firstV (some (2 * i)) = .tuple #[.int .i64 (2 * (i : Int)), .bool true] by unfold firstV; simp only; congr 3] at W1
      go_wp2_with (first
        | (go_at_call 18; refine (unhide W1).mono ?_; rintro e V1 ⟨rfl, b1⟩; have D1 := hide ((unhide B).trans (b1.mono (unhide B).size)); clear b1)
        | (go_at_call 12; refine (live10_calls _).mono ?_; rintro e V3 ⟨rfl, b3⟩; have C3 := hide ((unhide D1).trans (b3.mono (unhide D1).size)); clear b3))
      go_ret
      exact ⟨rfl, unhide C3⟩
set_option maxRecDepth 20000 in
set_option maxHeartbeats 8000000 in
theorem walk3 (n k far u : Nat) (w : World) (hn4 : n % 4 = 3) (hn : n < 256) (hk : k < 256) (hf : far < 256) (hu : u < 256) :
    Calls Try.prog 9 #[.agg #[.int .u8 (n : Int), .int .u8 (k : Int), .int .u8 (far : Int), .int .u8 (u : Int)]] w fun e w' => e = .returned (.bool true) ∧ Below w.heap.size w w' := by
  have hi : k % 8 < 2 ^ 3 := Nat.mod_lt _ (by decide)
  obtain ⟨g2, g3, g4⟩ := share_draw 3 (k % 8) far (by omega) hi hf
  have r1 := shares 3 (u + 1) (k % 8) far (by omega) (by omega) (by omega) hi hf
  rw [show (2 : Nat) ^ 3 = 8 from rfl] at g4 r1
  have q2 := fun (ty : TypeId) (w : World) => run_float_arith (P := Try.prog) w .quo ty .f64 _ _ _ g2
  have q3 := fun (ty : TypeId) (w : World) => run_float_arith (P := Try.prog) w .add ty .f64 _ _ _ g3
  have q4 := fun (ty : TypeId) (w : World) => run_float_arith (P := Try.prog) w .quo ty .f64 _ _ _ g4
  have hdl := (fl_ok (k % 8 * 256 + far) (1066 - 3) 40 (by rw [p40]; omega) (by omega) (by omega)).1
  have hd64 : fl (k % 8 * 256 + far) (1066 - 3) < 18446744073709551616 := by simp only [fI] at hdl; omega
  have cv1 := conv_fl far
  have cv2 := conv_fl (k % 8)
  have cv3 : floatOfInt .f64 8 = fl 8 1074 := conv_fl 8
  have cv4 : floatOfInt .f64 ((u : Int) + 1) = fl (u + 1) 1074 := conv_fl (u + 1)
  have hr : (n : Int).tmod 4 = 3 := by
    rw [Int.tmod_eq_emod_of_nonneg (by omega)]
    omega
  have hk2 : (k : Int).tmod 8 = ((k % 8 : Nat) : Int) := by
    rw [Int.tmod_eq_emod_of_nonneg (by omega)]
    omega
  have hkl : k % 8 < 8 := Nat.mod_lt _ (by decide)
  have GL := hide (sL_lt (u + 1) (by omega) 8)
  have RS := hide (rowsS (u + 1))
  have b1 : Below w.heap.size w (w.alloc (.cells #[.int .u8 (n : Int), .int .u8 (k : Int), .int .u8 (far : Int), .int .u8 (u : Int)] 49)) := (Below.refl _ _).alloc (Nat.le_refl _) _
  have x1 := heap_new w (.cells #[.int .u8 (n : Int), .int .u8 (k : Int), .int .u8 (far : Int), .int .u8 (u : Int)] 49)
  have c0 := fcell0 x1 0 _ rfl
  have c1 := fcell0 x1 1 _ rfl
  have c2 := fcell0 x1 2 _ rfl
  have c3 := fcell0 x1 3 _ rfl
  have B1 := hide (show ∀ kk, Below w.heap.size w ((w.alloc (.cells #[.int .u8 (n : Int), .int .u8 (k : Int), .int .u8 (far : Int), .int .u8 (u : Int)] 49)).drewN kk) from fun kk => ⟨b1.os, b1.tape, b1.output, b1.size, b1.block⟩)
  clear hi g2 g3 g4 hdl b1 x1
  have R1 := hide r1
  have HD := hide hd64
  generalize fl (k % 8 * 256 + far) (1066 - 3) = dr at *
  generalize k % 8 = i at *
  clear r1 hd64 hn4
  go_enter Try.func9, Try.ntmps9
  go_wp2_with fail
  go_quiet (fail)
  have BV := hide (unhide B1 nq)
  generalize (w.alloc (.cells #[.int .u8 (n : Int), .int .u8 (k : Int), .int .u8 (far : Int), .int .u8 (u : Int)] 49)).drewN nq = V0 at *
  clear c0 c1 c2 c3 B1
  go_wp2_with fail
  go_loopw [9, 10] (fun s v wr => ∃ (j c m : Nat) (sp : Option Addr), j ≤ 8 ∧ v = .int .i64 (j : Int) ∧ s = .slice sp m c ∧ Hid (m = 2 * j) ∧ Hid (OwnT w.heap.size wr sp c (sL (u + 1) j)) ∧ Hid (Below w.heap.size w wr)) (fun _ v _ => 8 - (intOf v).toNat)
  case atStart => exact ⟨0, 0, 0, none, by omega, rfl, rfl, hide rfl, hide (OwnT.ofNil _ _), BV⟩
  case round =>
    obtain ⟨j, c, m, sp, hj, rfl, rfl, HM, O, B⟩ := hrel
    clear BV
    by_cases hjn : j < 8
    · have y1 : (j : Int) < 8 := by omega
      have bA : Below wr.heap.size wr (wr.alloc (.cells #[.string ⟨#[97]⟩, .float .f64 (fl (u + 1) 1074), .string ⟨#[98]⟩, .float .f64 0] 45)) := (Below.refl _ _).alloc (Nat.le_refl _) _
      have OA := hide ((unhide O).below bA)
      have XA := hide (show (wr.alloc (.cells #[.string ⟨#[97]⟩, .float .f64 (fl (u + 1) 1074), .string ⟨#[98]⟩, .float .f64 0] 45)).heap[wr.heap.size]? = some (.cells (rowsT [sA (u + 1), sB]).toArray 45 (0, 0)) by rw [unhide RS]; exact heap_new wr _)
      have BA := hide ((unhide B).trans (bA.mono (unhide B).size))
      have LL := hide (show (sL (u + 1) j).length = m by rw [sL_length, unhide HM])
      have hml : m ≤ 16 := by have := unhide HM; omega
      clear bA
      go_wp2_with (at_builtin; refine wpList_appendT rfl (.tmp 34) (.tmp 41) rfl w.heap.size sp m c (sL (u + 1) j) rfl (unhide LL) (unhide OA) wr.heap.size [sA (u + 1), sB] 2 rfl rfl (unhide XA) (by omega) (unhide BA).size ?_; intro sp2 c2 W2 ho2 hb2; have O2 := hide (show OwnT w.heap.size W2 sp2 c2 (sL (u + 1) (j + 1)) from ho2); have B2 := hide ((unhide BA).trans hb2); clear ho2 hb2)
      exact ⟨⟨j + 1, c2, m + 2, sp2, by omega, by go_num, rfl, hide (by have := unhide HM; omega), O2, B2⟩, by simp [intOf]; omega⟩
    · have hjj : ¬ (j : Int) < 8 := by omega
      obtain rfl : j = 8 := by omega
      have T1 := hide ((unhide O).at_ (unhide GL))
      have hm : m = 2 * 8 := unhide HM
      subst hm
      have W1 := hide (weigh_calls (unhide T1) (2 * 8) c (sL_length _ _) (by omega) dr (unhide HD))
      rw [unhide R1] at W1
      rw [show firstV (some (2 * i)) = .tuple #[.int .i64 (2 * (i : Int)), .bool true] by unfold firstV; simp only; congr 3] at W1
      go_wp2_with (first
        | (go_at_call 18; refine (unhide W1).mono ?_; rintro e V1 ⟨rfl, b1⟩; have D1 := hide ((unhide B).trans (b1.mono (unhide B).size)); clear b1)
        | (go_at_call 12; refine (live10_calls _).mono ?_; rintro e V3 ⟨rfl, b3⟩; have C3 := hide ((unhide D1).trans (b3.mono (unhide D1).size)); clear b3))
      go_ret
      exact ⟨rfl, unhide C3⟩
theorem walk (e : Four) (_q : Unit) (w : World) (h : e.n < 256 ∧ e.k < 256 ∧ e.far < 256 ∧ e.w < 256) :
    Calls Try.prog 9 #[.agg #[.int .u8 (e.n : Int), .int .u8 (e.k : Int), .int .u8 (e.far : Int), .int .u8 (e.w : Int)]] w fun e w' => e = .returned (.bool true) ∧ Below w.heap.size w w' := by
  obtain ⟨n, k, far, u⟩ := e
  obtain ⟨hn, hk, hf, hu⟩ := h
  simp only at hn hk hf hu ⊢
  rcases (by omega : n % 4 = 0 ∨ n % 4 = 1 ∨ n % 4 = 2 ∨ n % 4 = 3) with h | h | h | h
  · exact walk0 n k far u w h hn hk hf hu
  · exact walk1 n k far u w h hn hk hf hu
  · exact walk2 n k far u w h hn hk hf hu
  · exact walk3 n k far u w h hn hk hf hu

set_option maxRecDepth 100000 in
theorem lifted (os : Os) (started : os.Started) (H : Type) (enc : TypeId × Value → H) :
    ReturnsInHanded {} Try.checked os 9 .any (Rows.planeSharesSpec.pre6 enc Try.prog Try.f9 Rows.planeSharesRow.domain false) (Rows.planeSharesSpec.post enc Try.prog Try.f9 false true false false) := by
  refine returnsInHanded_of_change_sized (C := Try.checked) own started (by kernel_rfl) Try.func9
    (ChangeSpec.witness6 (enc := enc) (C := Try.checked) false ⟨#[], #[.agg #[.int .u8 0, .int .u8 0, .int .u8 0, .int .u8 0]], []⟩ 8 (by kernel_rfl) (by kernel_rfl) (by kernel_rfl) (by kernel_rfl)) ?_
  intro W base args ds gs before hval0 hW hcnd hsz _
  have hval : ∀ (j : Nat) t v, Try.f9.params[j]? = some t → args[j]? = some v → Value.okWide Try.prog W .any base t v := hval0
  have hW' := hW
  obtain ⟨p, q, hA0, hV, rfl, hfz, hnd⟩ := hW
  have hA : DataW.TrodAll enc Try.prog W 0 (fun _ => true) true Try.f9.params.toList args.toList ds p := hA0
  rw [Try.params9] at hA hval
  obtain ⟨v0, vs0, d0, ds0, p0, q0, hargs, rfl, rfl, h0, r0⟩ := trodAll_cons hA
  obtain ⟨rfl, rfl, rfl⟩ := trodAll_nil r0
  obtain rfl : args = #[v0] := by cases args; simp_all
  obtain ⟨rfl, rfl⟩ := trodVars_none hV
  have k0 := h0
  have lt0 : ∀ x ∈ p0, x.block < W.heap.size := by obtain ⟨m, hm⟩ := k0; exact DataW.trod_lt m _ _ _ hm
  obtain ⟨e0, q0, rfl, hb0⟩ := open_four (hval 0 49 v0 rfl rfl) h0
  clear hA0 hval0
  refine (walk e0 q0 W hb0).mono fun e W' ⟨he, bel⟩ => ?_
  subst he
  exact ⟨_, rfl, _, _, _, [], _, [], hW', trodAll_mk1 (shut_bool Try.underlying4 _), (trodAll_cons_mk (Below.trod laidOut (by kernel_rfl) (of_decide_eq_true (by kernel_rfl)) k0 bel lt0) trodAll_mk0), rfl, bel.frame _, fun h => by cases h⟩

theorem proved : Rows.PlaneSharesSaid :=
  OpenClaim.holds_of_wide 9 Try.f9 rfl rfl rfl rfl rfl rfl rfl ⟨rfl, rfl, rfl, rfl, rfl⟩ rfl rfl rfl rfl rfl (by kernel_rfl) Try.func9 (by kernel_rfl)
    (of_decide_eq_true (by kernel_rfl)) (by unfold Func.isWrapper; first | (rw [if_pos (by decide +kernel)]; kernel_rfl) | (rw [if_neg (by decide +kernel)]; exact ⟨rfl, rfl⟩))
    (fun os started H enc _ => lifted os started H enc)
end Go.Proofs.Ytfopobdbkbcnnaa.planeShares
namespace Go.Proofs.Ytfopobdbkbcnnaa
theorem planeShares_holds : Rows.PlaneSharesSaid := planeShares.proved
#print axioms planeShares_holds
end Go.Proofs.Ytfopobdbkbcnnaa
