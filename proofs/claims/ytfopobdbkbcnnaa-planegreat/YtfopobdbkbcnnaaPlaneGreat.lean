/- Proved: weights whose sum is too great for a float count by their parts of it: which of up to 16 greatest floats a draw takes; for all n, k and far; no condition. -/
import Derived.Test.YtfopobdbkbcnnaaParg
import Derived.Test.YtfopobdbkbcnnaaPld
import Derived.Test.YtfopobdbkbcnnaaPle
namespace Go.Proofs.Ytfopobdbkbcnnaa.planeGreat
open Go.ChangeShapes Go.WideShapes Go.ChangeAt Go.RowKit
set_option linter.unusedVariables false

theorem own : ownKnob Try.prog.godebug = none := by kernel_rfl
theorem laidOut : laidOutB Try.prog = true := by kernel_rfl

theorem rowsG : (rowsT [gT]).toArray = #[.string ⟨#[97]⟩, .float .f64 9218868437227405311] := rfl
theorem gT_lt (j : Nat) : ∀ t ∈ List.replicate j gT, t.2 < 18446744073709551616 := by
  intro t ht
  rw [List.eq_of_mem_replicate ht]
  decide
set_option maxRecDepth 20000 in
set_option maxHeartbeats 8000000 in
theorem walk0 (n k far : Nat) (w : World) (hn4 : n % 4 = 0) (hn : n < 256) (hk : k < 256) (hf : far < 256) :
    Calls Try.prog 10 #[.int .u8 (n : Int), .int .u8 (k : Int), .int .u8 (far : Int)] w fun e w' => e = .returned (.bool true) ∧ Below w.heap.size w w' := by
  have hi : k % 2 < 2 ^ 1 := Nat.mod_lt _ (by decide)
  obtain ⟨g1, g2, g3, g4⟩ := great_draw 1 (k % 2) far (by omega) hi hf
  obtain ⟨r1, r2⟩ := great 1 (k % 2) far (by omega) gOk1 hi hf
  rw [show (2 : Nat) ^ 1 = 2 from rfl] at g4 r1 r2
  have q1 := fun (ty : TypeId) (w : World) => run_float_arith (P := Try.prog) w .add ty .f64 _ _ _ g1
  have q2 := fun (ty : TypeId) (w : World) => run_float_arith (P := Try.prog) w .quo ty .f64 _ _ _ g2
  have q3 := fun (ty : TypeId) (w : World) => run_float_arith (P := Try.prog) w .add ty .f64 _ _ _ g3
  have q4 := fun (ty : TypeId) (w : World) => run_float_arith (P := Try.prog) w .quo ty .f64 _ _ _ g4
  have p14 : pw 14 = 16384 := by decide
  have hdl := (fl_ok (k % 2 * 512 + (1 + far)) (1065 - 1) 14 (by omega) (by omega) (by omega)).1
  have hd64 : fl (k % 2 * 512 + (1 + far)) (1065 - 1) < 18446744073709551616 := by simp only [fI] at hdl; omega
  have cv1 := conv_fl far
  have cv2 := conv_fl (k % 2)
  have cv3 : floatOfInt .f64 2 = fl 2 1074 := conv_fl 2
  have hr : (n : Int).tmod 4 = 0 := by
    rw [Int.tmod_eq_emod_of_nonneg (by omega)]
    omega
  have hk2 : (k : Int).tmod 2 = ((k % 2 : Nat) : Int) := by
    rw [Int.tmod_eq_emod_of_nonneg (by omega)]
    omega
  have hkl : k % 2 < 2 := Nat.mod_lt _ (by decide)
  clear hi g1 g2 g3 g4 p14 hdl
  have R1 := hide r1
  have R2 := hide r2
  have HD := hide hd64
  generalize fl (k % 2 * 512 + (1 + far)) (1065 - 1) = dr at *
  generalize k % 2 = i at *
  clear r1 r2 hd64 hn4
  go_enter Try.func10, Try.ntmps10
  go_wp2_with fail
  go_loopw [9, 10] (fun s u wr => ∃ (j c : Nat) (sp : Option Addr), j ≤ 2 ∧ u = .int .i64 (j : Int) ∧ s = .slice sp j c ∧ Hid (OwnT w.heap.size wr sp c (List.replicate j gT)) ∧ Hid (Below w.heap.size w wr)) (fun _ u _ => 2 - (intOf u).toNat)
  case atStart => exact ⟨0, 0, none, by omega, rfl, rfl, hide (OwnT.ofNil _ _), hide (Below.refl _ _)⟩
  case round =>
    obtain ⟨j, c, sp, hj, rfl, rfl, O, B⟩ := hrel
    by_cases hjn : j < 2
    · have y1 : (j : Int) < 2 := by omega
      have bA : Below wr.heap.size wr (wr.alloc (.cells #[.string ⟨#[97]⟩, .float .f64 9218868437227405311] 45)) := (Below.refl _ _).alloc (Nat.le_refl _) _
      have OA := hide ((unhide O).below bA)
      have XA := hide (show (wr.alloc (.cells #[.string ⟨#[97]⟩, .float .f64 9218868437227405311] 45)).heap[wr.heap.size]? = some (.cells (rowsT [gT]).toArray 45 (0, 0)) from heap_new wr _)
      have BA := hide ((unhide B).trans (bA.mono (unhide B).size))
      clear bA
      go_wp2_with (at_builtin; refine wpList_appendT rfl (.tmp 28) (.tmp 30) rfl w.heap.size sp j c (List.replicate j gT) rfl List.length_replicate (unhide OA) wr.heap.size [gT] 1 rfl rfl (unhide XA) (by omega) (unhide BA).size ?_; intro sp2 c2 W2 ho2 hb2; rw [← List.replicate_succ'] at ho2; have O2 := hide ho2; have B2 := hide ((unhide BA).trans hb2); clear ho2 hb2)
      exact ⟨⟨j + 1, c2, sp2, by omega, by go_num, by rfl, O2, B2⟩, by simp [intOf]; omega⟩
    · have hjj : ¬ (j : Int) < 2 := by omega
      obtain rfl : j = 2 := by omega
      have T1 := hide ((unhide O).at_ (gT_lt 2))
      have W1 := hide (weigh_calls (unhide T1) 2 c List.length_replicate (by omega) dr (unhide HD))
      have W2 := hide (fun W (hb : Below wr.heap.size wr W) => weigh_calls ((unhide T1).later hb) 2 c List.length_replicate (by omega) 9218868437227405312 (by decide))
      rw [unhide R1] at W1
      rw [show weighN (List.replicate 2 gT) 9218868437227405312 = _ from unhide R2] at W2
      unfold firstV at W1 W2
      go_wp2_with (first
        | (have hV : C1 = C1 := rfl
           clear hV
           go_at_call 18; refine (unhide W2 _ (unhide C1)).mono ?_; rintro e V2 ⟨rfl, b2⟩; have C2 := hide ((unhide D1).trans (b2.mono (unhide D1).size)); clear b2)
        | (go_at_call 23; refine (pinf_calls _).mono ?_; rintro e V1 ⟨rfl, rfl⟩)
        | (go_at_call 18; refine (unhide W1).mono ?_; rintro e V1 ⟨rfl, b1⟩; have C1 := hide b1; have D1 := hide ((unhide B).trans (b1.mono (unhide B).size)); clear b1)
        | (go_at_call 12; refine (live10_calls _).mono ?_; rintro e V3 ⟨rfl, b3⟩; have C3 := hide ((unhide C2).trans (b3.mono (unhide C2).size)); clear b3))
      go_ret
      exact ⟨rfl, unhide C3⟩
set_option maxRecDepth 20000 in
set_option maxHeartbeats 8000000 in
theorem walk1 (n k far : Nat) (w : World) (hn4 : n % 4 = 1) (hn : n < 256) (hk : k < 256) (hf : far < 256) :
    Calls Try.prog 10 #[.int .u8 (n : Int), .int .u8 (k : Int), .int .u8 (far : Int)] w fun e w' => e = .returned (.bool true) ∧ Below w.heap.size w w' := by
  have hi : k % 4 < 2 ^ 2 := Nat.mod_lt _ (by decide)
  obtain ⟨g1, g2, g3, g4⟩ := great_draw 2 (k % 4) far (by omega) hi hf
  obtain ⟨r1, r2⟩ := great 2 (k % 4) far (by omega) gOk2 hi hf
  rw [show (2 : Nat) ^ 2 = 4 from rfl] at g4 r1 r2
  have q1 := fun (ty : TypeId) (w : World) => run_float_arith (P := Try.prog) w .add ty .f64 _ _ _ g1
  have q2 := fun (ty : TypeId) (w : World) => run_float_arith (P := Try.prog) w .quo ty .f64 _ _ _ g2
  have q3 := fun (ty : TypeId) (w : World) => run_float_arith (P := Try.prog) w .add ty .f64 _ _ _ g3
  have q4 := fun (ty : TypeId) (w : World) => run_float_arith (P := Try.prog) w .quo ty .f64 _ _ _ g4
  have p14 : pw 14 = 16384 := by decide
  have hdl := (fl_ok (k % 4 * 512 + (1 + far)) (1065 - 2) 14 (by omega) (by omega) (by omega)).1
  have hd64 : fl (k % 4 * 512 + (1 + far)) (1065 - 2) < 18446744073709551616 := by simp only [fI] at hdl; omega
  have cv1 := conv_fl far
  have cv2 := conv_fl (k % 4)
  have cv3 : floatOfInt .f64 4 = fl 4 1074 := conv_fl 4
  have hr : (n : Int).tmod 4 = 1 := by
    rw [Int.tmod_eq_emod_of_nonneg (by omega)]
    omega
  have hk2 : (k : Int).tmod 4 = ((k % 4 : Nat) : Int) := by
    rw [Int.tmod_eq_emod_of_nonneg (by omega)]
    omega
  have hkl : k % 4 < 4 := Nat.mod_lt _ (by decide)
  clear hi g1 g2 g3 g4 p14 hdl
  have R1 := hide r1
  have R2 := hide r2
  have HD := hide hd64
  generalize fl (k % 4 * 512 + (1 + far)) (1065 - 2) = dr at *
  generalize k % 4 = i at *
  clear r1 r2 hd64 hn4
  go_enter Try.func10, Try.ntmps10
  go_wp2_with fail
  go_loopw [9, 10] (fun s u wr => ∃ (j c : Nat) (sp : Option Addr), j ≤ 4 ∧ u = .int .i64 (j : Int) ∧ s = .slice sp j c ∧ Hid (OwnT w.heap.size wr sp c (List.replicate j gT)) ∧ Hid (Below w.heap.size w wr)) (fun _ u _ => 4 - (intOf u).toNat)
  case atStart => exact ⟨0, 0, none, by omega, rfl, rfl, hide (OwnT.ofNil _ _), hide (Below.refl _ _)⟩
  case round =>
    obtain ⟨j, c, sp, hj, rfl, rfl, O, B⟩ := hrel
    by_cases hjn : j < 4
    · have y1 : (j : Int) < 4 := by omega
      have bA : Below wr.heap.size wr (wr.alloc (.cells #[.string ⟨#[97]⟩, .float .f64 9218868437227405311] 45)) := (Below.refl _ _).alloc (Nat.le_refl _) _
      have OA := hide ((unhide O).below bA)
      have XA := hide (show (wr.alloc (.cells #[.string ⟨#[97]⟩, .float .f64 9218868437227405311] 45)).heap[wr.heap.size]? = some (.cells (rowsT [gT]).toArray 45 (0, 0)) from heap_new wr _)
      have BA := hide ((unhide B).trans (bA.mono (unhide B).size))
      clear bA
      go_wp2_with (at_builtin; refine wpList_appendT rfl (.tmp 28) (.tmp 30) rfl w.heap.size sp j c (List.replicate j gT) rfl List.length_replicate (unhide OA) wr.heap.size [gT] 1 rfl rfl (unhide XA) (by omega) (unhide BA).size ?_; intro sp2 c2 W2 ho2 hb2; rw [← List.replicate_succ'] at ho2; have O2 := hide ho2; have B2 := hide ((unhide BA).trans hb2); clear ho2 hb2)
      exact ⟨⟨j + 1, c2, sp2, by omega, by go_num, by rfl, O2, B2⟩, by simp [intOf]; omega⟩
    · have hjj : ¬ (j : Int) < 4 := by omega
      obtain rfl : j = 4 := by omega
      have T1 := hide ((unhide O).at_ (gT_lt 4))
      have W1 := hide (weigh_calls (unhide T1) 4 c List.length_replicate (by omega) dr (unhide HD))
      have W2 := hide (fun W (hb : Below wr.heap.size wr W) => weigh_calls ((unhide T1).later hb) 4 c List.length_replicate (by omega) 9218868437227405312 (by decide))
      rw [unhide R1] at W1
      rw [show weighN (List.replicate 4 gT) 9218868437227405312 = _ from unhide R2] at W2
      unfold firstV at W1 W2
      go_wp2_with (first
        | (have hV : C1 = C1 := rfl
           clear hV
           go_at_call 18; refine (unhide W2 _ (unhide C1)).mono ?_; rintro e V2 ⟨rfl, b2⟩; have C2 := hide ((unhide D1).trans (b2.mono (unhide D1).size)); clear b2)
        | (go_at_call 23; refine (pinf_calls _).mono ?_; rintro e V1 ⟨rfl, rfl⟩)
        | (go_at_call 18; refine (unhide W1).mono ?_; rintro e V1 ⟨rfl, b1⟩; have C1 := hide b1; have D1 := hide ((unhide B).trans (b1.mono (unhide B).size)); clear b1)
        | (go_at_call 12; refine (live10_calls _).mono ?_; rintro e V3 ⟨rfl, b3⟩; have C3 := hide ((unhide C2).trans (b3.mono (unhide C2).size)); clear b3))
      go_ret
      exact ⟨rfl, unhide C3⟩
set_option maxRecDepth 20000 in
set_option maxHeartbeats 8000000 in
theorem walk2 (n k far : Nat) (w : World) (hn4 : n % 4 = 2) (hn : n < 256) (hk : k < 256) (hf : far < 256) :
    Calls Try.prog 10 #[.int .u8 (n : Int), .int .u8 (k : Int), .int .u8 (far : Int)] w fun e w' => e = .returned (.bool true) ∧ Below w.heap.size w w' := by
  have hi : k % 8 < 2 ^ 3 := Nat.mod_lt _ (by decide)
  obtain ⟨g1, g2, g3, g4⟩ := great_draw 3 (k % 8) far (by omega) hi hf
  obtain ⟨r1, r2⟩ := great 3 (k % 8) far (by omega) gOk3 hi hf
  rw [show (2 : Nat) ^ 3 = 8 from rfl] at g4 r1 r2
  have q1 := fun (ty : TypeId) (w : World) => run_float_arith (P := Try.prog) w .add ty .f64 _ _ _ g1
  have q2 := fun (ty : TypeId) (w : World) => run_float_arith (P := Try.prog) w .quo ty .f64 _ _ _ g2
  have q3 := fun (ty : TypeId) (w : World) => run_float_arith (P := Try.prog) w .add ty .f64 _ _ _ g3
  have q4 := fun (ty : TypeId) (w : World) => run_float_arith (P := Try.prog) w .quo ty .f64 _ _ _ g4
  have p14 : pw 14 = 16384 := by decide
  have hdl := (fl_ok (k % 8 * 512 + (1 + far)) (1065 - 3) 14 (by omega) (by omega) (by omega)).1
  have hd64 : fl (k % 8 * 512 + (1 + far)) (1065 - 3) < 18446744073709551616 := by simp only [fI] at hdl; omega
  have cv1 := conv_fl far
  have cv2 := conv_fl (k % 8)
  have cv3 : floatOfInt .f64 8 = fl 8 1074 := conv_fl 8
  have hr : (n : Int).tmod 4 = 2 := by
    rw [Int.tmod_eq_emod_of_nonneg (by omega)]
    omega
  have hk2 : (k : Int).tmod 8 = ((k % 8 : Nat) : Int) := by
    rw [Int.tmod_eq_emod_of_nonneg (by omega)]
    omega
  have hkl : k % 8 < 8 := Nat.mod_lt _ (by decide)
  clear hi g1 g2 g3 g4 p14 hdl
  have R1 := hide r1
  have R2 := hide r2
  have HD := hide hd64
  generalize fl (k % 8 * 512 + (1 + far)) (1065 - 3) = dr at *
  generalize k % 8 = i at *
  clear r1 r2 hd64 hn4
  go_enter Try.func10, Try.ntmps10
  go_wp2_with fail
  go_loopw [9, 10] (fun s u wr => ∃ (j c : Nat) (sp : Option Addr), j ≤ 8 ∧ u = .int .i64 (j : Int) ∧ s = .slice sp j c ∧ Hid (OwnT w.heap.size wr sp c (List.replicate j gT)) ∧ Hid (Below w.heap.size w wr)) (fun _ u _ => 8 - (intOf u).toNat)
  case atStart => exact ⟨0, 0, none, by omega, rfl, rfl, hide (OwnT.ofNil _ _), hide (Below.refl _ _)⟩
  case round =>
    obtain ⟨j, c, sp, hj, rfl, rfl, O, B⟩ := hrel
    by_cases hjn : j < 8
    · have y1 : (j : Int) < 8 := by omega
      have bA : Below wr.heap.size wr (wr.alloc (.cells #[.string ⟨#[97]⟩, .float .f64 9218868437227405311] 45)) := (Below.refl _ _).alloc (Nat.le_refl _) _
      have OA := hide ((unhide O).below bA)
      have XA := hide (show (wr.alloc (.cells #[.string ⟨#[97]⟩, .float .f64 9218868437227405311] 45)).heap[wr.heap.size]? = some (.cells (rowsT [gT]).toArray 45 (0, 0)) from heap_new wr _)
      have BA := hide ((unhide B).trans (bA.mono (unhide B).size))
      clear bA
      go_wp2_with (at_builtin; refine wpList_appendT rfl (.tmp 28) (.tmp 30) rfl w.heap.size sp j c (List.replicate j gT) rfl List.length_replicate (unhide OA) wr.heap.size [gT] 1 rfl rfl (unhide XA) (by omega) (unhide BA).size ?_; intro sp2 c2 W2 ho2 hb2; rw [← List.replicate_succ'] at ho2; have O2 := hide ho2; have B2 := hide ((unhide BA).trans hb2); clear ho2 hb2)
      exact ⟨⟨j + 1, c2, sp2, by omega, by go_num, by rfl, O2, B2⟩, by simp [intOf]; omega⟩
    · have hjj : ¬ (j : Int) < 8 := by omega
      obtain rfl : j = 8 := by omega
      have T1 := hide ((unhide O).at_ (gT_lt 8))
      have W1 := hide (weigh_calls (unhide T1) 8 c List.length_replicate (by omega) dr (unhide HD))
      have W2 := hide (fun W (hb : Below wr.heap.size wr W) => weigh_calls ((unhide T1).later hb) 8 c List.length_replicate (by omega) 9218868437227405312 (by decide))
      rw [unhide R1] at W1
      rw [show weighN (List.replicate 8 gT) 9218868437227405312 = _ from unhide R2] at W2
      unfold firstV at W1 W2
      go_wp2_with (first
        | (have hV : C1 = C1 := rfl
           clear hV
           go_at_call 18; refine (unhide W2 _ (unhide C1)).mono ?_; rintro e V2 ⟨rfl, b2⟩; have C2 := hide ((unhide D1).trans (b2.mono (unhide D1).size)); clear b2)
        | (go_at_call 23; refine (pinf_calls _).mono ?_; rintro e V1 ⟨rfl, rfl⟩)
        | (go_at_call 18; refine (unhide W1).mono ?_; rintro e V1 ⟨rfl, b1⟩; have C1 := hide b1; have D1 := hide ((unhide B).trans (b1.mono (unhide B).size)); clear b1)
        | (go_at_call 12; refine (live10_calls _).mono ?_; rintro e V3 ⟨rfl, b3⟩; have C3 := hide ((unhide C2).trans (b3.mono (unhide C2).size)); clear b3))
      go_ret
      exact ⟨rfl, unhide C3⟩
set_option maxRecDepth 20000 in
set_option maxHeartbeats 8000000 in
theorem walk3 (n k far : Nat) (w : World) (hn4 : n % 4 = 3) (hn : n < 256) (hk : k < 256) (hf : far < 256) :
    Calls Try.prog 10 #[.int .u8 (n : Int), .int .u8 (k : Int), .int .u8 (far : Int)] w fun e w' => e = .returned (.bool true) ∧ Below w.heap.size w w' := by
  have hi : k % 16 < 2 ^ 4 := Nat.mod_lt _ (by decide)
  obtain ⟨g1, g2, g3, g4⟩ := great_draw 4 (k % 16) far (by omega) hi hf
  obtain ⟨r1, r2⟩ := great 4 (k % 16) far (by omega) gOk4 hi hf
  rw [show (2 : Nat) ^ 4 = 16 from rfl] at g4 r1 r2
  have q1 := fun (ty : TypeId) (w : World) => run_float_arith (P := Try.prog) w .add ty .f64 _ _ _ g1
  have q2 := fun (ty : TypeId) (w : World) => run_float_arith (P := Try.prog) w .quo ty .f64 _ _ _ g2
  have q3 := fun (ty : TypeId) (w : World) => run_float_arith (P := Try.prog) w .add ty .f64 _ _ _ g3
  have q4 := fun (ty : TypeId) (w : World) => run_float_arith (P := Try.prog) w .quo ty .f64 _ _ _ g4
  have p14 : pw 14 = 16384 := by decide
  have hdl := (fl_ok (k % 16 * 512 + (1 + far)) (1065 - 4) 14 (by omega) (by omega) (by omega)).1
  have hd64 : fl (k % 16 * 512 + (1 + far)) (1065 - 4) < 18446744073709551616 := by simp only [fI] at hdl; omega
  have cv1 := conv_fl far
  have cv2 := conv_fl (k % 16)
  have cv3 : floatOfInt .f64 16 = fl 16 1074 := conv_fl 16
  have hr : (n : Int).tmod 4 = 3 := by
    rw [Int.tmod_eq_emod_of_nonneg (by omega)]
    omega
  have hk2 : (k : Int).tmod 16 = ((k % 16 : Nat) : Int) := by
    rw [Int.tmod_eq_emod_of_nonneg (by omega)]
    omega
  have hkl : k % 16 < 16 := Nat.mod_lt _ (by decide)
  clear hi g1 g2 g3 g4 p14 hdl
  have R1 := hide r1
  have R2 := hide r2
  have HD := hide hd64
  generalize fl (k % 16 * 512 + (1 + far)) (1065 - 4) = dr at *
  generalize k % 16 = i at *
  clear r1 r2 hd64 hn4
  go_enter Try.func10, Try.ntmps10
  go_wp2_with fail
  go_loopw [9, 10] (fun s u wr => ∃ (j c : Nat) (sp : Option Addr), j ≤ 16 ∧ u = .int .i64 (j : Int) ∧ s = .slice sp j c ∧ Hid (OwnT w.heap.size wr sp c (List.replicate j gT)) ∧ Hid (Below w.heap.size w wr)) (fun _ u _ => 16 - (intOf u).toNat)
  case atStart => exact ⟨0, 0, none, by omega, rfl, rfl, hide (OwnT.ofNil _ _), hide (Below.refl _ _)⟩
  case round =>
    obtain ⟨j, c, sp, hj, rfl, rfl, O, B⟩ := hrel
    by_cases hjn : j < 16
    · have y1 : (j : Int) < 16 := by omega
      have bA : Below wr.heap.size wr (wr.alloc (.cells #[.string ⟨#[97]⟩, .float .f64 9218868437227405311] 45)) := (Below.refl _ _).alloc (Nat.le_refl _) _
      have OA := hide ((unhide O).below bA)
      have XA := hide (show (wr.alloc (.cells #[.string ⟨#[97]⟩, .float .f64 9218868437227405311] 45)).heap[wr.heap.size]? = some (.cells (rowsT [gT]).toArray 45 (0, 0)) from heap_new wr _)
      have BA := hide ((unhide B).trans (bA.mono (unhide B).size))
      clear bA
      go_wp2_with (at_builtin; refine wpList_appendT rfl (.tmp 28) (.tmp 30) rfl w.heap.size sp j c (List.replicate j gT) rfl List.length_replicate (unhide OA) wr.heap.size [gT] 1 rfl rfl (unhide XA) (by omega) (unhide BA).size ?_; intro sp2 c2 W2 ho2 hb2; rw [← List.replicate_succ'] at ho2; have O2 := hide ho2; have B2 := hide ((unhide BA).trans hb2); clear ho2 hb2)
      exact ⟨⟨j + 1, c2, sp2, by omega, by go_num, by rfl, O2, B2⟩, by simp [intOf]; omega⟩
    · have hjj : ¬ (j : Int) < 16 := by omega
      obtain rfl : j = 16 := by omega
      have T1 := hide ((unhide O).at_ (gT_lt 16))
      have W1 := hide (weigh_calls (unhide T1) 16 c List.length_replicate (by omega) dr (unhide HD))
      have W2 := hide (fun W (hb : Below wr.heap.size wr W) => weigh_calls ((unhide T1).later hb) 16 c List.length_replicate (by omega) 9218868437227405312 (by decide))
      rw [unhide R1] at W1
      rw [show weighN (List.replicate 16 gT) 9218868437227405312 = _ from unhide R2] at W2
      unfold firstV at W1 W2
      go_wp2_with (first
        | (have hV : C1 = C1 := rfl
           clear hV
           go_at_call 18; refine (unhide W2 _ (unhide C1)).mono ?_; rintro e V2 ⟨rfl, b2⟩; have C2 := hide ((unhide D1).trans (b2.mono (unhide D1).size)); clear b2)
        | (go_at_call 23; refine (pinf_calls _).mono ?_; rintro e V1 ⟨rfl, rfl⟩)
        | (go_at_call 18; refine (unhide W1).mono ?_; rintro e V1 ⟨rfl, b1⟩; have C1 := hide b1; have D1 := hide ((unhide B).trans (b1.mono (unhide B).size)); clear b1)
        | (go_at_call 12; refine (live10_calls _).mono ?_; rintro e V3 ⟨rfl, b3⟩; have C3 := hide ((unhide C2).trans (b3.mono (unhide C2).size)); clear b3))
      go_ret
      exact ⟨rfl, unhide C3⟩
theorem walk (n k far : Nat) (w : World) (hn : n < 256) (hk : k < 256) (hf : far < 256) :
    Calls Try.prog 10 #[.int .u8 (n : Int), .int .u8 (k : Int), .int .u8 (far : Int)] w fun e w' => e = .returned (.bool true) ∧ Below w.heap.size w w' := by
  rcases (by omega : n % 4 = 0 ∨ n % 4 = 1 ∨ n % 4 = 2 ∨ n % 4 = 3) with h | h | h | h
  · exact walk0 n k far w h hn hk hf
  · exact walk1 n k far w h hn hk hf
  · exact walk2 n k far w h hn hk hf
  · exact walk3 n k far w h hn hk hf

set_option maxRecDepth 100000 in
theorem lifted (os : Os) (started : os.Started) (H : Type) (enc : TypeId × Value → H) :
    ReturnsInHanded {} Try.checked os 10 .any (Rows.planeGreatSpec.pre6 enc Try.prog Try.f10 Rows.planeGreatRow.domain false) (Rows.planeGreatSpec.post enc Try.prog Try.f10 false true false false) := by
  refine returnsInHanded_of_change_sized (C := Try.checked) own started (by kernel_rfl) Try.func10
    (ChangeSpec.witness6 (enc := enc) (C := Try.checked) false ⟨#[], #[.int .u8 0, .int .u8 0, .int .u8 0], []⟩ 8 (by kernel_rfl) (by kernel_rfl) (by kernel_rfl) (by kernel_rfl)) ?_
  intro W base args ds gs before hval0 hW hcnd hsz _
  have hval : ∀ (j : Nat) t v, Try.f10.params[j]? = some t → args[j]? = some v → Value.okWide Try.prog W .any base t v := hval0
  have hW' := hW
  obtain ⟨p, q, hA0, hV, rfl, hfz, hnd⟩ := hW
  have hA : DataW.TrodAll enc Try.prog W 0 (fun _ => true) true Try.f10.params.toList args.toList ds p := hA0
  rw [Try.params10] at hA hval
  obtain ⟨v0, vs0, d0, ds0, p0, q0, hargs, rfl, rfl, h0, r0⟩ := trodAll_cons hA
  obtain ⟨v1, vs1, d1, ds1, p1, q1, rfl, rfl, rfl, h1, r1⟩ := trodAll_cons r0
  obtain ⟨v2, vs2, d2, ds2, p2, q2, rfl, rfl, rfl, h2, r2⟩ := trodAll_cons r1
  obtain ⟨rfl, rfl, rfl⟩ := trodAll_nil r2
  obtain rfl : args = #[v0, v1, v2] := by cases args; simp_all
  obtain ⟨rfl, rfl⟩ := trodVars_none hV
  obtain ⟨n0, rfl, rfl, rfl, w0⟩ := open_int Try.underlying5 (hval 0 5 v0 rfl rfl) h0
  obtain ⟨n0, rfl, hn0⟩ := u8_nat w0
  obtain ⟨n1, rfl, rfl, rfl, w1⟩ := open_int Try.underlying5 (hval 1 5 v1 rfl rfl) h1
  obtain ⟨n1, rfl, hn1⟩ := u8_nat w1
  obtain ⟨n2, rfl, rfl, rfl, w2⟩ := open_int Try.underlying5 (hval 2 5 v2 rfl rfl) h2
  obtain ⟨n2, rfl, hn2⟩ := u8_nat w2
  clear hA0 hval0
  refine (walk n0 n1 n2 W hn0 hn1 hn2).mono fun e W' ⟨he, bel⟩ => ?_
  subst he
  exact ⟨_, rfl, _, _, _, [], _, [], hW', trodAll_mk1 (shut_bool Try.underlying4 _), (trodAll_cons_mk (shut_int Try.underlying5 w0) (trodAll_cons_mk (shut_int Try.underlying5 w1) (trodAll_cons_mk (shut_int Try.underlying5 w2) trodAll_mk0))), rfl, bel.frame _, fun h => by cases h⟩

theorem proved : Rows.PlaneGreatSaid :=
  OpenClaim.holds_of_wide 10 Try.f10 rfl rfl rfl rfl rfl rfl rfl ⟨rfl, rfl, rfl, rfl, rfl⟩ rfl rfl rfl rfl rfl (by kernel_rfl) Try.func10 (by kernel_rfl)
    (of_decide_eq_true (by kernel_rfl)) (by unfold Func.isWrapper; first | (rw [if_pos (by decide +kernel)]; kernel_rfl) | (rw [if_neg (by decide +kernel)]; exact ⟨rfl, rfl⟩))
    (fun os started H enc _ => lifted os started H enc)
end Go.Proofs.Ytfopobdbkbcnnaa.planeGreat
namespace Go.Proofs.Ytfopobdbkbcnnaa
theorem planeGreat_holds : Rows.PlaneGreatSaid := planeGreat.proved
#print axioms planeGreat_holds
end Go.Proofs.Ytfopobdbkbcnnaa
