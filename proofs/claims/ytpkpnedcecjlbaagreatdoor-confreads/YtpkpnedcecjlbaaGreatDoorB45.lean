/- Conf: the document's scan: targets. -/
import Derived.Test.YtpkpnedcecjlbaaGreatDoorB44
namespace Go.Proofs.YtpkpnedcecjlbaaGreatDoor
open Go.ChangeShapes Go.WideShapes Go.ChangeAt Go.RowKit
set_option linter.unusedVariables false

def tgZ (h : List Nat) (k e : Nat) : Tgt × Nat × Nat :=
  let a := txtZ h k e
  let b := rowZ h a.2.1 a.2.2 8
  ((strOf a.1, numOf b.1), b.2.1, b.2.2)
def tgsGZ (h : List Nat) : Nat → Nat → Nat → List Tgt × Nat × Nat
  | 0, k, e => ([], k, e)
  | n + 1, k, e => if e ≠ 0 then ([], k, e) else
    let a := tgZ h k e
    let r := tgsGZ h n a.2.1 a.2.2
    (a.1 :: r.1, r.2.1, r.2.2)
def tgsZ (h : List Nat) (k e : Nat) : List Tgt × Nat × Nat :=
  let a := numZ h k e 16
  tgsGZ h a.1 a.2.1 a.2.2
theorem tgsGZ_step (h : List Nat) (n k : Nat) : tgsGZ h (n + 1) k 0 = ((tgZ h k 0).1 :: (tgsGZ h n (tgZ h k 0).2.1 (tgZ h k 0).2.2).1, (tgsGZ h n (tgZ h k 0).2.1 (tgZ h k 0).2.2).2) := rfl
theorem tgsGZ_err (h : List Nat) (n k e : Nat) (he : e ≠ 0) : tgsGZ h n k e = ([], k, e) := by
  cases n with
  | zero => rfl
  | succ n => simp [tgsGZ, he]
theorem rowZ_len (h : List Nat) (k e n : Nat) : (rowZ h k e n).1.length ≤ n := by
  unfold rowZ
  split
  · simp
  · split
    · simp
    · dsimp only
      rw [List.length_take]
      omega
theorem rowZ_lt (h : List Nat) (hb : ∀ c ∈ h, c < 256) (k e n : Nat) : ∀ c ∈ (rowZ h k e n).1, c < 256 := by
  unfold rowZ
  intro c hc
  split at hc
  · cases hc
  · split at hc
    · cases hc
    · exact hb c (List.mem_of_mem_drop (List.mem_of_mem_take hc))
theorem OwnT.emptyZ (w : World) (base : Nat) (hb : base ≤ w.heap.size) : OwnT base (w.alloc (.cells #[] 43)) (some ⟨w.heap.size, 0, none⟩) 0 [] :=
  ⟨rfl, .inr ⟨w.heap.size, 0, #[], rfl, hb, heap_new _ _, Nat.le_refl _, by simp [maxLen], rfl, rfl⟩⟩
section
variable {R : Nat} {w w' : World} {p : Option Addr} {c : Nat} {h : List Nat} {k e : Nat}
theorem ZR.kept {w0 a : World} {k0 e0 : Nat} (z0 : ZR R w0 p c h k0 e0) (g : w0.grownBy a (some R)) (z : ZR R a p c h k e) {b : World} (u : Below w0.heap.size a b) : ZR R b p c h k e :=
  ⟨(u.block R z0.lt).trans z.row, z0.by_.far0 (grown_belowK g u) (fun h0 b off e => z0.ne h0 _ e), z.ne, z.kl, z.hl, z.hc, z.hm, z.hz⟩
def GEndZ (R : Nat) (w : World) (p : Option Addr) (c : Nat) (h : List Nat) (r : List Tg × Nat × Nat) (en : Ending) (w' : World) : Prop := ∃ sp n cc, en = .returned (.slice sp n cc) ∧ r.1.length = n ∧ OwnT w.heap.size w' sp cc r.1 ∧ (∀ t ∈ r.1, t.2 < 18446744073709551616) ∧ ZR R w' p c h r.2.1 r.2.2 ∧ w.grownBy w' (some R)
set_option maxRecDepth 20000 in
set_option maxHeartbeats 8000000 in
theorem ztargets_calls (z : ZR R w p c h k e) : Calls Tryz.prog 47 #[.pointer (some ⟨R, 0, none⟩)] w (GEndZ R w p c h (tgsZ h k e)) := by
  have bN := hide (show Below w.heap.size w (w.alloc (.cells #[] 43)) from (Below.refl _ _).alloc (Nat.le_refl _) _)
  have NC := hide (znum_calls (z.later (unhide bN)) 16 (by omega))
  have ON := hide (OwnT.emptyZ w w.heap.size (Nat.le_refl _))
  unfold NEndZ at NC
  have NL := hide (numZ_le h k e 16)
  have EQ := hide (show tgsZ h k e = tgsGZ h (numZ h k e 16).1 (numZ h k e 16).2.1 (numZ h k e 16).2.2 from rfl)
  generalize numZ h k e 16 = q at *
  obtain ⟨n, k1, e1⟩ := q
  dsimp only at NC EQ NL
  rw [show ((16 : Nat) : Int) = 16 from rfl] at NC
  have Z0 := hide z
  have hR := z.lt
  have hfb := cfrom_call
  have hn16 : n ≤ 16 := unhide NL
  clear z
  go_enter Tryz.func47, Tryz.ntmps47
  go_wp2_with fail
  go_at_call 45
  refine (unhide NC).mono ?_
  rintro en V1 ⟨rfl, z1, g1⟩
  have Z1 := hide z1
  have G1 := hide (grown_trans (grown_ofK (unhide bN) (some R)) g1)
  have O1 := hide ((unhide ON).farK g1 hR)
  clear z1 g1 NC
  go_wp2_with fail
  go_loopw [3, 5, 6, 7, 8, 9] (fun v i _ _ _ _ wr => ∃ (j : Nat) (sp : Option Addr) (m cc : Nat) (acc : List Tg) (kj ej : Nat), j ≤ n ∧ v = .slice sp m cc ∧ i = .int .i64 (j : Int) ∧ Hid (acc.length = m) ∧ m = j ∧ Hid (OwnT w.heap.size wr sp cc acc) ∧ Hid (∀ t ∈ acc, t.2 < 18446744073709551616) ∧ Hid (ZR R wr p c h kj ej) ∧ Hid (w.grownBy wr (some R)) ∧ Hid (tgsGZ h n k1 e1 = (acc ++ (tgsGZ h (n - j) kj ej).1, (tgsGZ h (n - j) kj ej).2))) (fun _ i _ _ _ _ _ => n - (intOf i).toNat)
  case atStart => exact ⟨0, _, 0, 0, [], k1, e1, by omega, rfl, rfl, hide rfl, rfl, O1, hide (by simp), Z1, G1, hide rfl⟩
  case round =>
    obtain ⟨j, sp, m, cc, acc, kj, ej, hj, rfl, rfl, hl, rfl, O, LT, Z, G, E⟩ := hrel
    have q2 := (unhide Z).c2
    by_cases hjm : m < n
    · have y1 : (m : Int) < (n : Int) := by omega
      by_cases he : ej = 0
      · subst he
        have q2 : wr.cell? ⟨R, 2, none⟩ = some (.int .i64 0) := q2
        have hj1 : m + 1 ≤ n := by omega
        have E2 := hide (show tgsGZ h n k1 e1 = (acc ++ [(tgZ h kj 0).1] ++ (tgsGZ h (n - (m + 1)) (tgZ h kj 0).2.1 (tgZ h kj 0).2.2).1, (tgsGZ h (n - (m + 1)) (tgZ h kj 0).2.1 (tgZ h kj 0).2.2).2) by
          rw [unhide E, show n - m = (n - (m + 1)) + 1 by omega, tgsGZ_step]
          simp)
        have TC := hide (ztext_calls (unhide Z))
        unfold TEndZ at TC
        have HB := hide (unhide Z).by_.lt
        have ET := hide (show tgZ h kj 0 = ((strOf (txtZ h kj 0).1, numOf (rowZ h (txtZ h kj 0).2.1 (txtZ h kj 0).2.2 8).1), (rowZ h (txtZ h kj 0).2.1 (txtZ h kj 0).2.2 8).2.1, (rowZ h (txtZ h kj 0).2.1 (txtZ h kj 0).2.2 8).2.2) from rfl)
        generalize txtZ h kj 0 = q0 at *
        obtain ⟨tb, k2, e2⟩ := q0
        dsimp only at TC ET
        go_wp2_with fail
        go_at_call 46
        refine (unhide TC).mono ?_
        rintro en V2 ⟨rfl, z2, g2⟩
        have G2 := hide (grown_trans (unhide G) g2)
        have O2 := hide ((unhide O).farK g2 hR)
        have WC := hide (zrow_calls z2 8 (by omega))
        unfold CEndZ at WC
        rw [show ((8 : Nat) : Int) = 8 from rfl] at WC
        have WL := hide (rowZ_len h k2 e2 8)
        have WB := hide (rowZ_lt h (unhide HB) k2 e2 8)
        generalize rowZ h k2 e2 8 = q3 at *
        obtain ⟨b, k3, e3⟩ := q3
        dsimp only at WC ET WL WB
        generalize tgZ h kj 0 = q4 at *
        have e4 := unhide ET
        subst e4
        dsimp only at E2
        clear z2 g2 TC O G Z E ET q2
        generalize strOf tb = s at *
        go_wp2_with fail
        go_at_call 74
        refine (unhide WC).mono ?_
        rintro en V3 ⟨bp, bm, bc, rfl, pt, z3, g3⟩
        have hm8 : bm ≤ 8 := by have h1 := pt.len; have h2 := unhide WL; omega
        have BY := hide pt.by_
        have HL := hide pt.len
        have NX := hide (numOf_lt8 b (unhide WB) (unhide WL))
        have G3 := hide (grown_trans (unhide G2) g3)
        have O3 := hide ((unhide O2).farK g3 hR)
        have Z3 := hide z3
        clear pt z3 g3 WC O2 G2 WL WB
        obtain ⟨wp, hwp⟩ : ∃ wp, wp = wr := ⟨_, rfl⟩
        subst hwp
        go_wp2_with fail
        go_loopw [8, 9] (fun x i wr => ∃ t : Nat, t ≤ bm ∧ x = .int .u64 ((numOf (b.take t) : Nat) : Int) ∧ i = .int .i64 (t : Int) ∧ wr = V3) (fun _ i _ => bm - (intOf i).toNat)
        case atStart => exact ⟨0, by omega, by simp [numOf], rfl, rfl⟩
        case round =>
          obtain ⟨t, ht, rfl, rfl, rfl⟩ := hrel
          by_cases htm : t < bm
          · have htl : t < b.length := by rw [unhide HL]; exact htm
            obtain ⟨g, off, rfl, hc2⟩ := (unhide BY).cell t htl
            have HT := hide (numOf_take b t htl)
            have hq := (unhide BY).lt _ (List.getElem_mem htl)
            rw [List.getD_eq_getElem?_getD, List.getElem?_eq_getElem htl, Option.getD_some] at hc2
            have hx := numOf_lt7 (b.take t) (fun c hc => (unhide BY).lt c (List.mem_of_mem_take hc)) (by rw [List.length_take]; omega)
            have y2 : (t : Int) < (bm : Int) := by omega
            have ht0 : (0 : Int) ≤ (t : Int) := by omega
            generalize b[t] = q at *
            generalize hxx : numOf (b.take t) = x at *
            have hw1 : IntKind.u64.wrap ((x : Int) * 256) = (x : Int) * 256 := by rw [IntKind.wrap_u64]; omega
            have hw2 : IntKind.u64.wrap (q : Int) = (q : Int) := by rw [IntKind.wrap_u64]; omega
            have hw3 : IntKind.u64.wrap ((x : Int) * 256 + (q : Int)) = (x : Int) * 256 + (q : Int) := by rw [IntKind.wrap_u64]; omega
            have ht1 : t + 1 ≤ bm := by omega
            clear hxx
            go_wp2
            exact ⟨⟨t + 1, ht1, by rw [unhide HT]; simp, by go_num, by first | rfl | trivial⟩, by simp [intOf]; omega⟩
          · have htt : ¬ (t : Int) < (bm : Int) := by omega
            have EE : b.take t = b := List.take_of_length_le (by rw [unhide HL]; omega)
            rw [EE]
            clear EE
            generalize numOf b = x at *
            have bA := hide (show Below wr.heap.size wr (wr.alloc (.cells #[.string s, .float .f64 x] 43)) from (Below.refl _ _).alloc (Nat.le_refl _) _)
            have XA := hide (show (wr.alloc (.cells #[.string s, .float .f64 x] 43)).heap[wr.heap.size]? = some (.cells (rowsT [(s, x)]).toArray 43 (0, 0)) from heap_new wr _)
            have OA := hide ((unhide O3).below (unhide bA))
            have G4 := hide (grown_trans (unhide G3) (grown_ofK (unhide bA) (some R)))
            have Z4 := hide ((unhide Z3).later (unhide bA))
            have SZ := hide (Nat.le_trans (unhide G3).size (unhide bA).size)
            go_wp2_with (at_builtin; refine wpList_appendT rfl (.tmp 43) (.tmp 48) rfl w.heap.size sp m cc acc rfl (unhide hl) (by exact unhide OA) wr.heap.size [(s, x)] 1 rfl rfl (by exact unhide XA) (by omega) (unhide SZ) ?_; intro sp2 c2 W2 ho2 hb2; have O5 := hide ho2; have B5 := hide hb2; clear ho2 hb2)
            have Z5 := hide ((unhide Z0).kept (unhide G4) (unhide Z4) (unhide B5))
            have G5 := hide (grown_belowK (unhide G4) (unhide B5))
            refine ⟨⟨m + 1, sp2, m + 1, c2, acc ++ [(s, x)], k3, e3, hj1, rfl, by go_num, hide (by rw [List.length_append, unhide hl]; rfl), rfl, O5, hide (fun t ht => ?_), Z5, G5, E2⟩, by simp [intOf]; omega⟩
            rcases List.mem_append.1 ht with ht | ht
            · exact unhide LT t ht
            · rw [List.mem_singleton.1 ht]; exact unhide NX
      · have x1 : ¬ (ej : Int) = 0 := by omega
        have x2 : ((ej : Int) == 0) = false := by simp [he]
        have FF := hide (show GEndZ R w p c h (tgsZ h k e) (.returned (.slice sp m cc)) wr from by
          have e5 := unhide E
          rw [tgsGZ_err h _ kj ej he] at e5
          simp only [List.append_nil] at e5
          rw [unhide EQ, e5]
          exact ⟨sp, m, cc, rfl, unhide hl, unhide O, unhide LT, unhide Z, unhide G⟩)
        clear E O Z G he
        generalize (ej : Int) = ei at *
        go_wp2
        go_ret
        exact unhide FF
    · have y1 : ¬ (m : Int) < (n : Int) := by omega
      have FF := hide (show GEndZ R w p c h (tgsZ h k e) (.returned (.slice sp m cc)) wr from by
        have h0 : n - m = 0 := by omega
        have e5 := unhide E
        rw [h0] at e5
        simp only [tgsGZ, List.append_nil] at e5
        rw [unhide EQ, e5]
        exact ⟨sp, m, cc, rfl, unhide hl, unhide O, unhide LT, unhide Z, unhide G⟩)
      clear E O Z G q2
      go_wp2
      go_ret
      exact unhide FF
end
end Go.Proofs.YtpkpnedcecjlbaaGreatDoor
