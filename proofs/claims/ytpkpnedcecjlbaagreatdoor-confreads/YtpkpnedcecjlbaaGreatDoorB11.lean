/- Conf: the program's reader: weight, targets. -/
import Derived.Test.YtpkpnedcecjlbaaGreatDoorB09
import Derived.Test.YtpkpnedcecjlbaaGreatDoorB10
import Derived.Laws.BitsAllLaws
section
namespace Go.Proofs.YtpkpnedcecjlbaaGreatDoor
open Go.ChangeShapes Go.WideShapes Go.ChangeAt Go.RowKit
set_option linter.unusedVariables false

section
variable {R : Nat} {w w' : World} {p : Option Addr} {c : Nat} {h : List Nat} {k e : Nat}
theorem or_bits (x q : Nat) (h : x < 72057594037927936) (hq : q < 256) : bits .or .u64 ((x : Int) * 256) (q : Int) = ((x * 256 + q : Nat) : Int) := by
  rw [← or_add x q hq, show (x : Int) * 256 = ((x * 256 : Nat) : Int) by omega]
  exact u64_or_nat (x * 256) q (by omega) (by omega)
/-- How a step that tells a weight ends. -/
def WEndK (R : Nat) (w : World) (p : Option Addr) (c : Nat) (h : List Nat) (r : Nat × Nat × Nat) (en : Ending) (w' : World) : Prop := en = .returned (.float .f64 r.1) ∧ KR R w' p c h r.2.1 r.2.2 ∧ w.grownBy w' (some R)
theorem cutK_len (h : List Nat) (k e n : Nat) : (cutK h k e n).1.length ≤ n := by
  unfold cutK
  split
  · simp
  · simp only [List.length_take]; omega
set_option maxRecDepth 20000 in
set_option maxHeartbeats 4000000 in
theorem kweight_calls (z : KR R w p c h k e) : Calls Tryz.prog 72 #[.pointer (some ⟨R, 0, none⟩)] w (WEndK R w p c h (wtK h k e)) := by
  have TC := hide (ktake_calls z 8 (by omega))
  unfold CEndK at TC
  have EQ := hide (show wtK h k e = (numOf (cutK h k e 8).1, (cutK h k e 8).2.1, (cutK h k e 8).2.2) from rfl)
  have NL := hide (cutK_len h k e 8)
  generalize cutK h k e 8 = q at *
  obtain ⟨b, k1, e1⟩ := q
  dsimp only at TC EQ NL
  rw [show ((8 : Nat) : Int) = 8 from rfl] at TC
  have hfb := cfrom_call
  clear z
  go_enter Tryz.func72, Tryz.ntmps72
  go_wp2_with fail
  go_at_call 70
  refine (unhide TC).mono ?_
  rintro en V1 ⟨sp, m, cc, rfl, pt, z1, g1⟩
  have hm8 : m ≤ 8 := by have h1 := pt.len; have h2 := unhide NL; omega
  have BY := hide pt.by_
  have HL := hide pt.len
  have FF := hide (show ∀ W, Below V1.heap.size V1 W → WEndK R w p c h (wtK h k e) (.returned (.float .f64 (numOf b))) W from fun W u => by
    rw [unhide EQ]
    exact ⟨rfl, z1.later u, grown_trans g1 (grown_ofK u _)⟩)
  clear pt z1 g1 TC EQ NL
  go_wp2_with fail
  go_loopw [3, 5, 9] (fun x d i wr => ∃ j : Nat, j ≤ m ∧ x = .int .u64 ((numOf (b.take j) : Nat) : Int) ∧ i = .int .i64 (j : Int) ∧ Hid (Below V1.heap.size V1 wr)) (fun _ _ i _ => m - (intOf i).toNat)
  case atStart => exact ⟨0, by omega, by simp [numOf], rfl, hide (Below.refl _ _)⟩
  case round =>
    obtain ⟨j, hj, rfl, rfl, B⟩ := hrel
    by_cases hjm : j < m
    · have hjl : j < b.length := by rw [unhide HL]; exact hjm
      obtain ⟨g, off, rfl, hc⟩ := (unhide BY).cell j hjl
      have hc2 := cell_later (unhide B) hc
      have HT := hide (numOf_take b j hjl)
      have hq := (unhide BY).lt _ (List.getElem_mem hjl)
      rw [List.getD_eq_getElem?_getD, List.getElem?_eq_getElem hjl, Option.getD_some] at hc2
      have hx := numOf_lt7 (b.take j) (fun c hc => (unhide BY).lt c (List.mem_of_mem_take hc)) (by rw [List.length_take]; omega)
      have y1 : (j : Int) < (m : Int) := by omega
      have hj0 : (0 : Int) ≤ (j : Int) := by omega
      generalize b[j] = q at *
      generalize hxx : numOf (b.take j) = x at *
      have hw1 : IntKind.u64.wrap ((x : Int) * 256) = (x : Int) * 256 := by rw [IntKind.wrap_u64]; omega
      have hw2 : IntKind.u64.wrap (q : Int) = (q : Int) := by rw [IntKind.wrap_u64]; omega
      have hor := or_bits x q hx hq
      have hj1 : j + 1 ≤ m := by omega
      clear hc hxx
      go_wp2
      exact ⟨⟨j + 1, hj1, by rw [unhide HT]; simp, by go_num, B⟩, by simp [intOf]; omega⟩
    · have hjj : ¬ (j : Int) < (m : Int) := by omega
      have E : b.take j = b := List.take_of_length_le (by rw [unhide HL]; omega)
      rw [E]
      have F := hide (unhide FF _ (unhide B))
      clear E
      go_wp2
      go_ret
      exact unhide F
end
end Go.Proofs.YtpkpnedcecjlbaaGreatDoor
end
/- Conf: the program's reader: targets. -/
section
namespace Go.Proofs.YtpkpnedcecjlbaaGreatDoor
open Go.ChangeShapes Go.WideShapes Go.ChangeAt Go.RowKit
set_option linter.unusedVariables false

section
variable {R : Nat} {w w' : World} {p : Option Addr} {c : Nat} {h : List Nat} {k e : Nat}
theorem grown_belowK {a w' : World} {o : Option Nat} (g : w.grownBy a o) (b : Below w.heap.size a w') : w.grownBy w' o :=
  ⟨b.os.trans g.os, b.tape.trans g.tape, b.output.trans g.output, Nat.le_trans g.size b.size, fun j hj hne => (b.block j hj).trans (g.block j hj hne)⟩
theorem KR.lt (z : KR R w p c h k e) : R < w.heap.size := (Array.getElem?_eq_some_iff.1 z.row).1
theorem KR.kept {w0 a : World} {k0 e0 : Nat} (z0 : KR R w0 p c h k0 e0) (g : w0.grownBy a (some R)) (z : KR R a p c h k e) {b : World} (u : Below w0.heap.size a b) : KR R b p c h k e :=
  ⟨(u.block R z0.lt).trans z.row, z0.by_.far0 (grown_belowK g u) (fun h0 b off e => z0.ne h0 _ e), z.ne, z.kl, z.hl, z.hc, z.hm, z.hz⟩
theorem OwnT.farK {base : Nat} {sp : Option Addr} {cc : Nat} {l : List Tg} (x : OwnT base w sp cc l) (g : w.grownBy w' (some R)) (hR : R < base) : OwnT base w' sp cc l := by
  refine ⟨x.1, ?_⟩
  rcases x.2 with hv | ⟨j, cap, cur, hv, hbg, hg, r⟩
  · exact .inl hv
  · exact .inr ⟨j, cap, cur, hv, hbg, (g.block j (Array.getElem?_eq_some_iff.1 hg).1 (fun e => by have := Option.some.inj e; omega)).trans hg, r⟩
theorem OwnT.monoK {b b' : Nat} {sp : Option Addr} {cc : Nat} {l : List Tg} (x : OwnT b w sp cc l) (hb : b' ≤ b) : OwnT b' w sp cc l := by
  refine ⟨x.1, ?_⟩
  rcases x.2 with hv | ⟨j, cap, cur, hv, hbg, r⟩
  · exact .inl hv
  · exact .inr ⟨j, cap, cur, hv, Nat.le_trans hb hbg, r⟩
/-- How a step that tells targets ends. -/
def GEndK (R : Nat) (w : World) (p : Option Addr) (c : Nat) (h : List Nat) (r : List Tg × Nat × Nat) (en : Ending) (w' : World) : Prop := ∃ sp n cc, en = .returned (.slice sp n cc) ∧ r.1.length = n ∧ OwnT w.heap.size w' sp cc r.1 ∧ (∀ t ∈ r.1, t.2 < 18446744073709551616) ∧ KR R w' p c h r.2.1 r.2.2 ∧ w.grownBy w' (some R)
theorem tgsG_step (h : List Nat) (n k e : Nat) : tgsG h (n + 1) k e = ((tgK h k e).1 :: (tgsG h n (tgK h k e).2.1 (tgK h k e).2.2).1, (tgsG h n (tgK h k e).2.1 (tgK h k e).2.2).2) := rfl
theorem wtK_lt (hb : ∀ c ∈ h, c < 256) (k e : Nat) : (wtK h k e).1 < 18446744073709551616 := by
  unfold wtK
  refine numOf_lt8 _ (fun c hc => ?_) (cutK_len h k e 8)
  unfold cutK at hc
  split at hc
  · cases hc
  · exact hb c (List.mem_of_mem_drop (List.mem_of_mem_take hc))
set_option maxRecDepth 20000 in
set_option maxHeartbeats 4000000 in
theorem ktargets_calls (z : KR R w p c h k e) : Calls Tryz.prog 42 #[.pointer (some ⟨R, 0, none⟩)] w (GEndK R w p c h (tgsK h k e)) := by
  have NC := hide (kcount_calls z 16 (by omega))
  unfold NEndK at NC
  have NL := hide (cntK_le h k e 16)
  have EQ := hide (show tgsK h k e = tgsG h (cntK h k e 16).1 (cntK h k e 16).2.1 (cntK h k e 16).2.2 from rfl)
  generalize cntK h k e 16 = q at *
  obtain ⟨n, k1, e1⟩ := q
  dsimp only at NC EQ NL
  rw [show ((16 : Nat) : Int) = 16 from rfl] at NC
  have Z0 := hide z
  have hR := z.lt
  have hsF := run_storeF .plain
  have hn16 : n ≤ 16 := unhide NL
  clear z
  go_enter Tryz.func42, Tryz.ntmps42
  go_wp2_with fail
  go_at_call 71
  refine (unhide NC).mono ?_
  rintro en V1 ⟨rfl, z1, g1⟩
  have Z1 := hide z1
  have G1 := hide g1
  clear z1 g1 NC
  go_wp2_with fail
  go_loopw [3, 4, 7] (fun v s i wr => ∃ (j : Nat) (sp : Option Addr) (m cc : Nat) (acc : List Tg) (kj ej : Nat), j ≤ n ∧ v = .slice sp m cc ∧ i = .int .i64 (j : Int) ∧ Hid (acc.length = m) ∧ m = j ∧ Hid (OwnT w.heap.size wr sp cc acc) ∧ Hid (∀ t ∈ acc, t.2 < 18446744073709551616) ∧ Hid (KR R wr p c h kj ej) ∧ Hid (w.grownBy wr (some R)) ∧ Hid (tgsG h n k1 e1 = (acc ++ (tgsG h (n - j) kj ej).1, (tgsG h (n - j) kj ej).2))) (fun _ _ i _ => n - (intOf i).toNat)
  case atStart => exact ⟨0, none, 0, 0, [], k1, e1, by omega, rfl, rfl, hide rfl, rfl, hide (OwnT.ofNil _ _), hide (by simp), Z1, G1, hide rfl⟩
  case round =>
    obtain ⟨j, sp, m, cc, acc, kj, ej, hj, rfl, rfl, hl, rfl, O, LT, Z, G, E⟩ := hrel
    by_cases hjm : m < n
    · have y1 : (m : Int) < (n : Int) := by omega
      have hj1 : m + 1 ≤ n := by omega
      have E2 := hide (show tgsG h n k1 e1 = (acc ++ [(tgK h kj ej).1] ++ (tgsG h (n - (m + 1)) (tgK h kj ej).2.1 (tgK h kj ej).2.2).1, (tgsG h (n - (m + 1)) (tgK h kj ej).2.1 (tgK h kj ej).2.2).2) by
        rw [unhide E, show n - m = (n - (m + 1)) + 1 by omega, tgsG_step]
        simp)
      have TC := hide (ktext_calls (unhide Z))
      unfold TEndK at TC
      have HB := hide (unhide Z).by_.lt
      have ET := hide (show tgK h kj ej = ((strOf (txtK h kj ej).1, (wtK h (txtK h kj ej).2.1 (txtK h kj ej).2.2).1), (wtK h (txtK h kj ej).2.1 (txtK h kj ej).2.2).2.1, (wtK h (txtK h kj ej).2.1 (txtK h kj ej).2.2).2.2) from rfl)
      generalize txtK h kj ej = q2 at *
      obtain ⟨tb, k2, e2⟩ := q2
      dsimp only at TC ET
      go_wp2_with fail
      go_at_call 41
      refine (unhide TC).mono ?_
      rintro en V2 ⟨rfl, z2, g2⟩
      have G2 := hide (grown_trans (unhide G) g2)
      have O2 := hide ((unhide O).farK g2 hR)
      have WC := hide (kweight_calls z2)
      unfold WEndK at WC
      have WL := hide (wtK_lt (unhide HB) k2 e2)
      generalize wtK h k2 e2 = q3 at *
      obtain ⟨x, k3, e3⟩ := q3
      dsimp only at WC ET WL
      generalize tgK h kj ej = q4 at *
      have e4 := unhide ET
      subst e4
      dsimp only at E2
      clear z2 g2 TC O G Z E ET
      generalize strOf tb = s at *
      go_wp2_with fail
      go_at_call 72
      refine (unhide WC).mono ?_
      rintro en V3 ⟨rfl, z3, g3⟩
      have G3 := hide (grown_trans (unhide G2) g3)
      have O3 := hide ((unhide O2).farK g3 hR)
      have bA := hide (show Below V3.heap.size V3 (V3.alloc (.cells #[.string s, .float .f64 x] 43)) from (Below.refl _ _).alloc (Nat.le_refl _) _)
      have XA := hide (show (V3.alloc (.cells #[.string s, .float .f64 x] 43)).heap[V3.heap.size]? = some (.cells (rowsT [(s, x)]).toArray 43 (0, 0)) from heap_new V3 _)
      have OA := hide ((unhide O3).below (unhide bA))
      have G4 := hide (grown_trans (unhide G3) (grown_ofK (unhide bA) (some R)))
      have Z4 := hide (z3.later (unhide bA))
      have SZ := hide (Nat.le_trans (unhide G3).size (unhide bA).size)
      clear z3 g3 WC O2 G2
      go_wp2_with (at_builtin; refine wpList_appendT rfl (.tmp 11) (.tmp 16) rfl w.heap.size sp m cc acc rfl (unhide hl) (by exact unhide OA) V3.heap.size [(s, x)] 1 rfl rfl (by exact unhide XA) (by omega) (unhide SZ) ?_; intro sp2 c2 W2 ho2 hb2; have O5 := hide ho2; have B5 := hide hb2; clear ho2 hb2)
      have Z5 := hide ((unhide Z0).kept (unhide G4) (unhide Z4) (unhide B5))
      have G5 := hide (grown_belowK (unhide G4) (unhide B5))
      refine ⟨⟨m + 1, sp2, m + 1, c2, acc ++ [(s, x)], k3, e3, hj1, rfl, by go_num, hide (by rw [List.length_append, unhide hl]; rfl), rfl, O5, hide (fun t ht => ?_), Z5, G5, E2⟩, by simp [intOf]; omega⟩
      rcases List.mem_append.1 ht with ht | ht
      · exact unhide LT t ht
      · rw [List.mem_singleton.1 ht]; exact unhide WL
    · have y1 : ¬ (m : Int) < (n : Int) := by omega
      have FF := hide (show GEndK R w p c h (tgsK h k e) (.returned (.slice sp m cc)) wr from by
        have h0 : n - m = 0 := by omega
        have e5 := unhide E
        rw [h0] at e5
        simp only [tgsG, List.append_nil] at e5
        rw [unhide EQ, e5]
        exact ⟨sp, m, cc, rfl, unhide hl, unhide O, unhide LT, unhide Z, unhide G⟩)
      clear E O Z G
      go_wp2
      go_ret
      exact unhide FF
end
end Go.Proofs.YtpkpnedcecjlbaaGreatDoor
end
