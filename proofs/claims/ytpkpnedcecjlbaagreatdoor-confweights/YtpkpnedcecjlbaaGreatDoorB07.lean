/- Plane: targets of one's own. -/
import Derived.Test.YtpkpnedcecjlbaaGreatDoorB02
import Derived.Maps.AppendAt
import Derived.Deep.RegionLaw
import Derived.Test.YtpkpnedcecjlbaaGreatDoorB06
import Derived.Laws.BitsAllLaws
import Derived.Shelf.Small.Bits
import Derived.Shelf.Strconv.Itoa0
import Derived.Shelf.Strings.Search1
import Derived.Shelf.Strings.Search2
import Derived.Shelf.Strings.Search3
import Derived.Shelf.Strings.Count
import Derived.Shelf.LaysM
import Derived.Shelf.Strings.Shaped
import Derived.Shelf.Strings.Split
import Derived.Shelf.Strings.SplitShaped
import Derived.Shelf.Unicode.DecodeSlow
import Derived.Test.YtpkpnedcecjlbaaGreatDoorProg
section
namespace Go.Proofs.YtpkpnedcecjlbaaGreatDoor
open Go.ChangeShapes Go.WideShapes Go.ChangeAt Go.RowKit

def tgRow (t : Tg) : List Value := [.string t.1, .float .f64 t.2]
def rowsT (l : List Tg) : List Value := l.flatMap tgRow
theorem rowsT_length (l : List Tg) : (rowsT l).length = l.length * 2 := by
  induction l with
  | nil => rfl
  | cons x xs ih =>
    simp only [rowsT, List.flatMap_cons, List.length_append, List.length_cons] at ih ⊢
    rw [ih, show (tgRow x).length = 2 from rfl]
    omega
theorem rowsT_get : ∀ (xs : List Tg) (i f : Nat) (hi : i < xs.length) (_ : f < 2), (rowsT xs)[i * 2 + f]? = (tgRow xs[i])[f]?
  | [], i, _, hi, _ => by simp at hi
  | x :: xs, 0, f, _, hf => by
    simp only [rowsT, List.flatMap_cons, Nat.zero_mul, Nat.zero_add, List.getElem_cons_zero]
    rw [List.getElem?_append_left (show f < (tgRow x).length from hf)]
  | x :: xs, i + 1, f, hi, hf => by
    have ih := rowsT_get xs i f (by simpa using hi) hf
    simp only [rowsT, List.flatMap_cons, List.getElem_cons_succ] at ih ⊢
    rw [List.getElem?_append_right (by rw [show (tgRow x).length = 2 from rfl]; omega)]
    have e4 : (i + 1) * 2 + f - (tgRow x).length = i * 2 + f := by rw [show (tgRow x).length = 2 from rfl]; omega
    rw [e4]
    exact ih
theorem tg_oneCell (l : List Tg) : ∀ u ∈ rowsT l, u.oneCell' = true := by
  intro u hu
  obtain ⟨t, _, ht⟩ := List.mem_flatMap.1 hu
  simp only [tgRow, List.mem_cons, List.not_mem_nil, or_false] at ht
  rcases ht with rfl | rfl <;> rfl
theorem infoT : (Tryz.prog.info? 43).map (fun i => (i.zero, i.size, i.bytes)) = some (some (.agg #[.string ByteArray.empty, .float .f64 0]), 2, 24) := by kernel_rfl
/-- Targets of one's own. -/
def OwnT (base : Nat) (w : World) (sp : Option Addr) (c : Nat) (l : List Tg) : Prop := w.ownsRow base 43 2 (.slice sp l.length c) l.length (rowsT l)
theorem OwnT.ofNil (base : Nat) (w : World) : OwnT base w none 0 [] := w.ownsRow_nil base 43 2
theorem OwnT.at_ {base : Nat} {w : World} {sp : Option Addr} {c : Nat} {l : List Tg} (h : OwnT base w sp c l) (hl : ∀ t ∈ l, t.2 < 18446744073709551616) : TgsAt w sp l := by
  refine ⟨hl, fun i hi => ?_⟩
  rcases h.2 with ⟨hv, h0⟩ | ⟨g, cap, cur, hv, hb, hg, hle, hmx, hsz, ht⟩
  · omega
  · simp only [Value.slice.injEq] at hv
    obtain ⟨rfl, _, rfl⟩ := hv
    refine ⟨g, 0, rfl, ?_, ?_⟩
    · have hk := rowsT_get l i 0 hi (by omega)
      rw [Nat.zero_add, cell_of_row w g _ cur _ _ hg, ← Array.getElem?_toList]
      have hj : i * 2 + 0 < l.length * 2 := by omega
      rw [← ht, List.getElem?_take, if_pos hj] at hk
      exact hk
    · have hk := rowsT_get l i 1 hi (by omega)
      rw [Nat.zero_add, cell_of_row w g _ cur _ _ hg, ← Array.getElem?_toList]
      have hj : i * 2 + 1 < l.length * 2 := by omega
      rw [← ht, List.getElem?_take, if_pos hj] at hk
      exact hk
theorem run_appendT {base : Nat} {w : World} {sp : Option Addr} {c : Nat} {l : List Tg} (hown : OwnT base w sp c l) (B : Nat) (ys : List Tg) (m : Nat) (hm : ys.length = m) (hB : w.heap[B]? = some (.cells (rowsT ys).toArray 43 (0, 0))) (hn : (l.length + m) * 24 ≤ 140737488355328) (hbase : base ≤ w.heap.size) (ty : TypeId) :
    ∃ sp' c' w', (Builtin.append_ #[23, 23] ty #[.slice sp l.length c, .slice (some ⟨B, 0, none⟩) m m]).run Tryz.prog w = .ok (.slice sp' (l.length + m) c') w' ∧ OwnT base w' sp' c' (l ++ ys) ∧ Below base w w' := by
  obtain ⟨i0, hi, hz0, hz1, hz2⟩ := info_parts infoT
  obtain ⟨v', w', hrun, h1, h2, _, h5⟩ := run_append_own_at (P := Tryz.prog) w base 23 ty 43 i0 _ 2 24 Tryz.underlying23 hi hz0 hz1 hz2 rfl (by omega) _ _ _ hown ⟨B, 0, none⟩ m m (rowsT ys) (by rw [rowsT_length, hm])
    (fun j u hu => by have := World.news_of_block hB j u; simp only at this; exact this hu) (tg_oneCell ys) (by simp only [maxLen]; omega) (by omega) hbase
  have hv : ∃ sp' c', v' = .slice sp' (l.length + m) c' := by
    rcases h1.2 with ⟨hv, h0⟩ | ⟨g, cap, cur, hv, _⟩
    · exact ⟨none, 0, by rw [hv, h0]⟩
    · exact ⟨_, _, hv⟩
  obtain ⟨sp', c', rfl⟩ := hv
  refine ⟨sp', c', w', hrun, ?_, (Below.refl base w).grown h2 hbase (fun g hg => (hown.lt g hg).1)⟩
  unfold OwnT
  rw [List.length_append, hm, show rowsT (l ++ ys) = rowsT l ++ rowsT ys from by simp [rowsT]]
  exact h1
theorem wpList_appendT {w : World} {ops : Array Oper} {rest : List Oper} {o : Oper} {a : Act} {Q : Exit → Act → World → Prop} (hgd : o.guard = none) (s x : Operand)
    (ho : o.op = .call { callee := .builtin .append, args := #[s, x], argTypes := #[23, 23] })
    (base : Nat) (sp : Option Addr) (n c : Nat) (l : List Tg) (hs : a.eval s = .slice sp n c) (hn : l.length = n) (hown : OwnT base w sp c l) (B : Nat) (ys : List Tg) (m : Nat) (hm : ys.length = m) (hx : a.eval x = .slice (some ⟨B, 0, none⟩) m m)
    (hB : w.heap[B]? = some (.cells (rowsT ys).toArray 43 (0, 0))) (hsz : (n + m) * 24 ≤ 140737488355328) (hbase : base ≤ w.heap.size)
    (hk : ∀ sp' c' w', OwnT base w' sp' c' (l ++ ys) → Below base w w' → wpList Tryz.prog ops Q rest (a.put o.dst (.slice sp' (n + m) c')) w') :
    wpList Tryz.prog ops Q (o :: rest) a w := by
  subst hn
  refine wpList_plain hgd fun K hK => ?_
  obtain ⟨sp', c', w', hrun, h1, h2⟩ := run_appendT hown B ys m hm hB hsz hbase o.type
  unfold Oper.wp
  simp [execOp, ho, resolve, invoke, builtin, hs, hx, hrun, Result.andThen]
  exact hK _ _ (hk sp' c' w' h1 h2)
theorem OwnT.below {base : Nat} {w w' : World} {sp : Option Addr} {c : Nat} {l : List Tg} (h : OwnT base w sp c l) (hb : Below w.heap.size w w') : OwnT base w' sp c l := by
  refine ⟨h.1, ?_⟩
  rcases h.2 with hv | ⟨g, cap, cur, hv, hbg, hg, r⟩
  · exact .inl hv
  · exact .inr ⟨g, cap, cur, hv, hbg, (hb.block g (Array.getElem?_eq_some_iff.1 hg).1).trans hg, r⟩
end Go.Proofs.YtpkpnedcecjlbaaGreatDoor
end
/- Conf: the program's reader: weight, targets. -/
section
namespace Go.Proofs.YtpkpnedcecjlbaaGreatDoor
open Go.ChangeShapes Go.WideShapes Go.ChangeAt Go.RowKit
set_option linter.unusedVariables false

section
variable {R : Nat} {w w' : World} {p : Option Addr} {c : Nat} {h : List Nat} {k e : Nat}
theorem or_bits (x q : Nat) (h : x < 72057594037927936) (hq : q < 256) : bits .or .u64 ((x : Int) * 256) (q : Int) = ((x * 256 + q : Nat) : Int) := by
  rw [← or_add x q hq, show (x : Int) * 256 = ((x * 256 : Nat) : Int) by omega]
  exact u64_or_nat (x * 256) q (by omega) (by omega)
/-- How a step that tells a weight ends. -/
def WEndK (R : Nat) (w : World) (p : Option Addr) (c : Nat) (h : List Nat) (r : Nat × Nat × Nat) (en : Ending) (w' : World) : Prop := en = .returned (.float .f64 r.1) ∧ KR R w' p c h r.2.1 r.2.2 ∧ w.grownBy w' (some R)
theorem cutK_len (h : List Nat) (k e n : Nat) : (cutK h k e n).1.length ≤ n := by
  unfold cutK
  split
  · simp
  · simp only [List.length_take]; omega
set_option maxRecDepth 20000 in
set_option maxHeartbeats 4000000 in
theorem kweight_calls (z : KR R w p c h k e) : Calls Tryz.prog 72 #[.pointer (some ⟨R, 0, none⟩)] w (WEndK R w p c h (wtK h k e)) := by
  have TC := hide (ktake_calls z 8 (by omega))
  unfold CEndK at TC
  have EQ := hide (show wtK h k e = (numOf (cutK h k e 8).1, (cutK h k e 8).2.1, (cutK h k e 8).2.2) from rfl)
  have NL := hide (cutK_len h k e 8)
  generalize cutK h k e 8 = q at *
  obtain ⟨b, k1, e1⟩ := q
  dsimp only at TC EQ NL
  rw [show ((8 : Nat) : Int) = 8 from rfl] at TC
  have hfb := cfrom_call
  clear z
  go_enter Tryz.func72, Tryz.ntmps72
  go_wp2_with fail
  go_at_call 70
  refine (unhide TC).mono ?_
  rintro en V1 ⟨sp, m, cc, rfl, pt, z1, g1⟩
  have hm8 : m ≤ 8 := by have h1 := pt.len; have h2 := unhide NL; omega
  have BY := hide pt.by_
  have HL := hide pt.len
  have FF := hide (show ∀ W, Below V1.heap.size V1 W → WEndK R w p c h (wtK h k e) (.returned (.float .f64 (numOf b))) W from fun W u => by
    rw [unhide EQ]
    exact ⟨rfl, z1.later u, grown_trans g1 (grown_ofK u _)⟩)
  clear pt z1 g1 TC EQ NL
  go_wp2_with fail
  go_loopw [3, 5, 9] (fun x d i wr => ∃ j : Nat, j ≤ m ∧ x = .int .u64 ((numOf (b.take j) : Nat) : Int) ∧ i = .int .i64 (j : Int) ∧ Hid (Below V1.heap.size V1 wr)) (fun _ _ i _ => m - (intOf i).toNat)
  case atStart => exact ⟨0, by omega, by simp [numOf], rfl, hide (Below.refl _ _)⟩
  case round =>
    obtain ⟨j, hj, rfl, rfl, B⟩ := hrel
    by_cases hjm : j < m
    · have hjl : j < b.length := by rw [unhide HL]; exact hjm
      obtain ⟨g, off, rfl, hc⟩ := (unhide BY).cell j hjl
      have hc2 := cell_later (unhide B) hc
      have HT := hide (numOf_take b j hjl)
      have hq := (unhide BY).lt _ (List.getElem_mem hjl)
      rw [List.getD_eq_getElem?_getD, List.getElem?_eq_getElem hjl, Option.getD_some] at hc2
      have hx := numOf_lt7 (b.take j) (fun c hc => (unhide BY).lt c (List.mem_of_mem_take hc)) (by rw [List.length_take]; omega)
      have y1 : (j : Int) < (m : Int) := by omega
      have hj0 : (0 : Int) ≤ (j : Int) := by omega
      generalize b[j] = q at *
      generalize hxx : numOf (b.take j) = x at *
      have hw1 : IntKind.u64.wrap ((x : Int) * 256) = (x : Int) * 256 := by rw [IntKind.wrap_u64]; omega
      have hw2 : IntKind.u64.wrap (q : Int) = (q : Int) := by rw [IntKind.wrap_u64]; omega
      have hor := or_bits x q hx hq
      have hj1 : j + 1 ≤ m := by omega
      clear hc hxx
      go_wp2
      exact ⟨⟨j + 1, hj1, by rw [unhide HT]; simp, by go_num, B⟩, by simp [intOf]; omega⟩
    · have hjj : ¬ (j : Int) < (m : Int) := by omega
      have E : b.take j = b := List.take_of_length_le (by rw [unhide HL]; omega)
      rw [E]
      have F := hide (unhide FF _ (unhide B))
      clear E
      go_wp2
      go_ret
      exact unhide F
end
end Go.Proofs.YtpkpnedcecjlbaaGreatDoor
end
/- Conf: the program's reader: targets. -/
section
namespace Go.Proofs.YtpkpnedcecjlbaaGreatDoor
open Go.ChangeShapes Go.WideShapes Go.ChangeAt Go.RowKit
set_option linter.unusedVariables false

section
variable {R : Nat} {w w' : World} {p : Option Addr} {c : Nat} {h : List Nat} {k e : Nat}
theorem grown_belowK {a w' : World} {o : Option Nat} (g : w.grownBy a o) (b : Below w.heap.size a w') : w.grownBy w' o :=
  ⟨b.os.trans g.os, b.tape.trans g.tape, b.output.trans g.output, Nat.le_trans g.size b.size, fun j hj hne => (b.block j hj).trans (g.block j hj hne)⟩
theorem KR.lt (z : KR R w p c h k e) : R < w.heap.size := (Array.getElem?_eq_some_iff.1 z.row).1
theorem KR.kept {w0 a : World} {k0 e0 : Nat} (z0 : KR R w0 p c h k0 e0) (g : w0.grownBy a (some R)) (z : KR R a p c h k e) {b : World} (u : Below w0.heap.size a b) : KR R b p c h k e :=
  ⟨(u.block R z0.lt).trans z.row, z0.by_.far0 (grown_belowK g u) (fun h0 b off e => z0.ne h0 _ e), z.ne, z.kl, z.hl, z.hc, z.hm, z.hz⟩
theorem OwnT.farK {base : Nat} {sp : Option Addr} {cc : Nat} {l : List Tg} (x : OwnT base w sp cc l) (g : w.grownBy w' (some R)) (hR : R < base) : OwnT base w' sp cc l := by
  refine ⟨x.1, ?_⟩
  rcases x.2 with hv | ⟨j, cap, cur, hv, hbg, hg, r⟩
  · exact .inl hv
  · exact .inr ⟨j, cap, cur, hv, hbg, (g.block j (Array.getElem?_eq_some_iff.1 hg).1 (fun e => by have := Option.some.inj e; omega)).trans hg, r⟩
theorem OwnT.monoK {b b' : Nat} {sp : Option Addr} {cc : Nat} {l : List Tg} (x : OwnT b w sp cc l) (hb : b' ≤ b) : OwnT b' w sp cc l := by
  refine ⟨x.1, ?_⟩
  rcases x.2 with hv | ⟨j, cap, cur, hv, hbg, r⟩
  · exact .inl hv
  · exact .inr ⟨j, cap, cur, hv, Nat.le_trans hb hbg, r⟩
/-- How a step that tells targets ends. -/
def GEndK (R : Nat) (w : World) (p : Option Addr) (c : Nat) (h : List Nat) (r : List Tg × Nat × Nat) (en : Ending) (w' : World) : Prop := ∃ sp n cc, en = .returned (.slice sp n cc) ∧ r.1.length = n ∧ OwnT w.heap.size w' sp cc r.1 ∧ (∀ t ∈ r.1, t.2 < 18446744073709551616) ∧ KR R w' p c h r.2.1 r.2.2 ∧ w.grownBy w' (some R)
theorem tgsG_step (h : List Nat) (n k e : Nat) : tgsG h (n + 1) k e = ((tgK h k e).1 :: (tgsG h n (tgK h k e).2.1 (tgK h k e).2.2).1, (tgsG h n (tgK h k e).2.1 (tgK h k e).2.2).2) := rfl
theorem wtK_lt (hb : ∀ c ∈ h, c < 256) (k e : Nat) : (wtK h k e).1 < 18446744073709551616 := by
  unfold wtK
  refine numOf_lt8 _ (fun c hc => ?_) (cutK_len h k e 8)
  unfold cutK at hc
  split at hc
  · cases hc
  · exact hb c (List.mem_of_mem_drop (List.mem_of_mem_take hc))
set_option maxRecDepth 20000 in
set_option maxHeartbeats 4000000 in
theorem ktargets_calls (z : KR R w p c h k e) : Calls Tryz.prog 42 #[.pointer (some ⟨R, 0, none⟩)] w (GEndK R w p c h (tgsK h k e)) := by
  have NC := hide (kcount_calls z 16 (by omega))
  unfold NEndK at NC
  have NL := hide (cntK_le h k e 16)
  have EQ := hide (show tgsK h k e = tgsG h (cntK h k e 16).1 (cntK h k e 16).2.1 (cntK h k e 16).2.2 from rfl)
  generalize cntK h k e 16 = q at *
  obtain ⟨n, k1, e1⟩ := q
  dsimp only at NC EQ NL
  rw [show ((16 : Nat) : Int) = 16 from rfl] at NC
  have Z0 := hide z
  have hR := z.lt
  have hsF := run_storeF .plain
  have hn16 : n ≤ 16 := unhide NL
  clear z
  go_enter Tryz.func42, Tryz.ntmps42
  go_wp2_with fail
  go_at_call 71
  refine (unhide NC).mono ?_
  rintro en V1 ⟨rfl, z1, g1⟩
  have Z1 := hide z1
  have G1 := hide g1
  clear z1 g1 NC
  go_wp2_with fail
  go_loopw [3, 4, 7] (fun v s i wr => ∃ (j : Nat) (sp : Option Addr) (m cc : Nat) (acc : List Tg) (kj ej : Nat), j ≤ n ∧ v = .slice sp m cc ∧ i = .int .i64 (j : Int) ∧ Hid (acc.length = m) ∧ m = j ∧ Hid (OwnT w.heap.size wr sp cc acc) ∧ Hid (∀ t ∈ acc, t.2 < 18446744073709551616) ∧ Hid (KR R wr p c h kj ej) ∧ Hid (w.grownBy wr (some R)) ∧ Hid (tgsG h n k1 e1 = (acc ++ (tgsG h (n - j) kj ej).1, (tgsG h (n - j) kj ej).2))) (fun _ _ i _ => n - (intOf i).toNat)
  case atStart => exact ⟨0, none, 0, 0, [], k1, e1, by omega, rfl, rfl, hide rfl, rfl, hide (OwnT.ofNil _ _), hide (by simp), Z1, G1, hide rfl⟩
  case round =>
    obtain ⟨j, sp, m, cc, acc, kj, ej, hj, rfl, rfl, hl, rfl, O, LT, Z, G, E⟩ := hrel
    by_cases hjm : m < n
    · have y1 : (m : Int) < (n : Int) := by omega
      have hj1 : m + 1 ≤ n := by omega
      have E2 := hide (show tgsG h n k1 e1 = (acc ++ [(tgK h kj ej).1] ++ (tgsG h (n - (m + 1)) (tgK h kj ej).2.1 (tgK h kj ej).2.2).1, (tgsG h (n - (m + 1)) (tgK h kj ej).2.1 (tgK h kj ej).2.2).2) by
        rw [unhide E, show n - m = (n - (m + 1)) + 1 by omega, tgsG_step]
        simp)
      have TC := hide (ktext_calls (unhide Z))
      unfold TEndK at TC
      have HB := hide (unhide Z).by_.lt
      have ET := hide (show tgK h kj ej = ((strOf (txtK h kj ej).1, (wtK h (txtK h kj ej).2.1 (txtK h kj ej).2.2).1), (wtK h (txtK h kj ej).2.1 (txtK h kj ej).2.2).2.1, (wtK h (txtK h kj ej).2.1 (txtK h kj ej).2.2).2.2) from rfl)
      generalize txtK h kj ej = q2 at *
      obtain ⟨tb, k2, e2⟩ := q2
      dsimp only at TC ET
      go_wp2_with fail
      go_at_call 41
      refine (unhide TC).mono ?_
      rintro en V2 ⟨rfl, z2, g2⟩
      have G2 := hide (grown_trans (unhide G) g2)
      have O2 := hide ((unhide O).farK g2 hR)
      have WC := hide (kweight_calls z2)
      unfold WEndK at WC
      have WL := hide (wtK_lt (unhide HB) k2 e2)
      generalize wtK h k2 e2 = q3 at *
      obtain ⟨x, k3, e3⟩ := q3
      dsimp only at WC ET WL
      generalize tgK h kj ej = q4 at *
      have e4 := unhide ET
      subst e4
      dsimp only at E2
      clear z2 g2 TC O G Z E ET
      generalize strOf tb = s at *
      go_wp2_with fail
      go_at_call 72
      refine (unhide WC).mono ?_
      rintro en V3 ⟨rfl, z3, g3⟩
      have G3 := hide (grown_trans (unhide G2) g3)
      have O3 := hide ((unhide O2).farK g3 hR)
      have bA := hide (show Below V3.heap.size V3 (V3.alloc (.cells #[.string s, .float .f64 x] 43)) from (Below.refl _ _).alloc (Nat.le_refl _) _)
      have XA := hide (show (V3.alloc (.cells #[.string s, .float .f64 x] 43)).heap[V3.heap.size]? = some (.cells (rowsT [(s, x)]).toArray 43 (0, 0)) from heap_new V3 _)
      have OA := hide ((unhide O3).below (unhide bA))
      have G4 := hide (grown_trans (unhide G3) (grown_ofK (unhide bA) (some R)))
      have Z4 := hide (z3.later (unhide bA))
      have SZ := hide (Nat.le_trans (unhide G3).size (unhide bA).size)
      clear z3 g3 WC O2 G2
      go_wp2_with (at_builtin; refine wpList_appendT rfl (.tmp 11) (.tmp 16) rfl w.heap.size sp m cc acc rfl (unhide hl) (by exact unhide OA) V3.heap.size [(s, x)] 1 rfl rfl (by exact unhide XA) (by omega) (unhide SZ) ?_; intro sp2 c2 W2 ho2 hb2; have O5 := hide ho2; have B5 := hide hb2; clear ho2 hb2)
      have Z5 := hide ((unhide Z0).kept (unhide G4) (unhide Z4) (unhide B5))
      have G5 := hide (grown_belowK (unhide G4) (unhide B5))
      refine ⟨⟨m + 1, sp2, m + 1, c2, acc ++ [(s, x)], k3, e3, hj1, rfl, by go_num, hide (by rw [List.length_append, unhide hl]; rfl), rfl, O5, hide (fun t ht => ?_), Z5, G5, E2⟩, by simp [intOf]; omega⟩
      rcases List.mem_append.1 ht with ht | ht
      · exact unhide LT t ht
      · rw [List.mem_singleton.1 ht]; exact unhide WL
    · have y1 : ¬ (m : Int) < (n : Int) := by omega
      have FF := hide (show GEndK R w p c h (tgsK h k e) (.returned (.slice sp m cc)) wr from by
        have h0 : n - m = 0 := by omega
        have e5 := unhide E
        rw [h0] at e5
        simp only [tgsG, List.append_nil] at e5
        rw [unhide EQ, e5]
        exact ⟨sp, m, cc, rfl, unhide hl, unhide O, unhide LT, unhide Z, unhide G⟩)
      clear E O Z G
      go_wp2
      go_ret
      exact unhide FF
end
end Go.Proofs.YtpkpnedcecjlbaaGreatDoor
end
/- Contracts of the library's functions at this program's numbers. -/
section
namespace Go.Proofs
open Go.Shelf
def Tryz.laysM146_ren : Go.Shelf.Ren := ⟨fun | 146 => 87 | 221 => 106 | 268 => 134 | 138 => 135 | 143 => 136 | 195 => 146 | 197 => 147 | 218 => 148 | 219 => 149 | 260 => 152 | 217 => 153 | 225 => 154 | 224 => 155 | 267 => 156 | 266 => 157 | 314 => 158 | n => n, fun | 9 => 9 | 31 => 87 | 3 => 3 | 4 => 4 | 0 => 0 | 105 => 179 | 21 => 21 | 5 => 5 | 46 => 44 | 119 => 186 | 139 => 189 | 138 => 188 | 146 => 190 | 51 => 155 | n => n, fun | 1 => 1 | 3 => 2 | 4 => 3 | n => n⟩
theorem Tryz.laysM146 : Go.Proofs.LaysM.n146 Tryz.prog Tryz.laysM146_ren := {
  mixed := by kernel_rfl
  f138 := Tryz.func135.trans (congrArg some (by kernel_rfl))
  f143 := Tryz.func136.trans (congrArg some (by kernel_rfl))
  f146 := Tryz.func87.trans (congrArg some (by kernel_rfl))
  f195 := Tryz.func146.trans (congrArg some (by kernel_rfl))
  f197 := Tryz.func147.trans (congrArg some (by kernel_rfl))
  f217 := Tryz.func153.trans (congrArg some (by kernel_rfl))
  f218 := Tryz.func148.trans (congrArg some (by kernel_rfl))
  f219 := Tryz.func149.trans (congrArg some (by kernel_rfl))
  f221 := Tryz.func106.trans (congrArg some (by kernel_rfl))
  f224 := Tryz.func155.trans (congrArg some (by kernel_rfl))
  f225 := Tryz.func154.trans (congrArg some (by kernel_rfl))
  f260 := Tryz.func152.trans (congrArg some (by kernel_rfl))
  f266 := Tryz.func157.trans (congrArg some (by kernel_rfl))
  f267 := Tryz.func156.trans (congrArg some (by kernel_rfl))
  f268 := Tryz.func134.trans (congrArg some (by kernel_rfl))
  f314 := Tryz.func158.trans (congrArg some (by kernel_rfl))
  t0 := Tryz.underlying0
  a0 := Tryz.isAgg0
  z0 := Tryz.sizeOf0
  v0 := Tryz.zeroValue0
  t3 := Tryz.underlying3
  a3 := Tryz.isAgg3
  z3 := Tryz.sizeOf3
  v3 := Tryz.zeroValue3
  t4 := Tryz.underlying4
  a4 := Tryz.isAgg4
  z4 := Tryz.sizeOf4
  v4 := Tryz.zeroValue4
  t5 := Tryz.underlying5
  a5 := Tryz.isAgg5
  z5 := Tryz.sizeOf5
  v5 := Tryz.zeroValue5
  t9 := Tryz.underlying9
  a9 := Tryz.isAgg9
  z9 := Tryz.sizeOf9
  v9 := Tryz.zeroValue9
  t21 := Tryz.underlying21
  a21 := Tryz.isAgg21
  z21 := Tryz.sizeOf21
  v21 := Tryz.zeroValue21
  t31 := Tryz.underlying87
  a31 := Tryz.isAgg87
  z31 := Tryz.sizeOf87
  v31 := Tryz.zeroValue87
  t46 := Tryz.underlying44
  a46 := Tryz.isAgg44
  z46 := Tryz.sizeOf44
  v46 := Tryz.zeroValue44
  t51 := Tryz.underlying155
  a51 := Tryz.isAgg155
  z51 := Tryz.sizeOf155
  v51 := Tryz.zeroValue155
  t105 := Tryz.underlying179
  a105 := Tryz.isAgg179
  z105 := Tryz.sizeOf179
  v105 := Tryz.zeroValue179
  t119 := Tryz.underlying186
  a119 := Tryz.isAgg186
  z119 := Tryz.sizeOf186
  t138 := Tryz.underlying188
  a138 := Tryz.isAgg188
  z138 := Tryz.sizeOf188
  v138 := Tryz.zeroValue188
  t139 := Tryz.underlying189
  a139 := Tryz.isAgg189
  z139 := Tryz.sizeOf189
  v139 := Tryz.zeroValue189
  t146 := Tryz.underlying190
  a146 := Tryz.isAgg190
  z146 := Tryz.sizeOf190
  v146 := Tryz.zeroValue190
  g1 := by kernel_rfl
  g3 := by kernel_rfl
  g4 := by kernel_rfl
  i0 := by kernel_rfl
  i3 := by kernel_rfl
  i4 := by kernel_rfl
  i5 := by kernel_rfl
  i9 := by kernel_rfl
  i21 := by kernel_rfl
  i31 := by kernel_rfl
  i46 := by kernel_rfl
  i51 := by kernel_rfl
  i105 := by kernel_rfl
  i138 := by kernel_rfl
  i139 := by kernel_rfl
  i146 := by kernel_rfl
  m1 := by kernel_rfl
  s1_3 := fun w h => Go.Proofs.cell_of_shapedOpen_int (zero := #[.int .i64 0]) (t := 3) h (of_decide_eq_true (by kernel_rfl)) (by kernel_rfl) rfl (by kernel_rfl) (by kernel_rfl) Tryz.underlying3
  m3 := by kernel_rfl
  m4 := by kernel_rfl }
open Go.RowKit Go.Lib in
theorem Tryz.strings_Split_shaped (s sep : ByteArray) (w : World) (h : w.ShapedOpen Tryz.prog) (hs : s.size < 4294967281) (h1 : 1 ≤ sep.size) :
    Calls Tryz.prog 87 #[.string s, .string sep] w fun e w' =>
      e = .returned (.slice (some ⟨w.heap.size, 0, none⟩) (Lib.countB s sep + 1) (Lib.countB s sep + 1)) ∧ w' = w.alloc (.cells ((Lib.splitB sep 0 (Lib.countB s sep) s).map Value.string).toArray 9) := Any.strings_Split_shaped Tryz.laysM146 s sep w h hs h1
end Go.Proofs
end
