/- Conf: GetCommand, the program's. -/
import Derived.Test.YtpkpnedcecjlbaaGreatDoorB11
import Derived.Test.YtpkpnedcecjlbaaGreatDoorB14
import Derived.Test.YtpkpnedcecjlbaaGreatDoorB24
import Derived.RegionTactic
import Derived.ChangeAlike
namespace Go.Proofs.YtpkpnedcecjlbaaGreatDoor
open Go.ChangeShapes Go.WideShapes Go.ChangeAt Go.RowKit
set_option linter.unusedVariables false

def cz : Cmd := ⟨0, 0, 0, 0, ⟨#[]⟩, ⟨#[]⟩, ⟨#[]⟩, []⟩
def gE (l : List Nat) (c : Cmd) (k e : Nat) : Cmd × Nat := (c, if endK l k e = 0 ∧ checkC c ≠ 0 then 4 else endK l k e)
def g8 (l : List Nat) (a b c d : Nat) (s t u : ByteArray) (q : List Tgt × Nat × Nat) : Cmd × Nat := gE l ⟨a, b, c, (d : Int) - 1, s, t, u, q.1⟩ q.2.1 q.2.2
def g7 (l : List Nat) (a b c d : Nat) (s t : ByteArray) (q : List Nat × Nat × Nat) : Cmd × Nat := g8 l a b c d s t (strOf q.1) (tgsK l q.2.1 q.2.2)
def g6 (l : List Nat) (a b c d : Nat) (s : ByteArray) (q : List Nat × Nat × Nat) : Cmd × Nat := g7 l a b c d s (strOf q.1) (txtK l q.2.1 q.2.2)
def g5 (l : List Nat) (a b c d : Nat) (q : List Nat × Nat × Nat) : Cmd × Nat := g6 l a b c d (strOf q.1) (txtK l q.2.1 q.2.2)
def g4 (l : List Nat) (a b c : Nat) (q : Nat × Nat × Nat) : Cmd × Nat := g5 l a b c q.1 (txtK l q.2.1 q.2.2)
def g3 (l : List Nat) (a b : Nat) (q : Nat × Nat × Nat) : Cmd × Nat := g4 l a b q.1 (numK l q.2.1 q.2.2)
def g2 (l : List Nat) (a : Nat) (q : Nat × Nat × Nat) : Cmd × Nat := g3 l a q.1 (numK l q.2.1 q.2.2)
def g1 (l : List Nat) (q : Nat × Nat × Nat) : Cmd × Nat := g2 l q.1 (numK l q.2.1 q.2.2)
def getK (l : List Nat) : Cmd × Nat := g1 l (numK l 0 0)
/-- What GetCommand tells. -/
def getV (l : List Nat) : Cmd × Nat := if (getK l).2 = 0 then ((getK l).1, 0) else (cz, (getK l).2)
def GetKE (l : List Nat) (w : World) (en : Ending) (w' : World) : Prop := ∃ a tc, en = .returned (.tuple #[cmdVal (getV l).1 a tc, .int .i64 ((getV l).2 : Int)]) ∧ CmdAt w' (getV l).1 a tc ∧ (∀ ad, a = some ad → w.heap.size ≤ ad.block) ∧ Below w.heap.size w w'
theorem eight_sets {u : World} {j : Nat} {x0 x1 x2 x3 x4 x5 x6 x7 : Value} {T : TypeId} (h : u.heap[j]? = some (.cells #[x0, x1, x2, x3, x4, x5, x6, x7] T (0, 0))) (a0 a1 a2 a3 a4 a5 a6 a7 : Value) : ∃ W, W.heap[j]? = some (.cells #[a0, a1, a2, a3, a4, a5, a6, a7] T (0, 0)) ∧ u.grownBy W (some j) ∧
    (((((((u.setCell ⟨j, 0, none⟩ a0).setCell ⟨j, 1, none⟩ a1).setCell ⟨j, 2, none⟩ a2).setCell ⟨j, 3, none⟩ a3).setCell ⟨j, 4, none⟩ a4).setCell ⟨j, 5, none⟩ a5).setCell ⟨j, 6, none⟩ a6).setCell ⟨j, 7, none⟩ a7 = W := by
  have h1 := set_at h 0 a0 #[a0, x1, x2, x3, x4, x5, x6, x7] rfl
  have h2 := set_at h1 1 a1 #[a0, a1, x2, x3, x4, x5, x6, x7] rfl
  have h3 := set_at h2 2 a2 #[a0, a1, a2, x3, x4, x5, x6, x7] rfl
  have h4 := set_at h3 3 a3 #[a0, a1, a2, a3, x4, x5, x6, x7] rfl
  have h5 := set_at h4 4 a4 #[a0, a1, a2, a3, a4, x5, x6, x7] rfl
  have h6 := set_at h5 5 a5 #[a0, a1, a2, a3, a4, a5, x6, x7] rfl
  have h7 := set_at h6 6 a6 #[a0, a1, a2, a3, a4, a5, a6, x7] rfl
  have h8 := set_at h7 7 a7 #[a0, a1, a2, a3, a4, a5, a6, a7] rfl
  refine ⟨_, h8, ?_, rfl⟩
  refine grown_trans ?_ (grown_set _ j 7 a7)
  refine grown_trans ?_ (grown_set _ j 6 a6)
  refine grown_trans ?_ (grown_set _ j 5 a5)
  refine grown_trans ?_ (grown_set _ j 4 a4)
  refine grown_trans ?_ (grown_set _ j 3 a3)
  refine grown_trans ?_ (grown_set _ j 2 a2)
  exact grown_trans (grown_set u j 0 a0) (grown_set _ j 1 a1)
theorem grown_setRowK (w : World) (g : Nat) (cs : Array Value) : w.grownBy (w.setRow g cs) (some g) :=
  ⟨rfl, rfl, rfl, by simp, fun i _ hne => setRow_other w g i cs (fun e => hne (by rw [e]))⟩
theorem one8 {a b c d e f g h : Value} (ha : a.oneCell' = true) (hb : b.oneCell' = true) (hc : c.oneCell' = true) (hd : d.oneCell' = true) (he : e.oneCell' = true) (hf : f.oneCell' = true) (hg : g.oneCell' = true) (hh : h.oneCell' = true) : (#[a, b, c, d, e, f, g, h] : Array Value).all (·.oneCell') = true := by
  simp [*]
def cz8 : Array Value := #[.int .i64 0, .int .i64 0, .int .i64 0, .int .i64 0, .string ⟨#[]⟩, .string ⟨#[]⟩, .string ⟨#[]⟩, .slice none 0 0]
/-- How far GetCommand is: the result's block A, the command's C, the reader's R. -/
structure CI (A C R : Nat) (w0 w : World) (cs : Array Value) (p : Option Addr) (c : Nat) (h : List Nat) (k e : Nat) : Prop where
  z : KR R w p c h k e
  ar : w.heap[A]? = some (.cells cz8 25 (0, 0))
  cr : w.heap[C]? = some (.cells cs 25 (0, 0))
  be : Below w0.heap.size w0 w
  lo : w0.heap.size ≤ A ∧ A < C ∧ C < R
  pb : 0 < h.length → ∀ ad, p = some ad → ad.block < A
section
variable {A C R : Nat} {w0 w w' : World} {cs : Array Value} {p : Option Addr} {c : Nat} {h : List Nat} {k e k' e' : Nat}
theorem CI.sz (g : CI A C R w0 w cs p c h k e) : R < w.heap.size := g.z.lt
theorem CI.call (g : CI A C R w0 w cs p c h k e) (z : KR R w' p c h k' e') (u : w.grownBy w' (some R)) : CI A C R w0 w' cs p c h k' e' := by
  have hl := g.lo
  have hs := g.sz
  exact ⟨z, (u.block A (by omega) (fun e => by have := Option.some.inj e; omega)).trans g.ar, (u.block C (by omega) (fun e => by have := Option.some.inj e; omega)).trans g.cr, below_grownK g.be u (by omega) g.be.size, g.lo, g.pb⟩
theorem CI.later (g : CI A C R w0 w cs p c h k e) (u : Below w.heap.size w w') : CI A C R w0 w' cs p c h k e := by
  have hl := g.lo
  have hs := g.sz
  exact ⟨g.z.later u, later_block u g.ar, later_block u g.cr, g.be.trans (u.mono g.be.size), g.lo, g.pb⟩
theorem CI.set (g : CI A C R w0 w cs p c h k e) (i : Nat) (v : Value) : CI A C R w0 (w.setCell ⟨C, i, none⟩ v) (cs.setIfInBounds i v) p c h k e := by
  have hl := g.lo
  have hs := g.sz
  have u := grown_set w C i v
  exact ⟨⟨(u.block R hs (fun e => by have := Option.some.inj e; omega)).trans g.z.row, g.z.by_.far0 u (fun h0 b off e => by have := g.pb h0 _ e; simp only at this; omega), g.z.ne, g.z.kl, g.z.hl, g.z.hc, g.z.hm, g.z.hz⟩, (u.block A (by omega) (fun e => by have := Option.some.inj e; omega)).trans g.ar, heap_setCell_same w C i cs _ v g.cr, below_grownK g.be u (by omega) g.be.size, g.lo, g.pb⟩
theorem CI.free (g : CI A C R w0 w cs p c h k e) (i : Nat) : w.frozen? ⟨C, i, none⟩ = false := by simp [World.frozen?, g.cr]
theorem CI.freeA (g : CI A C R w0 w cs p c h k e) (i : Nat) : w.frozen? ⟨A, i, none⟩ = false := by simp [World.frozen?, g.ar]
end
theorem OwnT.capK {base : Nat} {w : World} {sp : Option Addr} {c : Nat} {l : List Tg} (h : OwnT base w sp c l) : l.length ≤ c ∧ (sp = none → c = 0) ∧ ∀ ad, sp = some ad → base ≤ ad.block := by
  rcases h.2 with ⟨hv, h0⟩ | ⟨g, cap, cur, hv, hb, hg, hle, _⟩
  · simp only [Value.slice.injEq] at hv
    exact ⟨by omega, fun _ => hv.2.2, fun ad e => by rw [hv.1] at e; cases e⟩
  · simp only [Value.slice.injEq] at hv
    refine ⟨by rw [hv.2.2]; exact hle, fun e => (by rw [hv.1] at e; cases e), fun ad e => ?_⟩
    rw [hv.1] at e
    have := Option.some.inj e
    subst this
    exact hb
theorem txtK_len (h : List Nat) (k e : Nat) : (txtK h k e).1.length ≤ 128 := by
  unfold txtK
  exact Nat.le_trans (cutK_len _ _ _ _) (cntK_le _ _ _ _)
theorem tgsG_small (h : List Nat) : ∀ (n k e : Nat), ∀ t ∈ (tgsG h n k e).1, t.1.size ≤ 128
  | 0, k, e => by simp [tgsG]
  | n + 1, k, e => by
    intro t ht
    rw [tgsG_step] at ht
    rcases List.mem_cons.1 ht with rfl | ht
    · have := txtK_len h k e
      simp only [tgK, strOf]
      simpa [ByteArray.size] using this
    · exact tgsG_small h n _ _ t ht
theorem tgsG_len (h : List Nat) : ∀ (n k e : Nat), (tgsG h n k e).1.length = n
  | 0, k, e => by simp [tgsG]
  | n + 1, k, e => by rw [tgsG_step]; simp [tgsG_len h n]
theorem tgsK_small (h : List Nat) (k e : Nat) : (tgsK h k e).1.length ≤ 16 ∧ ∀ t ∈ (tgsK h k e).1, t.1.size ≤ 128 := by
  unfold tgsK
  exact ⟨by rw [tgsG_len]; exact cntK_le _ _ _ _, tgsG_small h _ _ _⟩
theorem strOf_size (b : List Nat) : (strOf b).size = b.length := by simp [strOf, ByteArray.size]
theorem cz_at (w : World) : CmdAt w cz none 0 := ⟨⟨by simp [cz], fun i hi => by simp [cz] at hi⟩, by simp [cz], by decide, by decide, by decide, ⟨by simp [cz], by simp [cz]⟩, by simp, by simp [cz], by simp [cz], by simp [cz], by simp [cz]⟩
set_option maxRecDepth 20000 in
set_option maxHeartbeats 8000000 in
theorem kget_calls (a : Option Addr) (c : Nat) (l : List Nat) (w : World) (hc : l.length ≤ c) (hm : c ≤ maxLen) (hb : BytesAt w a l) (hz : a = none → c = 0) (hMx : Mx w) :
    Calls Tryz.prog 14 #[.slice a l.length c] w (GetKE l w) := by
  have s1 : (w.alloc (.cells cz8 25)).heap.size = w.heap.size + 1 := by simp
  have s2 : ((w.alloc (.cells cz8 25)).alloc (.cells cz8 25)).heap.size = w.heap.size + 1 + 1 := by simp
  have PB : 0 < l.length → ∀ ad, a = some ad → ad.block < w.heap.size := by
    intro h0 ad e
    obtain ⟨b, off, e2, hc2⟩ := hb.cell 0 h0
    rw [e] at e2
    have := Option.some.inj e2
    subst this
    rcases Nat.lt_or_ge b w.heap.size with h | h
    · exact h
    · have : w.heap[b]? = none := Array.getElem?_eq_none h
      simp [World.cell?, this] at hc2
  have G := hide (show CI w.heap.size (w.heap.size + 1) (w.heap.size + 1 + 1) w (((w.alloc (.cells cz8 25)).alloc (.cells cz8 25)).alloc (.cells #[.slice a l.length c, .int .i64 0, .int .i64 0] 73)) cz8 a c l 0 0 from by
    have b1 : Below w.heap.size w (w.alloc (.cells cz8 25)) := (Below.refl _ _).alloc (Nat.le_refl _) _
    have b2 : Below (w.heap.size + 1) (w.alloc (.cells cz8 25)) ((w.alloc (.cells cz8 25)).alloc (.cells cz8 25)) := by
      have : Below (w.alloc (.cells cz8 25)).heap.size (w.alloc (.cells cz8 25)) ((w.alloc (.cells cz8 25)).alloc (.cells cz8 25)) := (Below.refl _ _).alloc (Nat.le_refl _) _
      rw [s1] at this
      exact this
    have b3 : Below (w.heap.size + 1 + 1) ((w.alloc (.cells cz8 25)).alloc (.cells cz8 25)) (((w.alloc (.cells cz8 25)).alloc (.cells cz8 25)).alloc (.cells #[.slice a l.length c, .int .i64 0, .int .i64 0] 73)) := by
      have : Below ((w.alloc (.cells cz8 25)).alloc (.cells cz8 25)).heap.size _ (((w.alloc (.cells cz8 25)).alloc (.cells cz8 25)).alloc (.cells #[.slice a l.length c, .int .i64 0, .int .i64 0] 73)) := (Below.refl _ _).alloc (Nat.le_refl _) _
      rw [s2] at this
      exact this
    have x1 := heap_new w (.cells cz8 25)
    have x2 := heap_new (w.alloc (.cells cz8 25)) (.cells cz8 25)
    have x3 := heap_new ((w.alloc (.cells cz8 25)).alloc (.cells cz8 25)) (.cells #[.slice a l.length c, .int .i64 0, .int .i64 0] 73)
    rw [s1] at x2
    rw [s2] at x3
    have bb := (b1.trans (b2.mono (by omega))).trans (b3.mono (by omega))
    refine ⟨⟨x3, hb.later bb, fun h0 ad e => by have := PB h0 ad e; omega, by omega, by omega, hc, hm, hz⟩, (b3.block _ (by omega)).trans ((b2.block _ (by omega)).trans x1), (b3.block _ (by omega)).trans x2, bb, ⟨by omega, by omega, by omega⟩, fun h0 ad e => PB h0 ad e⟩)
  have HB := hide hb.lt
  have MX := hide hMx
  have EQ := hide (show getK l = g1 l (numK l 0 0) from rfl)
  clear hc hm hb hz hMx PB s1 s2
  simp only [cz8] at G
  go_enter Tryz.func14, Tryz.ntmps14
  go_wp2_with fail
  generalize hA : w.heap.size = A at *
  generalize hC : A + 1 = C at *
  generalize hR : C + 1 = R at *
  generalize ((w.alloc (.cells #[.int .i64 0, .int .i64 0, .int .i64 0, .int .i64 0, .string ⟨#[]⟩, .string ⟨#[]⟩, .string ⟨#[]⟩, .slice none 0 0] 25)).alloc (.cells #[.int .i64 0, .int .i64 0, .int .i64 0, .int .i64 0, .string ⟨#[]⟩, .string ⟨#[]⟩, .string ⟨#[]⟩, .slice none 0 0] 25)).alloc (.cells #[.slice a l.length c, .int .i64 0, .int .i64 0] 73) = W0 at *
  have NL0 := hide (numK_le (unhide HB) 0 0)
  have NC := hide (knumber_calls (unhide G).z)
  unfold NEndK at NC
  generalize numK l 0 0 = q at *
  obtain ⟨n0, k0, e0⟩ := q
  dsimp only at NC NL0
  replace EQ := hide (show getK l = g2 l n0 (numK l k0 e0) from unhide EQ)
  go_at_call 40
  refine (unhide NC).mono ?_
  rintro en V0 ⟨rfl, z1, g1⟩
  have G1 := (unhide G).call z1 g1
  have fc := G1.free 0
  have oc := box_cell G1.cr 0 (.int .i64 0) rfl
  replace G := hide (show CI A C R w (V0.setCell ⟨C, 0, none⟩ (.int .i64 (n0 : Int))) #[.int .i64 (n0 : Int), .int .i64 0, .int .i64 0, .int .i64 0, .string ⟨#[]⟩, .string ⟨#[]⟩, .string ⟨#[]⟩, .slice none 0 0] a c l k0 e0 from G1.set 0 _)
  clear z1 g1 NC G1
  have NL1 := hide (numK_le (unhide HB) k0 e0)
  have NC := hide (knumber_calls (unhide G).z)
  unfold NEndK at NC
  generalize numK l k0 e0 = q at *
  obtain ⟨n1, k1, e1⟩ := q
  dsimp only at NC NL1
  replace EQ := hide (show getK l = g3 l n0 n1 (numK l k1 e1) from unhide EQ)
  go_wp2_with fail
  go_at_call 40
  refine (unhide NC).mono ?_
  rintro en V1 ⟨rfl, z1, g1⟩
  have G1 := (unhide G).call z1 g1
  clear fc oc
  have fc := G1.free 1
  have oc := box_cell G1.cr 1 (.int .i64 0) rfl
  replace G := hide (show CI A C R w (V1.setCell ⟨C, 1, none⟩ (.int .i64 (n1 : Int))) #[.int .i64 (n0 : Int), .int .i64 (n1 : Int), .int .i64 0, .int .i64 0, .string ⟨#[]⟩, .string ⟨#[]⟩, .string ⟨#[]⟩, .slice none 0 0] a c l k1 e1 from G1.set 1 _)
  clear z1 g1 NC G1
  have NL2 := hide (numK_le (unhide HB) k1 e1)
  have NC := hide (knumber_calls (unhide G).z)
  unfold NEndK at NC
  generalize numK l k1 e1 = q at *
  obtain ⟨n2, k2, e2⟩ := q
  dsimp only at NC NL2
  replace EQ := hide (show getK l = g4 l n0 n1 n2 (numK l k2 e2) from unhide EQ)
  go_wp2_with fail
  go_at_call 40
  refine (unhide NC).mono ?_
  rintro en V2 ⟨rfl, z1, g1⟩
  have G1 := (unhide G).call z1 g1
  clear fc oc
  have fc := G1.free 2
  have oc := box_cell G1.cr 2 (.int .i64 0) rfl
  replace G := hide (show CI A C R w (V2.setCell ⟨C, 2, none⟩ (.int .i64 (n2 : Int))) #[.int .i64 (n0 : Int), .int .i64 (n1 : Int), .int .i64 (n2 : Int), .int .i64 0, .string ⟨#[]⟩, .string ⟨#[]⟩, .string ⟨#[]⟩, .slice none 0 0] a c l k2 e2 from G1.set 2 _)
  clear z1 g1 NC G1
  have NL3 := hide (numK_le (unhide HB) k2 e2)
  have NC := hide (knumber_calls (unhide G).z)
  unfold NEndK at NC
  generalize numK l k2 e2 = q at *
  obtain ⟨n3, k3, e3⟩ := q
  dsimp only at NC NL3
  replace EQ := hide (show getK l = g5 l n0 n1 n2 n3 (txtK l k3 e3) from unhide EQ)
  go_wp2_with fail
  go_at_call 40
  refine (unhide NC).mono ?_
  rintro en V3 ⟨rfl, z1, g1⟩
  have G1 := (unhide G).call z1 g1
  clear fc oc
  have fc := G1.free 3
  have oc := box_cell G1.cr 3 (.int .i64 0) rfl
  have hwr : IntKind.i64.wrap ((n3 : Int) - 1) = (n3 : Int) - 1 := by have := unhide NL3; rw [IntKind.wrap_i64]; omega
  replace G := hide (show CI A C R w (V3.setCell ⟨C, 3, none⟩ (.int .i64 ((n3 : Int) - 1))) #[.int .i64 (n0 : Int), .int .i64 (n1 : Int), .int .i64 (n2 : Int), .int .i64 ((n3 : Int) - 1), .string ⟨#[]⟩, .string ⟨#[]⟩, .string ⟨#[]⟩, .slice none 0 0] a c l k3 e3 from G1.set 3 _)
  clear z1 g1 NC G1
  have NL4 := hide (txtK_len l k3 e3)
  have TC := hide (ktext_calls (unhide G).z)
  unfold TEndK at TC
  generalize txtK l k3 e3 = q at *
  obtain ⟨b4, k4, e4⟩ := q
  dsimp only at TC NL4
  rw [← strOf_size] at NL4
  replace EQ := hide (show getK l = g6 l n0 n1 n2 n3 (strOf b4) (txtK l k4 e4) from unhide EQ)
  generalize strOf b4 = s4 at *
  go_wp2_with fail
  go_at_call 41
  refine (unhide TC).mono ?_
  rintro en V4 ⟨rfl, z1, g1⟩
  have G1 := (unhide G).call z1 g1
  clear fc oc hwr
  have fc := G1.free 4
  have oc := box_cell G1.cr 4 (.string ⟨#[]⟩) rfl
  replace G := hide (show CI A C R w (V4.setCell ⟨C, 4, none⟩ (.string s4)) #[.int .i64 (n0 : Int), .int .i64 (n1 : Int), .int .i64 (n2 : Int), .int .i64 ((n3 : Int) - 1), .string s4, .string ⟨#[]⟩, .string ⟨#[]⟩, .slice none 0 0] a c l k4 e4 from G1.set 4 _)
  clear z1 g1 TC G1
  have NL5 := hide (txtK_len l k4 e4)
  have TC := hide (ktext_calls (unhide G).z)
  unfold TEndK at TC
  generalize txtK l k4 e4 = q at *
  obtain ⟨b5, k5, e5⟩ := q
  dsimp only at TC NL5
  rw [← strOf_size] at NL5
  replace EQ := hide (show getK l = g7 l n0 n1 n2 n3 s4 (strOf b5) (txtK l k5 e5) from unhide EQ)
  generalize strOf b5 = s5 at *
  go_wp2_with fail
  go_at_call 41
  refine (unhide TC).mono ?_
  rintro en V5 ⟨rfl, z1, g1⟩
  have G1 := (unhide G).call z1 g1
  clear fc oc
  have fc := G1.free 5
  have oc := box_cell G1.cr 5 (.string ⟨#[]⟩) rfl
  replace G := hide (show CI A C R w (V5.setCell ⟨C, 5, none⟩ (.string s5)) #[.int .i64 (n0 : Int), .int .i64 (n1 : Int), .int .i64 (n2 : Int), .int .i64 ((n3 : Int) - 1), .string s4, .string s5, .string ⟨#[]⟩, .slice none 0 0] a c l k5 e5 from G1.set 5 _)
  clear z1 g1 TC G1
  have NL6 := hide (txtK_len l k5 e5)
  have TC := hide (ktext_calls (unhide G).z)
  unfold TEndK at TC
  generalize txtK l k5 e5 = q at *
  obtain ⟨b6, k6, e6⟩ := q
  dsimp only at TC NL6
  rw [← strOf_size] at NL6
  replace EQ := hide (show getK l = g8 l n0 n1 n2 n3 s4 s5 (strOf b6) (tgsK l k6 e6) from unhide EQ)
  generalize strOf b6 = s6 at *
  go_wp2_with fail
  go_at_call 41
  refine (unhide TC).mono ?_
  rintro en V6 ⟨rfl, z1, g1⟩
  have G1 := (unhide G).call z1 g1
  clear fc oc
  have fc := G1.free 6
  have oc := box_cell G1.cr 6 (.string ⟨#[]⟩) rfl
  replace G := hide (show CI A C R w (V6.setCell ⟨C, 6, none⟩ (.string s6)) #[.int .i64 (n0 : Int), .int .i64 (n1 : Int), .int .i64 (n2 : Int), .int .i64 ((n3 : Int) - 1), .string s4, .string s5, .string s6, .slice none 0 0] a c l k6 e6 from G1.set 6 _)
  clear z1 g1 TC G1
  have NL7 := hide (tgsK_small l k6 e6)
  have TC := hide (ktargets_calls (unhide G).z)
  unfold GEndK at TC
  generalize tgsK l k6 e6 = q at *
  obtain ⟨ts, k7, e7⟩ := q
  dsimp only at TC NL7
  replace EQ := hide (show getK l = gE l ⟨n0, n1, n2, (n3 : Int) - 1, s4, s5, s6, ts⟩ k7 e7 from unhide EQ)
  have GB := hide (unhide G).sz
  go_wp2_with fail
  go_at_call 42
  refine (unhide TC).mono ?_
  rintro en V7 ⟨sp, n7, cc, rfl, hn7, hO, hLT, z1, g1⟩
  have G1 := (unhide G).call z1 g1
  clear fc oc
  have fc := G1.free 7
  have oc := box_cell G1.cr 7 (.slice none 0 0) rfl
  have RO := hide (show A < C ∧ C < R from G1.lo.2)
  have HO1 := hide (hO.monoK (show R + 1 ≤ _ from unhide GB))
  have HO2 := hide ((unhide HO1).farK (grown_set V7 C 7 (.slice sp n7 cc)) (by have := unhide RO; omega))
  replace G := hide (show CI A C R w (V7.setCell ⟨C, 7, none⟩ (.slice sp n7 cc)) #[.int .i64 (n0 : Int), .int .i64 (n1 : Int), .int .i64 (n2 : Int), .int .i64 ((n3 : Int) - 1), .string s4, .string s5, .string s6, .slice sp n7 cc] a c l k7 e7 from G1.set 7 _)
  have HN7 := hide hn7
  have HLT := hide hLT
  have EC := hide (kend_calls (unhide G).z)
  replace EQ := hide (show getK l = (⟨n0, n1, n2, (n3 : Int) - 1, s4, s5, s6, ts⟩, if endK l k7 e7 = 0 ∧ checkC ⟨n0, n1, n2, (n3 : Int) - 1, s4, s5, s6, ts⟩ ≠ 0 then 4 else endK l k7 e7) from unhide EQ)
  generalize endK l k7 e7 = e8 at *
  clear hO hLT z1 g1 TC G1 HO1 hn7 GB
  go_wp2_with fail
  go_at_call 43
  refine (unhide EC).mono ?_
  rintro en V8 ⟨rfl, z1, g1⟩
  have G8 := hide ((unhide G).call z1 g1)
  have HO8 := hide ((unhide HO2).farK g1 (Nat.lt_succ_self R))
  clear z1 g1 G HO2 EC fc oc
  have r0 := fcell0 (unhide G8).cr 0 (.int .i64 (n0 : Int)) rfl
  have r1 := fcell0 (unhide G8).cr 1 (.int .i64 (n1 : Int)) rfl
  have r2 := fcell0 (unhide G8).cr 2 (.int .i64 (n2 : Int)) rfl
  have r3 := fcell0 (unhide G8).cr 3 (.int .i64 ((n3 : Int) - 1)) rfl
  have r4 := fcell0 (unhide G8).cr 4 (.string s4) rfl
  have r5 := fcell0 (unhide G8).cr 5 (.string s5) rfl
  have r6 := fcell0 (unhide G8).cr 6 (.string s6) rfl
  have r7 := fcell0 (unhide G8).cr 7 (.slice sp n7 cc) rfl
  have q2 := (unhide G8).z.c2
  have CA := hide (show ∀ W, OwnT (R + 1) W sp cc ts → CmdAt W ⟨n0, n1, n2, (n3 : Int) - 1, s4, s5, s6, ts⟩ sp cc from fun W o => by
    obtain ⟨c1, c2, c3⟩ := o.capK
    have h0 := unhide NL0
    have h1 := unhide NL1
    have h2 := unhide NL2
    have h3 := unhide NL3
    have h4 := unhide NL4
    have h5 := unhide NL5
    have h6 := unhide NL6
    obtain ⟨h7, h8⟩ := unhide NL7
    exact ⟨o.at_ (unhide HLT), fun t ht => Nat.le_trans (h8 t ht) (by omega), by dsimp only; omega, by dsimp only; omega, by dsimp only; omega, ⟨by dsimp only; simp only [maxLen]; omega, c1⟩, c2, by dsimp only; omega, by dsimp only; omega, by dsimp only; omega, by dsimp only; omega⟩)
  have AD := hide (show ∀ W, OwnT (R + 1) W sp cc ts → ∀ ad, sp = some ad → w.heap.size ≤ ad.block from fun W o ad e => by have := o.capK.2.2 ad e; have := unhide RO; omega)
  have e7' := unhide HN7
  subst e7'
  clear HN7

  have BAD := hide (show ∀ (x : Nat) (W : World), x ≠ 0 → (getK l).2 = x → Below w.heap.size w W → GetKE l w (.returned (.tuple #[.agg #[.int .i64 0, .int .i64 0, .int .i64 0, .int .i64 0, .string ⟨#[]⟩, .string ⟨#[]⟩, .string ⟨#[]⟩, .slice none 0 0], .int .i64 (x : Int)])) W from fun x W hx h u => by
    have e : getV l = (cz, x) := by unfold getV; rw [if_neg (by rw [h]; exact hx), h]
    unfold GetKE
    rw [e]
    exact ⟨none, 0, rfl, cz_at W, fun ad e => (by cases e), u⟩)
  by_cases h8 : e8 = 0
  · subst h8
    have q2 : V8.cell? ⟨R, 2, none⟩ = some (.int .i64 0) := q2
    have CK := hide (check_calls ⟨n0, n1, n2, (n3 : Int) - 1, s4, s5, s6, ts⟩ sp cc V8 (unhide CA V8 (unhide HO8)) (Mx.later (unhide MX) (by rw [← hA] at *; exact (unhide G8).be)))
    unfold cmdVal at CK
    dsimp only at CK
    by_cases hck : checkC ⟨n0, n1, n2, (n3 : Int) - 1, s4, s5, s6, ts⟩ = 0
    · as_aux_lemma =>
      have GOOD := hide (show getV l = (⟨n0, n1, n2, (n3 : Int) - 1, s4, s5, s6, ts⟩, 0) by
        have e := unhide EQ
        rw [if_neg (by simp [hck])] at e
        unfold getV
        rw [e, if_pos rfl])
      rw [hck] at CK
      rw [show ((0 : Nat) : Int) = 0 from rfl] at CK
      clear BAD EQ hck
      go_wp2_with fail
      go_at_call 11
      refine (unhide CK).mono ?_
      rintro en V9 ⟨rfl, v9⟩
      have G9 := hide ((unhide G8).later v9)
      have HO9 := hide ((unhide HO8).below v9)
      have p2 : V9.cell? ⟨R, 2, none⟩ = some (.int .i64 0) := (unhide G9).z.c2
      have c0 := fcell0 (unhide G9).cr 0 (.int .i64 (n0 : Int)) rfl
      have c1 := fcell0 (unhide G9).cr 1 (.int .i64 (n1 : Int)) rfl
      have c2 := fcell0 (unhide G9).cr 2 (.int .i64 (n2 : Int)) rfl
      have c3 := fcell0 (unhide G9).cr 3 (.int .i64 ((n3 : Int) - 1)) rfl
      have c4 := fcell0 (unhide G9).cr 4 (.string s4) rfl
      have c5 := fcell0 (unhide G9).cr 5 (.string s5) rfl
      have c6 := fcell0 (unhide G9).cr 6 (.string s6) rfl
      have c7 := fcell0 (unhide G9).cr 7 (.slice sp ts.length cc) rfl
      have HI := hide (show (Tryz.prog.info? 25).map (·.size) = some 8 by kernel_rfl)
      have H1 := hide (one8 (a := .int .i64 (n0 : Int)) (b := .int .i64 (n1 : Int)) (c := .int .i64 (n2 : Int)) (d := .int .i64 ((n3 : Int) - 1)) (e := .string s4) (f := .string s5) (g := .string s6) (h := .slice sp ts.length cc) rfl rfl rfl rfl rfl rfl rfl rfl)
      have AR := hide (unhide G9).ar
      have hr := setRow_heap V9 A cz8 #[.int .i64 (n0 : Int), .int .i64 (n1 : Int), .int .i64 (n2 : Int), .int .i64 ((n3 : Int) - 1), .string s4, .string s5, .string s6, .slice sp ts.length cc] 25 (0, 0) (unhide G9).ar
      have gW := grown_setRowK V9 A #[.int .i64 (n0 : Int), .int .i64 (n1 : Int), .int .i64 (n2 : Int), .int .i64 ((n3 : Int) - 1), .string s4, .string s5, .string s6, .slice sp ts.length cc]
      obtain ⟨W, hW⟩ : ∃ W, W = V9.setRow A #[.int .i64 (n0 : Int), .int .i64 (n1 : Int), .int .i64 (n2 : Int), .int .i64 ((n3 : Int) - 1), .string s4, .string s5, .string s6, .slice sp ts.length cc] := ⟨_, rfl⟩
      rw [← hW] at hr gW
      have HW := hide hW
      have y0 := box_cell hr 0 (.int .i64 (n0 : Int)) rfl
      have y1 := box_cell hr 1 (.int .i64 (n1 : Int)) rfl
      have y2 := box_cell hr 2 (.int .i64 (n2 : Int)) rfl
      have y3 := box_cell hr 3 (.int .i64 ((n3 : Int) - 1)) rfl
      have y4 := box_cell hr 4 (.string s4) rfl
      have y5 := box_cell hr 5 (.string s5) rfl
      have y6 := box_cell hr 6 (.string s6) rfl
      have y7 := box_cell hr 7 (.slice sp ts.length cc) rfl
      have FF := hide (show GetKE l w (.returned (.tuple #[.agg #[.int .i64 (n0 : Int), .int .i64 (n1 : Int), .int .i64 (n2 : Int), .int .i64 ((n3 : Int) - 1), .string s4, .string s5, .string s6, .slice sp ts.length cc], .int .i64 0])) W from by
        have oW := (unhide HO9).farK gW (by have := unhide RO; omega)
        unfold GetKE
        rw [unhide GOOD]
        exact ⟨sp, cc, rfl, unhide CA W oW, unhide AD W oW, below_grownK (unhide G9).be gW (by rw [hA]; exact Nat.le_refl _) (unhide G9).be.size⟩)
      clear hW hr gW v9 CK G8 HO8 GOOD CA AD r0 r1 r2 r3 r4 r5 r6 r7 q2
      go_wp2_with (refine wpList_store_row rfl 25 (.tmp 2) (.tmp 41) rfl A #[.int .i64 (n0 : Int), .int .i64 (n1 : Int), .int .i64 (n2 : Int), .int .i64 ((n3 : Int) - 1), .string s4, .string s5, .string s6, .slice sp ts.length cc] rfl rfl _ cz8 (unhide AR) (unhide HI) rfl (unhide H1) ?_; rw [← unhide HW])
      refine bodyPost_ret (v := .tuple #[.agg #[.int .i64 (n0 : Int), .int .i64 (n1 : Int), .int .i64 (n2 : Int), .int .i64 ((n3 : Int) - 1), .string s4, .string s5, .string s6, .slice sp ts.length cc], .int .i64 0]) (by simp [results, Tryz.results14, go_sem, y0, y1, y2, y3, y4, y5, y6, y7]) rfl ?_
      exact unhide FF
    · as_aux_lemma =>
      have HG := hide (show (getK l).2 = 4 by
        have e := unhide EQ
        rw [if_pos ⟨rfl, hck⟩] at e
        rw [e])
      clear EQ
      have hk1 : ¬ (checkC ⟨n0, n1, n2, (n3 : Int) - 1, s4, s5, s6, ts⟩ : Int) = 0 := by omega
      have hk2 : ((checkC ⟨n0, n1, n2, (n3 : Int) - 1, s4, s5, s6, ts⟩ : Int) == 0) = false := by simp [hck]
      have hk3 : ((checkC ⟨n0, n1, n2, (n3 : Int) - 1, s4, s5, s6, ts⟩ : Int) != 0) = true := by simp [hck]
      clear hck
      generalize ((checkC ⟨n0, n1, n2, (n3 : Int) - 1, s4, s5, s6, ts⟩ : Nat) : Int) = ci at *
      go_wp2_with fail
      go_at_call 11
      refine (unhide CK).mono ?_
      rintro en V9 ⟨rfl, v9⟩
      have G9 := hide ((unhide G8).later v9)
      have FC := hide (kfail_calls (unhide G9).z 4)
      rw [show ((4 : Nat) : Int) = 4 from rfl, show failK 0 4 = 4 from rfl] at FC
      clear v9 CK r0 r1 r2 r3 r4 r5 r6 r7 q2 CA AD HO8
      go_wp2_with fail
      go_at_call 44
      refine (unhide FC).mono ?_
      rintro en V10 ⟨rfl, z1, g1⟩
      have G10 := hide ((unhide G9).call z1 g1)
      clear z1 g1 FC G8 G9 hk1 hk2 hk3
      obtain ⟨x, hx⟩ : ∃ x : Nat, x = 4 := ⟨_, rfl⟩
      have hx0 : x ≠ 0 := by omega
      rw [← hx] at HG G10
      clear hx
      have AR := hide (show A < R by have := unhide RO; omega)
      have p2 := (unhide G10).z.c2
      have x1 : ¬ (x : Int) = 0 := by omega
      have x2 : ((x : Int) == 0) = false := by simp [hx0]
      have x3 : ((x : Int) != 0) = true := by simp [hx0]
      have ZZ := hide (unhide BAD x)
      have HX := hide hx0
      have HI := hide (show (Tryz.prog.info? 25).map (·.size) = some 8 by kernel_rfl)
      have H1 := hide (one8 (a := .int .i64 0) (b := .int .i64 0) (c := .int .i64 0) (d := .int .i64 0) (e := .string ⟨#[]⟩) (f := .string ⟨#[]⟩) (g := .string ⟨#[]⟩) (h := .slice none 0 0) rfl rfl rfl rfl rfl rfl rfl rfl)
      clear hx0 BAD
      generalize hxi : (x : Int) = xi at *
      go_wp2_with fail
      have a0 : V10.drew.cell? ⟨R, 2, none⟩ = some (.int .i64 xi) := p2
      have AR0 := hide (show V10.drew.heap[A]? = some (.cells cz8 25 (0, 0)) from (unhide G10).ar)
      have p3 : (V10.drew.setRow A #[.int .i64 0, .int .i64 0, .int .i64 0, .int .i64 0, .string ⟨#[]⟩, .string ⟨#[]⟩, .string ⟨#[]⟩, .slice none 0 0]).cell? ⟨R, 2, none⟩ = some (.int .i64 xi) := (cell_setRow_other _ _ _ _ (by have := unhide AR; show R ≠ A; omega)).trans a0
      have hr := setRow_heap V10.drew A cz8 #[.int .i64 0, .int .i64 0, .int .i64 0, .int .i64 0, .string ⟨#[]⟩, .string ⟨#[]⟩, .string ⟨#[]⟩, .slice none 0 0] 25 (0, 0) (unhide AR0)
      have F1 := hide (unhide ZZ _ (unhide HX) (unhide HG) (below_grownK (((unhide G10).be).trans ((Below.refl _ _).drew)) (grown_setRowK V10.drew A #[.int .i64 0, .int .i64 0, .int .i64 0, .int .i64 0, .string ⟨#[]⟩, .string ⟨#[]⟩, .string ⟨#[]⟩, .slice none 0 0]) (by rw [hA]; exact Nat.le_refl _) (unhide G10).be.size))
      have d0 := box_cell hr 0 (.int .i64 0) rfl
      have d1 := box_cell hr 1 (.int .i64 0) rfl
      have d2 := box_cell hr 2 (.int .i64 0) rfl
      have d3 := box_cell hr 3 (.int .i64 0) rfl
      have d4 := box_cell hr 4 (.string ⟨#[]⟩) rfl
      have d5 := box_cell hr 5 (.string ⟨#[]⟩) rfl
      have d6 := box_cell hr 6 (.string ⟨#[]⟩) rfl
      have d7 := box_cell hr 7 (.slice none 0 0) rfl
      clear hr
      refine wp_region_held_drew (S := fun w' => w'.cell? ⟨R, 2, none⟩ = some (.int .i64 xi)) (by kernel_rfl) ?_ (fun hHeld => ?_)
      · try dsimp only
        first | exact p3 | exact a0
      refine hT 0 ?_
      refine hT 1 ?_
      refine hT 2 ?_
      refine wpAnyH_ready (rs := [3]) (by kernel_rfl) (by simp) ?_
      refine AllReadyH.cons rfl (fun K hK => ?_) ?_
      · refine wp_store_row 25 (.tmp 2) (.tmp 38) rfl A #[.int .i64 0, .int .i64 0, .int .i64 0, .int .i64 0, .string ⟨#[]⟩, .string ⟨#[]⟩, .string ⟨#[]⟩, .slice none 0 0] rfl rfl _ cz8 (unhide AR0) (unhide HI) rfl (unhide H1) ?_
        refine hK.out _ _ ?_ (fun hHeld => ?_)
        · try dsimp only
          first | exact p3 | exact a0
        clear hK K
        refine hP ?_
        refine hT 4 ?_
        refine wpAnyH_done (by kernel_rfl) ?_ _
        go_wp2
        refine bodyPost_ret (v := .tuple #[.agg #[.int .i64 0, .int .i64 0, .int .i64 0, .int .i64 0, .string ⟨#[]⟩, .string ⟨#[]⟩, .string ⟨#[]⟩, .slice none 0 0], .int .i64 xi]) (by simp [results, Tryz.results14, go_sem, d0, d1, d2, d3, d4, d5, d6, d7]) rfl ?_
        exact unhide F1
      exact AllReadyH.nil
  · as_aux_lemma =>
    have HG := hide (show (getK l).2 = e8 by
      have e := unhide EQ
      rw [if_neg (by simp [h8])] at e
      rw [e])
    have hx0 : e8 ≠ 0 := h8
    clear EQ h8 CA AD HO8 r0 r1 r2 r3 r4 r5 r6 r7 q2
    have AR := hide (show A < R by have := unhide RO; omega)
    have p2 := (unhide G8).z.c2
    have x1 : ¬ (e8 : Int) = 0 := by omega
    have x2 : ((e8 : Int) == 0) = false := by simp [hx0]
    have x3 : ((e8 : Int) != 0) = true := by simp [hx0]
    have ZZ := hide (unhide BAD e8)
    have HX := hide hx0
    have HI := hide (show (Tryz.prog.info? 25).map (·.size) = some 8 by kernel_rfl)
    have H1 := hide (one8 (a := .int .i64 0) (b := .int .i64 0) (c := .int .i64 0) (d := .int .i64 0) (e := .string ⟨#[]⟩) (f := .string ⟨#[]⟩) (g := .string ⟨#[]⟩) (h := .slice none 0 0) rfl rfl rfl rfl rfl rfl rfl rfl)
    clear hx0 BAD
    generalize hxi : (e8 : Int) = xi at *
    go_wp2_with fail
    have a0 : V8.drew.cell? ⟨R, 2, none⟩ = some (.int .i64 xi) := p2
    have AR0 := hide (show V8.drew.heap[A]? = some (.cells cz8 25 (0, 0)) from (unhide G8).ar)
    have p3 : (V8.drew.setRow A #[.int .i64 0, .int .i64 0, .int .i64 0, .int .i64 0, .string ⟨#[]⟩, .string ⟨#[]⟩, .string ⟨#[]⟩, .slice none 0 0]).cell? ⟨R, 2, none⟩ = some (.int .i64 xi) := (cell_setRow_other _ _ _ _ (by have := unhide AR; show R ≠ A; omega)).trans a0
    have hr := setRow_heap V8.drew A cz8 #[.int .i64 0, .int .i64 0, .int .i64 0, .int .i64 0, .string ⟨#[]⟩, .string ⟨#[]⟩, .string ⟨#[]⟩, .slice none 0 0] 25 (0, 0) (unhide AR0)
    have F1 := hide (unhide ZZ _ (unhide HX) (unhide HG) (below_grownK (((unhide G8).be).trans ((Below.refl _ _).drew)) (grown_setRowK V8.drew A #[.int .i64 0, .int .i64 0, .int .i64 0, .int .i64 0, .string ⟨#[]⟩, .string ⟨#[]⟩, .string ⟨#[]⟩, .slice none 0 0]) (by rw [hA]; exact Nat.le_refl _) (unhide G8).be.size))
    have d0 := box_cell hr 0 (.int .i64 0) rfl
    have d1 := box_cell hr 1 (.int .i64 0) rfl
    have d2 := box_cell hr 2 (.int .i64 0) rfl
    have d3 := box_cell hr 3 (.int .i64 0) rfl
    have d4 := box_cell hr 4 (.string ⟨#[]⟩) rfl
    have d5 := box_cell hr 5 (.string ⟨#[]⟩) rfl
    have d6 := box_cell hr 6 (.string ⟨#[]⟩) rfl
    have d7 := box_cell hr 7 (.slice none 0 0) rfl
    clear hr
    refine wp_region_held_drew (S := fun w' => w'.cell? ⟨R, 2, none⟩ = some (.int .i64 xi)) (by kernel_rfl) ?_ (fun hHeld => ?_)
    · try dsimp only
      first | exact p3 | exact a0
    refine hT 0 ?_
    refine hT 1 ?_
    refine hT 2 ?_
    refine wpAnyH_ready (rs := [3]) (by kernel_rfl) (by simp) ?_
    refine AllReadyH.cons rfl (fun K hK => ?_) ?_
    · refine wp_store_row 25 (.tmp 2) (.tmp 38) rfl A #[.int .i64 0, .int .i64 0, .int .i64 0, .int .i64 0, .string ⟨#[]⟩, .string ⟨#[]⟩, .string ⟨#[]⟩, .slice none 0 0] rfl rfl _ cz8 (unhide AR0) (unhide HI) rfl (unhide H1) ?_
      refine hK.out _ _ ?_ (fun hHeld => ?_)
      · try dsimp only
        first | exact p3 | exact a0
      clear hK K
      refine hP ?_
      refine hT 4 ?_
      refine wpAnyH_done (by kernel_rfl) ?_ _
      go_wp2
      refine bodyPost_ret (v := .tuple #[.agg #[.int .i64 0, .int .i64 0, .int .i64 0, .int .i64 0, .string ⟨#[]⟩, .string ⟨#[]⟩, .string ⟨#[]⟩, .slice none 0 0], .int .i64 xi]) (by simp [results, Tryz.results14, go_sem, d0, d1, d2, d3, d4, d5, d6, d7]) rfl ?_
      exact unhide F1
    exact AllReadyH.nil
end Go.Proofs.YtpkpnedcecjlbaaGreatDoor
