/- Conf: GetCommand, the document's. -/
import Derived.Test.YtpkpnedcecjlbaaGreatDoorB45
import Derived.Test.YtpkpnedcecjlbaaGreatDoorB41
import Derived.Test.YtpkpnedcecjlbaaGreatDoorB25
namespace Go.Proofs.YtpkpnedcecjlbaaGreatDoor
open Go.ChangeShapes Go.WideShapes Go.ChangeAt Go.RowKit
set_option linter.unusedVariables false

def z8 (l : List Nat) (a b c d : Nat) (s t u : ByteArray) (q : List Tgt × Nat × Nat) : Cmd × Nat × Nat := (⟨a, b, c, (d : Int) - 1, s, t, u, q.1⟩, q.2.1, q.2.2)
def z7 (l : List Nat) (a b c d : Nat) (s t : ByteArray) (q : List Nat × Nat × Nat) : Cmd × Nat × Nat := z8 l a b c d s t (strOf q.1) (tgsZ l q.2.1 q.2.2)
def z6 (l : List Nat) (a b c d : Nat) (s : ByteArray) (q : List Nat × Nat × Nat) : Cmd × Nat × Nat := z7 l a b c d s (strOf q.1) (txtZ l q.2.1 q.2.2)
def z5 (l : List Nat) (a b c d : Nat) (q : List Nat × Nat × Nat) : Cmd × Nat × Nat := z6 l a b c d (strOf q.1) (txtZ l q.2.1 q.2.2)
def z4 (l : List Nat) (a b c : Nat) (q : Nat × Nat × Nat) : Cmd × Nat × Nat := z5 l a b c q.1 (txtZ l q.2.1 q.2.2)
def z3 (l : List Nat) (a b : Nat) (q : Nat × Nat × Nat) : Cmd × Nat × Nat := z4 l a b q.1 (numZ l q.2.1 q.2.2 1099511627776)
def z2 (l : List Nat) (a : Nat) (q : Nat × Nat × Nat) : Cmd × Nat × Nat := z3 l a q.1 (numZ l q.2.1 q.2.2 1099511627776)
def z1 (l : List Nat) (q : Nat × Nat × Nat) : Cmd × Nat × Nat := z2 l q.1 (numZ l q.2.1 q.2.2 1099511627776)
def getZ (l : List Nat) : Cmd × Nat × Nat := z1 l (numZ l 0 0 1099511627776)
/-- What the document's GetCommand tells. -/
def rgetV (l : List Nat) : Cmd × Nat := if (getZ l).2.2 ≠ 0 then (cz, (getZ l).2.2) else if (getZ l).2.1 < l.length ∨ checkC (getZ l).1 ≠ 0 then (cz, 4) else ((getZ l).1, 0)
def GetZE (l : List Nat) (w : World) (en : Ending) (w' : World) : Prop := ∃ a tc, en = .returned (.tuple #[cmdVal (rgetV l).1 a tc, .int .i64 ((rgetV l).2 : Int)]) ∧ CmdAt w' (rgetV l).1 a tc ∧ (∀ ad, a = some ad → w.heap.size ≤ ad.block) ∧ Below w.heap.size w w'
/-- How far the document's GetCommand is: the result's block A, the scan's R, the command's C. -/
structure CIZ (A R C : Nat) (w0 w : World) (cs : Array Value) (p : Option Addr) (c : Nat) (h : List Nat) (k e : Nat) : Prop where
  z : ZR R w p c h k e
  ar : w.heap[A]? = some (.cells cz8 25 (0, 0))
  cr : w.heap[C]? = some (.cells cs 25 (0, 0))
  be : Below w0.heap.size w0 w
  lo : w0.heap.size ≤ A ∧ A < R ∧ R < C
  pb : 0 < h.length → ∀ ad, p = some ad → ad.block < A
section
variable {A C R : Nat} {w0 w w' : World} {cs : Array Value} {p : Option Addr} {c : Nat} {h : List Nat} {k e k' e' : Nat}
theorem CIZ.sz (g : CIZ A R C w0 w cs p c h k e) : C < w.heap.size := (Array.getElem?_eq_some_iff.1 g.cr).1
theorem CIZ.call (g : CIZ A R C w0 w cs p c h k e) (z : ZR R w' p c h k' e') (u : w.grownBy w' (some R)) : CIZ A R C w0 w' cs p c h k' e' := by
  have hl := g.lo
  have hs := g.sz
  exact ⟨z, (u.block A (by omega) (fun e => by have := Option.some.inj e; omega)).trans g.ar, (u.block C (by omega) (fun e => by have := Option.some.inj e; omega)).trans g.cr, below_grownK g.be u (by omega) g.be.size, g.lo, g.pb⟩
theorem CIZ.later (g : CIZ A R C w0 w cs p c h k e) (u : Below w.heap.size w w') : CIZ A R C w0 w' cs p c h k e := by
  have hl := g.lo
  have hs := g.sz
  exact ⟨g.z.later u, later_block u g.ar, later_block u g.cr, g.be.trans (u.mono g.be.size), g.lo, g.pb⟩
theorem CIZ.asd (g : CIZ A R C w0 w cs p c h k e) (u : w.grownBy w' (some C)) {ds : Array Value} (hd : w'.heap[C]? = some (.cells ds 25 (0, 0))) : CIZ A R C w0 w' ds p c h k e := by
  have hl := g.lo
  have hs := g.sz
  exact ⟨⟨(u.block R (by omega) (fun e => by have := Option.some.inj e; omega)).trans g.z.row, g.z.by_.far0 u (fun h0 b off e => by have := g.pb h0 _ e; simp only at this; omega), g.z.ne, g.z.kl, g.z.hl, g.z.hc, g.z.hm, g.z.hz⟩, (u.block A (by omega) (fun e => by have := Option.some.inj e; omega)).trans g.ar, hd, below_grownK g.be u (by omega) g.be.size, g.lo, g.pb⟩
theorem CIZ.set (g : CIZ A R C w0 w cs p c h k e) (i : Nat) (v : Value) : CIZ A R C w0 (w.setCell ⟨C, i, none⟩ v) (cs.setIfInBounds i v) p c h k e :=
  g.asd (grown_set w C i v) (heap_setCell_same w C i cs _ v g.cr)
theorem CIZ.free (g : CIZ A R C w0 w cs p c h k e) (i : Nat) : w.frozen? ⟨C, i, none⟩ = false := by simp [World.frozen?, g.cr]
end
theorem txtZ_len (h : List Nat) (k e : Nat) : (txtZ h k e).1.length ≤ 128 := by
  unfold txtZ
  exact Nat.le_trans (rowZ_len _ _ _ _) (numZ_le _ _ _ _)
theorem tgsGZ_small (h : List Nat) : ∀ (n k e : Nat), (tgsGZ h n k e).1.length ≤ n ∧ ∀ t ∈ (tgsGZ h n k e).1, t.1.size ≤ 128
  | 0, k, e => by simp [tgsGZ]
  | n + 1, k, e => by
    by_cases he : e = 0
    · subst he
      rw [tgsGZ_step]
      obtain ⟨h1, h2⟩ := tgsGZ_small h n (tgZ h k 0).2.1 (tgZ h k 0).2.2
      refine ⟨by simp only [List.length_cons]; omega, fun t ht => ?_⟩
      rcases List.mem_cons.1 ht with rfl | ht
      · have := txtZ_len h k 0
        simp only [tgZ, strOf]
        simpa [ByteArray.size] using this
      · exact h2 t ht
    · rw [tgsGZ_err h _ k e he]; simp
theorem tgsZ_small (h : List Nat) (k e : Nat) : (tgsZ h k e).1.length ≤ 16 ∧ ∀ t ∈ (tgsZ h k e).1, t.1.size ≤ 128 := by
  unfold tgsZ
  have h1 := tgsGZ_small h (numZ h k e 16).1 (numZ h k e 16).2.1 (numZ h k e 16).2.2
  exact ⟨Nat.le_trans h1.1 (numZ_le _ _ _ _), h1.2⟩
set_option maxRecDepth 20000 in
set_option maxHeartbeats 8000000 in
theorem zget_calls (a : Option Addr) (c : Nat) (l : List Nat) (w : World) (hc : l.length ≤ c) (hm : c ≤ maxLen) (hb : BytesAt w a l) (hz : a = none → c = 0) (hl47 : l.length ≤ 140737488355328) :
    Calls Tryz.prog 15 #[.slice a l.length c] w (GetZE l w) := by
  have s1 : (w.alloc (.cells cz8 25)).heap.size = w.heap.size + 1 := by simp
  have s2 : ((w.alloc (.cells cz8 25)).alloc (.cells #[.slice a l.length c, .int .i64 0, .int .i64 0] 80)).heap.size = w.heap.size + 1 + 1 := by simp
  have PB : 0 < l.length → ∀ ad, a = some ad → ad.block < w.heap.size := by
    intro h0 ad e
    obtain ⟨b, off, e2, hc2⟩ := hb.cell 0 h0
    rw [e] at e2
    have := Option.some.inj e2
    subst this
    rcases Nat.lt_or_ge b w.heap.size with h | h
    · exact h
    · have : w.heap[b]? = none := Array.getElem?_eq_none h
      simp [World.cell?, this] at hc2
  have G := hide (show CIZ w.heap.size (w.heap.size + 1) (w.heap.size + 1 + 1) w (((w.alloc (.cells cz8 25)).alloc (.cells #[.slice a l.length c, .int .i64 0, .int .i64 0] 80)).alloc (.cells cz8 25)) cz8 a c l 0 0 from by
    have b1 : Below w.heap.size w (w.alloc (.cells cz8 25)) := (Below.refl _ _).alloc (Nat.le_refl _) _
    have b2 : Below (w.heap.size + 1) (w.alloc (.cells cz8 25)) ((w.alloc (.cells cz8 25)).alloc (.cells #[.slice a l.length c, .int .i64 0, .int .i64 0] 80)) := by
      have : Below (w.alloc (.cells cz8 25)).heap.size (w.alloc (.cells cz8 25)) ((w.alloc (.cells cz8 25)).alloc (.cells #[.slice a l.length c, .int .i64 0, .int .i64 0] 80)) := (Below.refl _ _).alloc (Nat.le_refl _) _
      rw [s1] at this
      exact this
    have b3 : Below (w.heap.size + 1 + 1) ((w.alloc (.cells cz8 25)).alloc (.cells #[.slice a l.length c, .int .i64 0, .int .i64 0] 80)) (((w.alloc (.cells cz8 25)).alloc (.cells #[.slice a l.length c, .int .i64 0, .int .i64 0] 80)).alloc (.cells cz8 25)) := by
      have : Below ((w.alloc (.cells cz8 25)).alloc (.cells #[.slice a l.length c, .int .i64 0, .int .i64 0] 80)).heap.size _ (((w.alloc (.cells cz8 25)).alloc (.cells #[.slice a l.length c, .int .i64 0, .int .i64 0] 80)).alloc (.cells cz8 25)) := (Below.refl _ _).alloc (Nat.le_refl _) _
      rw [s2] at this
      exact this
    have x1 := heap_new w (.cells cz8 25)
    have x2 := heap_new (w.alloc (.cells cz8 25)) (.cells #[.slice a l.length c, .int .i64 0, .int .i64 0] 80)
    have x3 := heap_new ((w.alloc (.cells cz8 25)).alloc (.cells #[.slice a l.length c, .int .i64 0, .int .i64 0] 80)) (.cells cz8 25)
    rw [s1] at x2
    rw [s2] at x3
    have bb := (b1.trans (b2.mono (by omega))).trans (b3.mono (by omega))
    exact ⟨⟨(b3.block _ (by omega)).trans x2, hb.later bb, fun h0 ad e => by have := PB h0 ad e; omega, by omega, hl47, hc, hm, hz⟩, (b3.block _ (by omega)).trans ((b2.block _ (by omega)).trans x1), x3, bb, ⟨by omega, by omega, by omega⟩, fun h0 ad e => PB h0 ad e⟩)
  have EQ := hide (show getZ l = z1 l (numZ l 0 0 1099511627776) from rfl)
  clear hc hm hb hz hl47 PB s1 s2
  simp only [cz8] at G
  have HI := hide (show (Tryz.prog.info? 25).map (·.size) = some 8 by kernel_rfl)
  have H1 := hide (one8 (a := .int .i64 0) (b := .int .i64 0) (c := .int .i64 0) (d := .int .i64 0) (e := .string ⟨#[]⟩) (f := .string ⟨#[]⟩) (g := .string ⟨#[]⟩) (h := .slice none 0 0) rfl rfl rfl rfl rfl rfl rfl rfl)
  have CR := hide (unhide G).cr
  have HS := hide (show CIZ w.heap.size (w.heap.size + 1) (w.heap.size + 1 + 1) w ((((w.alloc (.cells #[.int .i64 0, .int .i64 0, .int .i64 0, .int .i64 0, .string ⟨#[]⟩, .string ⟨#[]⟩, .string ⟨#[]⟩, .slice none 0 0] 25)).alloc (.cells #[.slice a l.length c, .int .i64 0, .int .i64 0] 80)).alloc (.cells #[.int .i64 0, .int .i64 0, .int .i64 0, .int .i64 0, .string ⟨#[]⟩, .string ⟨#[]⟩, .string ⟨#[]⟩, .slice none 0 0] 25)).setRow (w.heap.size + 1 + 1) #[.int .i64 0, .int .i64 0, .int .i64 0, .int .i64 0, .string ⟨#[]⟩, .string ⟨#[]⟩, .string ⟨#[]⟩, .slice none 0 0]) #[.int .i64 0, .int .i64 0, .int .i64 0, .int .i64 0, .string ⟨#[]⟩, .string ⟨#[]⟩, .string ⟨#[]⟩, .slice none 0 0] a c l 0 0 from
    (unhide G).asd (grown_setRowK _ _ _) (setRow_heap _ _ _ _ _ _ (unhide G).cr))
  clear G
  go_enter Tryz.func15, Tryz.ntmps15
  go_wp2_with (refine wpList_store_row rfl 25 (.tmp 5) (.tmp 9) rfl (w.heap.size + 1 + 1) #[.int .i64 0, .int .i64 0, .int .i64 0, .int .i64 0, .string ⟨#[]⟩, .string ⟨#[]⟩, .string ⟨#[]⟩, .slice none 0 0] rfl rfl _ #[.int .i64 0, .int .i64 0, .int .i64 0, .int .i64 0, .string ⟨#[]⟩, .string ⟨#[]⟩, .string ⟨#[]⟩, .slice none 0 0] (unhide CR) (unhide HI) rfl (unhide H1) ?_)
  generalize hA : w.heap.size = A at *
  generalize hR : A + 1 = R at *
  generalize hC : R + 1 = C at *
  generalize (((w.alloc (.cells #[.int .i64 0, .int .i64 0, .int .i64 0, .int .i64 0, .string ⟨#[]⟩, .string ⟨#[]⟩, .string ⟨#[]⟩, .slice none 0 0] 25)).alloc (.cells #[.slice a l.length c, .int .i64 0, .int .i64 0] 80)).alloc (.cells #[.int .i64 0, .int .i64 0, .int .i64 0, .int .i64 0, .string ⟨#[]⟩, .string ⟨#[]⟩, .string ⟨#[]⟩, .slice none 0 0] 25)).setRow C #[.int .i64 0, .int .i64 0, .int .i64 0, .int .i64 0, .string ⟨#[]⟩, .string ⟨#[]⟩, .string ⟨#[]⟩, .slice none 0 0] = W0 at *
  have G := HS
  clear HS CR
  have NL0 := hide (numZ_le l 0 0 1099511627776)
  have NC := hide (znum_calls (unhide G).z 1099511627776 (by omega))
  unfold NEndZ at NC
  rw [show ((1099511627776 : Nat) : Int) = 1099511627776 from rfl] at NC
  generalize numZ l 0 0 1099511627776 = q at *
  obtain ⟨n0, k0, e0⟩ := q
  dsimp only at NC NL0
  replace EQ := hide (show getZ l = z2 l n0 (numZ l k0 e0 1099511627776) from unhide EQ)
  go_at_call 45
  refine (unhide NC).mono ?_
  rintro en V0 ⟨rfl, z1, g1⟩
  have G1 := (unhide G).call z1 g1
  have fc := G1.free 0
  have oc := box_cell G1.cr 0 (.int .i64 0) rfl
  replace G := hide (show CIZ A R C w (V0.setCell ⟨C, 0, none⟩ (.int .i64 (n0 : Int))) #[.int .i64 (n0 : Int), .int .i64 0, .int .i64 0, .int .i64 0, .string ⟨#[]⟩, .string ⟨#[]⟩, .string ⟨#[]⟩, .slice none 0 0] a c l k0 e0 from G1.set 0 _)
  clear z1 g1 NC G1
  have NL1 := hide (numZ_le l k0 e0 1099511627776)
  have NC := hide (znum_calls (unhide G).z 1099511627776 (by omega))
  unfold NEndZ at NC
  rw [show ((1099511627776 : Nat) : Int) = 1099511627776 from rfl] at NC
  generalize numZ l k0 e0 1099511627776 = q at *
  obtain ⟨n1, k1, e1⟩ := q
  dsimp only at NC NL1
  replace EQ := hide (show getZ l = z3 l n0 n1 (numZ l k1 e1 1099511627776) from unhide EQ)
  go_wp2_with fail
  go_at_call 45
  refine (unhide NC).mono ?_
  rintro en V1 ⟨rfl, z1, g1⟩
  have G1 := (unhide G).call z1 g1
  clear fc oc
  have fc := G1.free 1
  have oc := box_cell G1.cr 1 (.int .i64 0) rfl
  replace G := hide (show CIZ A R C w (V1.setCell ⟨C, 1, none⟩ (.int .i64 (n1 : Int))) #[.int .i64 (n0 : Int), .int .i64 (n1 : Int), .int .i64 0, .int .i64 0, .string ⟨#[]⟩, .string ⟨#[]⟩, .string ⟨#[]⟩, .slice none 0 0] a c l k1 e1 from G1.set 1 _)
  clear z1 g1 NC G1
  have NL2 := hide (numZ_le l k1 e1 1099511627776)
  have NC := hide (znum_calls (unhide G).z 1099511627776 (by omega))
  unfold NEndZ at NC
  rw [show ((1099511627776 : Nat) : Int) = 1099511627776 from rfl] at NC
  generalize numZ l k1 e1 1099511627776 = q at *
  obtain ⟨n2, k2, e2⟩ := q
  dsimp only at NC NL2
  replace EQ := hide (show getZ l = z4 l n0 n1 n2 (numZ l k2 e2 1099511627776) from unhide EQ)
  go_wp2_with fail
  go_at_call 45
  refine (unhide NC).mono ?_
  rintro en V2 ⟨rfl, z1, g1⟩
  have G1 := (unhide G).call z1 g1
  clear fc oc
  have fc := G1.free 2
  have oc := box_cell G1.cr 2 (.int .i64 0) rfl
  replace G := hide (show CIZ A R C w (V2.setCell ⟨C, 2, none⟩ (.int .i64 (n2 : Int))) #[.int .i64 (n0 : Int), .int .i64 (n1 : Int), .int .i64 (n2 : Int), .int .i64 0, .string ⟨#[]⟩, .string ⟨#[]⟩, .string ⟨#[]⟩, .slice none 0 0] a c l k2 e2 from G1.set 2 _)
  clear z1 g1 NC G1
  have NL3 := hide (numZ_le l k2 e2 1099511627776)
  have NC := hide (znum_calls (unhide G).z 1099511627776 (by omega))
  unfold NEndZ at NC
  rw [show ((1099511627776 : Nat) : Int) = 1099511627776 from rfl] at NC
  generalize numZ l k2 e2 1099511627776 = q at *
  obtain ⟨n3, k3, e3⟩ := q
  dsimp only at NC NL3
  replace EQ := hide (show getZ l = z5 l n0 n1 n2 n3 (txtZ l k3 e3) from unhide EQ)
  go_wp2_with fail
  go_at_call 45
  refine (unhide NC).mono ?_
  rintro en V3 ⟨rfl, z1, g1⟩
  have G1 := (unhide G).call z1 g1
  clear fc oc
  have fc := G1.free 3
  have oc := box_cell G1.cr 3 (.int .i64 0) rfl
  have hwr : IntKind.i64.wrap ((n3 : Int) - 1) = (n3 : Int) - 1 := by have := unhide NL3; rw [IntKind.wrap_i64]; omega
  replace G := hide (show CIZ A R C w (V3.setCell ⟨C, 3, none⟩ (.int .i64 ((n3 : Int) - 1))) #[.int .i64 (n0 : Int), .int .i64 (n1 : Int), .int .i64 (n2 : Int), .int .i64 ((n3 : Int) - 1), .string ⟨#[]⟩, .string ⟨#[]⟩, .string ⟨#[]⟩, .slice none 0 0] a c l k3 e3 from G1.set 3 _)
  clear z1 g1 NC G1
  have NL4 := hide (txtZ_len l k3 e3)
  have TC := hide (ztext_calls (unhide G).z)
  unfold TEndZ at TC
  generalize txtZ l k3 e3 = q at *
  obtain ⟨b4, k4, e4⟩ := q
  dsimp only at TC NL4
  rw [← strOf_size] at NL4
  replace EQ := hide (show getZ l = z6 l n0 n1 n2 n3 (strOf b4) (txtZ l k4 e4) from unhide EQ)
  generalize strOf b4 = s4 at *
  go_wp2_with fail
  go_at_call 46
  refine (unhide TC).mono ?_
  rintro en V4 ⟨rfl, z1, g1⟩
  have G1 := (unhide G).call z1 g1
  clear fc oc hwr
  have fc := G1.free 4
  have oc := box_cell G1.cr 4 (.string ⟨#[]⟩) rfl
  replace G := hide (show CIZ A R C w (V4.setCell ⟨C, 4, none⟩ (.string s4)) #[.int .i64 (n0 : Int), .int .i64 (n1 : Int), .int .i64 (n2 : Int), .int .i64 ((n3 : Int) - 1), .string s4, .string ⟨#[]⟩, .string ⟨#[]⟩, .slice none 0 0] a c l k4 e4 from G1.set 4 _)
  clear z1 g1 TC G1
  have NL5 := hide (txtZ_len l k4 e4)
  have TC := hide (ztext_calls (unhide G).z)
  unfold TEndZ at TC
  generalize txtZ l k4 e4 = q at *
  obtain ⟨b5, k5, e5⟩ := q
  dsimp only at TC NL5
  rw [← strOf_size] at NL5
  replace EQ := hide (show getZ l = z7 l n0 n1 n2 n3 s4 (strOf b5) (txtZ l k5 e5) from unhide EQ)
  generalize strOf b5 = s5 at *
  go_wp2_with fail
  go_at_call 46
  refine (unhide TC).mono ?_
  rintro en V5 ⟨rfl, z1, g1⟩
  have G1 := (unhide G).call z1 g1
  clear fc oc
  have fc := G1.free 5
  have oc := box_cell G1.cr 5 (.string ⟨#[]⟩) rfl
  replace G := hide (show CIZ A R C w (V5.setCell ⟨C, 5, none⟩ (.string s5)) #[.int .i64 (n0 : Int), .int .i64 (n1 : Int), .int .i64 (n2 : Int), .int .i64 ((n3 : Int) - 1), .string s4, .string s5, .string ⟨#[]⟩, .slice none 0 0] a c l k5 e5 from G1.set 5 _)
  clear z1 g1 TC G1
  have NL6 := hide (txtZ_len l k5 e5)
  have TC := hide (ztext_calls (unhide G).z)
  unfold TEndZ at TC
  generalize txtZ l k5 e5 = q at *
  obtain ⟨b6, k6, e6⟩ := q
  dsimp only at TC NL6
  rw [← strOf_size] at NL6
  replace EQ := hide (show getZ l = z8 l n0 n1 n2 n3 s4 s5 (strOf b6) (tgsZ l k6 e6) from unhide EQ)
  generalize strOf b6 = s6 at *
  go_wp2_with fail
  go_at_call 46
  refine (unhide TC).mono ?_
  rintro en V6 ⟨rfl, z1, g1⟩
  have G1 := (unhide G).call z1 g1
  clear fc oc
  have fc := G1.free 6
  have oc := box_cell G1.cr 6 (.string ⟨#[]⟩) rfl
  replace G := hide (show CIZ A R C w (V6.setCell ⟨C, 6, none⟩ (.string s6)) #[.int .i64 (n0 : Int), .int .i64 (n1 : Int), .int .i64 (n2 : Int), .int .i64 ((n3 : Int) - 1), .string s4, .string s5, .string s6, .slice none 0 0] a c l k6 e6 from G1.set 6 _)
  clear z1 g1 TC G1
  have NL7 := hide (tgsZ_small l k6 e6)
  have TC := hide (ztargets_calls (unhide G).z)
  unfold GEndZ at TC
  generalize tgsZ l k6 e6 = q at *
  obtain ⟨ts, k7, e7⟩ := q
  dsimp only at TC NL7
  replace EQ := hide (show getZ l = (⟨n0, n1, n2, (n3 : Int) - 1, s4, s5, s6, ts⟩, k7, e7) from unhide EQ)
  have GB := hide (unhide G).sz
  go_wp2_with fail
  go_at_call 47
  refine (unhide TC).mono ?_
  rintro en V7 ⟨sp, n7, cc, rfl, hn7, hO, hLT, z1, g1⟩
  have G1 := (unhide G).call z1 g1
  clear fc oc
  have fc := G1.free 7
  have oc := box_cell G1.cr 7 (.slice none 0 0) rfl
  have RO := hide (show A < R ∧ R < C from G1.lo.2)
  have HO1 := hide (hO.monoK (show C + 1 ≤ _ from unhide GB))
  have HO8 := hide ((unhide HO1).farK (grown_set V7 C 7 (.slice sp n7 cc)) (Nat.lt_succ_self C))
  have G8 := hide (show CIZ A R C w (V7.setCell ⟨C, 7, none⟩ (.slice sp n7 cc)) #[.int .i64 (n0 : Int), .int .i64 (n1 : Int), .int .i64 (n2 : Int), .int .i64 ((n3 : Int) - 1), .string s4, .string s5, .string s6, .slice sp n7 cc] a c l k7 e7 from G1.set 7 _)
  have HN7 := hide hn7
  have HLT := hide hLT
  clear hO hLT z1 g1 TC G1 HO1 hn7 GB G
  have q2 := (unhide G8).z.c2
  have CA := hide (show ∀ W, OwnT (C + 1) W sp cc ts → CmdAt W ⟨n0, n1, n2, (n3 : Int) - 1, s4, s5, s6, ts⟩ sp cc from fun W o => by
    obtain ⟨c1, c2, c3⟩ := o.capK
    have h0 := unhide NL0
    have h1 := unhide NL1
    have h2 := unhide NL2
    have h3 := unhide NL3
    have h4 := unhide NL4
    have h5 := unhide NL5
    have h6 := unhide NL6
    obtain ⟨h7, h8⟩ := unhide NL7
    exact ⟨o.at_ (unhide HLT), fun t ht => Nat.le_trans (h8 t ht) (by omega), by dsimp only; omega, by dsimp only; omega, by dsimp only; omega, ⟨by dsimp only; simp only [maxLen]; omega, c1⟩, c2, by dsimp only; omega, by dsimp only; omega, by dsimp only; omega, by dsimp only; omega⟩)
  have AD := hide (show ∀ W, OwnT (C + 1) W sp cc ts → ∀ ad, sp = some ad → w.heap.size ≤ ad.block from fun W o ad e => by have := o.capK.2.2 ad e; have := unhide RO; omega)
  have e7' := unhide HN7
  subst e7'
  clear HN7
  have BAD := hide (show ∀ (x : Nat) (W : World), rgetV l = (cz, x) → Below w.heap.size w W → GetZE l w (.returned (.tuple #[.agg #[.int .i64 0, .int .i64 0, .int .i64 0, .int .i64 0, .string ⟨#[]⟩, .string ⟨#[]⟩, .string ⟨#[]⟩, .slice none 0 0], .int .i64 (x : Int)])) W from fun x W h u => by
    unfold GetZE
    rw [h]
    exact ⟨none, 0, rfl, cz_at W, fun ad e => (by cases e), u⟩)
  by_cases h8 : e7 = 0
  · subst h8
    have q2 : (V7.setCell ⟨C, 7, none⟩ (.slice sp ts.length cc)).cell? ⟨R, 2, none⟩ = some (.int .i64 0) := q2
    have q1 := (unhide G8).z.c1
    have r0 := fcell0 (unhide G8).cr 0 (.int .i64 (n0 : Int)) rfl
    have r1 := fcell0 (unhide G8).cr 1 (.int .i64 (n1 : Int)) rfl
    have r2 := fcell0 (unhide G8).cr 2 (.int .i64 (n2 : Int)) rfl
    have r3 := fcell0 (unhide G8).cr 3 (.int .i64 ((n3 : Int) - 1)) rfl
    have r4 := fcell0 (unhide G8).cr 4 (.string s4) rfl
    have r5 := fcell0 (unhide G8).cr 5 (.string s5) rfl
    have r6 := fcell0 (unhide G8).cr 6 (.string s6) rfl
    have r7 := fcell0 (unhide G8).cr 7 (.slice sp ts.length cc) rfl
    by_cases hk : k7 = l.length
    · have CK := hide (checkR_calls ⟨n0, n1, n2, (n3 : Int) - 1, s4, s5, s6, ts⟩ sp cc (V7.setCell ⟨C, 7, none⟩ (.slice sp ts.length cc)) (unhide CA _ (unhide HO8)))
      unfold cmdVal at CK
      dsimp only at CK
      subst hk
      by_cases hck : checkC ⟨n0, n1, n2, (n3 : Int) - 1, s4, s5, s6, ts⟩ = 0
      · as_aux_lemma =>
        have GOOD := hide (show rgetV l = (⟨n0, n1, n2, (n3 : Int) - 1, s4, s5, s6, ts⟩, 0) by
          unfold rgetV
          rw [unhide EQ, if_neg (by simp), if_neg (by simp [hck])])
        rw [hck] at CK
        rw [show ((0 : Nat) : Int) = 0 from rfl] at CK
        clear BAD EQ hck
        go_wp2_with fail
        go_at_call 12
        refine (unhide CK).mono ?_
        rintro en V9 ⟨rfl, v9⟩
        have G9 := hide ((unhide G8).later v9)
        have HO9 := hide ((unhide HO8).below v9)
        have c0 := fcell0 (unhide G9).cr 0 (.int .i64 (n0 : Int)) rfl
        have c1 := fcell0 (unhide G9).cr 1 (.int .i64 (n1 : Int)) rfl
        have c2 := fcell0 (unhide G9).cr 2 (.int .i64 (n2 : Int)) rfl
        have c3 := fcell0 (unhide G9).cr 3 (.int .i64 ((n3 : Int) - 1)) rfl
        have c4 := fcell0 (unhide G9).cr 4 (.string s4) rfl
        have c5 := fcell0 (unhide G9).cr 5 (.string s5) rfl
        have c6 := fcell0 (unhide G9).cr 6 (.string s6) rfl
        have c7 := fcell0 (unhide G9).cr 7 (.slice sp ts.length cc) rfl
        have H2 := hide (one8 (a := .int .i64 (n0 : Int)) (b := .int .i64 (n1 : Int)) (c := .int .i64 (n2 : Int)) (d := .int .i64 ((n3 : Int) - 1)) (e := .string s4) (f := .string s5) (g := .string s6) (h := .slice sp ts.length cc) rfl rfl rfl rfl rfl rfl rfl rfl)
        have AR := hide (unhide G9).ar
        have hr := setRow_heap V9 A cz8 #[.int .i64 (n0 : Int), .int .i64 (n1 : Int), .int .i64 (n2 : Int), .int .i64 ((n3 : Int) - 1), .string s4, .string s5, .string s6, .slice sp ts.length cc] 25 (0, 0) (unhide G9).ar
        have gW := grown_setRowK V9 A #[.int .i64 (n0 : Int), .int .i64 (n1 : Int), .int .i64 (n2 : Int), .int .i64 ((n3 : Int) - 1), .string s4, .string s5, .string s6, .slice sp ts.length cc]
        obtain ⟨W, hW⟩ : ∃ W, W = V9.setRow A #[.int .i64 (n0 : Int), .int .i64 (n1 : Int), .int .i64 (n2 : Int), .int .i64 ((n3 : Int) - 1), .string s4, .string s5, .string s6, .slice sp ts.length cc] := ⟨_, rfl⟩
        rw [← hW] at hr gW
        have HW := hide hW
        have y0 := box_cell hr 0 (.int .i64 (n0 : Int)) rfl
        have y1 := box_cell hr 1 (.int .i64 (n1 : Int)) rfl
        have y2 := box_cell hr 2 (.int .i64 (n2 : Int)) rfl
        have y3 := box_cell hr 3 (.int .i64 ((n3 : Int) - 1)) rfl
        have y4 := box_cell hr 4 (.string s4) rfl
        have y5 := box_cell hr 5 (.string s5) rfl
        have y6 := box_cell hr 6 (.string s6) rfl
        have y7 := box_cell hr 7 (.slice sp ts.length cc) rfl
        have FF := hide (show GetZE l w (.returned (.tuple #[.agg #[.int .i64 (n0 : Int), .int .i64 (n1 : Int), .int .i64 (n2 : Int), .int .i64 ((n3 : Int) - 1), .string s4, .string s5, .string s6, .slice sp ts.length cc], .int .i64 0])) W from by
          have oW := (unhide HO9).farK gW (by have := unhide RO; omega)
          unfold GetZE
          rw [unhide GOOD]
          exact ⟨sp, cc, rfl, unhide CA W oW, unhide AD W oW, below_grownK (unhide G9).be gW (by rw [hA]; exact Nat.le_refl _) (unhide G9).be.size⟩)
        clear hW hr gW v9 CK G8 HO8 GOOD CA AD r0 r1 r2 r3 r4 r5 r6 r7 q2 q1
        go_wp2_with (refine wpList_store_row rfl 25 (.tmp 2) (.tmp 58) rfl A #[.int .i64 (n0 : Int), .int .i64 (n1 : Int), .int .i64 (n2 : Int), .int .i64 ((n3 : Int) - 1), .string s4, .string s5, .string s6, .slice sp ts.length cc] rfl rfl _ cz8 (unhide AR) (unhide HI) rfl (unhide H2) ?_; rw [← unhide HW])
        refine bodyPost_ret (v := .tuple #[.agg #[.int .i64 (n0 : Int), .int .i64 (n1 : Int), .int .i64 (n2 : Int), .int .i64 ((n3 : Int) - 1), .string s4, .string s5, .string s6, .slice sp ts.length cc], .int .i64 0]) (by simp [results, Tryz.results15, go_sem, y0, y1, y2, y3, y4, y5, y6, y7]) rfl ?_
        exact unhide FF
      · as_aux_lemma =>
        have HG := hide (show rgetV l = (cz, 4) by
          unfold rgetV
          rw [unhide EQ, if_neg (by simp), if_pos (.inr hck)])
        clear EQ
        have hk1 : ¬ (checkC ⟨n0, n1, n2, (n3 : Int) - 1, s4, s5, s6, ts⟩ : Int) = 0 := by omega
        have hk2 : ((checkC ⟨n0, n1, n2, (n3 : Int) - 1, s4, s5, s6, ts⟩ : Int) == 0) = false := by simp [hck]
        have hk3 : ((checkC ⟨n0, n1, n2, (n3 : Int) - 1, s4, s5, s6, ts⟩ : Int) != 0) = true := by simp [hck]
        clear hck
        generalize ((checkC ⟨n0, n1, n2, (n3 : Int) - 1, s4, s5, s6, ts⟩ : Nat) : Int) = ci at *
        go_wp2_with fail
        go_at_call 12
        refine (unhide CK).mono ?_
        rintro en V9 ⟨rfl, v9⟩
        have G9 := hide ((unhide G8).later v9)
        clear v9 CK r0 r1 r2 r3 r4 r5 r6 r7 q2 q1 CA AD HO8 G8
        have AR := hide (unhide G9).ar
        have hr := setRow_heap V9 A cz8 #[.int .i64 0, .int .i64 0, .int .i64 0, .int .i64 0, .string ⟨#[]⟩, .string ⟨#[]⟩, .string ⟨#[]⟩, .slice none 0 0] 25 (0, 0) (unhide AR)
        have F1 := hide (unhide BAD 4 (V9.setRow A #[.int .i64 0, .int .i64 0, .int .i64 0, .int .i64 0, .string ⟨#[]⟩, .string ⟨#[]⟩, .string ⟨#[]⟩, .slice none 0 0]) (unhide HG) (below_grownK (unhide G9).be (grown_setRowK V9 A #[.int .i64 0, .int .i64 0, .int .i64 0, .int .i64 0, .string ⟨#[]⟩, .string ⟨#[]⟩, .string ⟨#[]⟩, .slice none 0 0]) (by rw [hA]; exact Nat.le_refl _) (unhide G9).be.size))
        rw [show ((4 : Nat) : Int) = 4 from rfl] at F1
        obtain ⟨W, hW⟩ : ∃ W, W = V9.setRow A #[.int .i64 0, .int .i64 0, .int .i64 0, .int .i64 0, .string ⟨#[]⟩, .string ⟨#[]⟩, .string ⟨#[]⟩, .slice none 0 0] := ⟨_, rfl⟩
        rw [← hW] at hr F1
        have HW := hide hW
        have d0 := box_cell hr 0 (.int .i64 0) rfl
        have d1 := box_cell hr 1 (.int .i64 0) rfl
        have d2 := box_cell hr 2 (.int .i64 0) rfl
        have d3 := box_cell hr 3 (.int .i64 0) rfl
        have d4 := box_cell hr 4 (.string ⟨#[]⟩) rfl
        have d5 := box_cell hr 5 (.string ⟨#[]⟩) rfl
        have d6 := box_cell hr 6 (.string ⟨#[]⟩) rfl
        have d7 := box_cell hr 7 (.slice none 0 0) rfl
        clear hr hW HG BAD
        go_wp2_with (refine wpList_store_row rfl 25 (.tmp 2) (.tmp 57) rfl A #[.int .i64 0, .int .i64 0, .int .i64 0, .int .i64 0, .string ⟨#[]⟩, .string ⟨#[]⟩, .string ⟨#[]⟩, .slice none 0 0] rfl rfl _ cz8 (unhide AR) (unhide HI) rfl (unhide H1) ?_; rw [← unhide HW])
        refine bodyPost_ret (v := .tuple #[.agg #[.int .i64 0, .int .i64 0, .int .i64 0, .int .i64 0, .string ⟨#[]⟩, .string ⟨#[]⟩, .string ⟨#[]⟩, .slice none 0 0], .int .i64 4]) (by simp [results, Tryz.results15, go_sem, d0, d1, d2, d3, d4, d5, d6, d7]) rfl ?_
        exact unhide F1
    · as_aux_lemma =>
      have HG := hide (show rgetV l = (cz, 4) by
        unfold rgetV
        rw [unhide EQ, if_neg (by simp), if_pos (.inl (by have := (unhide G8).z.kl; dsimp only; omega))])
      clear EQ CA AD HO8 r0 r1 r2 r3 r4 r5 r6 r7
      have n1 : ¬ (k7 : Int) = (l.length : Int) := by omega
      have n2 : ((k7 : Int) == (l.length : Int)) = false := by simp; omega
      have n3 : ((k7 : Int) != (l.length : Int)) = true := by simp; omega
      have AR := hide (unhide G8).ar
      have hr := setRow_heap (V7.setCell ⟨C, 7, none⟩ (.slice sp ts.length cc)) A cz8 #[.int .i64 0, .int .i64 0, .int .i64 0, .int .i64 0, .string ⟨#[]⟩, .string ⟨#[]⟩, .string ⟨#[]⟩, .slice none 0 0] 25 (0, 0) (unhide AR)
      have F1 := hide (unhide BAD 4 ((V7.setCell ⟨C, 7, none⟩ (.slice sp ts.length cc)).setRow A #[.int .i64 0, .int .i64 0, .int .i64 0, .int .i64 0, .string ⟨#[]⟩, .string ⟨#[]⟩, .string ⟨#[]⟩, .slice none 0 0]) (unhide HG) (below_grownK (unhide G8).be (grown_setRowK (V7.setCell ⟨C, 7, none⟩ (.slice sp ts.length cc)) A #[.int .i64 0, .int .i64 0, .int .i64 0, .int .i64 0, .string ⟨#[]⟩, .string ⟨#[]⟩, .string ⟨#[]⟩, .slice none 0 0]) (by rw [hA]; exact Nat.le_refl _) (unhide G8).be.size))
      rw [show ((4 : Nat) : Int) = 4 from rfl] at F1
      obtain ⟨W, hW⟩ : ∃ W, W = (V7.setCell ⟨C, 7, none⟩ (.slice sp ts.length cc)).setRow A #[.int .i64 0, .int .i64 0, .int .i64 0, .int .i64 0, .string ⟨#[]⟩, .string ⟨#[]⟩, .string ⟨#[]⟩, .slice none 0 0] := ⟨_, rfl⟩
      rw [← hW] at hr F1
      have HW := hide hW
      have d0 := box_cell hr 0 (.int .i64 0) rfl
      have d1 := box_cell hr 1 (.int .i64 0) rfl
      have d2 := box_cell hr 2 (.int .i64 0) rfl
      have d3 := box_cell hr 3 (.int .i64 0) rfl
      have d4 := box_cell hr 4 (.string ⟨#[]⟩) rfl
      have d5 := box_cell hr 5 (.string ⟨#[]⟩) rfl
      have d6 := box_cell hr 6 (.string ⟨#[]⟩) rfl
      have d7 := box_cell hr 7 (.slice none 0 0) rfl
      clear hr hW HG BAD
      go_wp2_with (refine wpList_store_row rfl 25 (.tmp 2) (.tmp 57) rfl A #[.int .i64 0, .int .i64 0, .int .i64 0, .int .i64 0, .string ⟨#[]⟩, .string ⟨#[]⟩, .string ⟨#[]⟩, .slice none 0 0] rfl rfl _ cz8 (unhide AR) (unhide HI) rfl (unhide H1) ?_; rw [← unhide HW])
      refine bodyPost_ret (v := .tuple #[.agg #[.int .i64 0, .int .i64 0, .int .i64 0, .int .i64 0, .string ⟨#[]⟩, .string ⟨#[]⟩, .string ⟨#[]⟩, .slice none 0 0], .int .i64 4]) (by simp [results, Tryz.results15, go_sem, d0, d1, d2, d3, d4, d5, d6, d7]) rfl ?_
      exact unhide F1
  · as_aux_lemma =>
    have HG := hide (show rgetV l = (cz, e7) by
      unfold rgetV
      rw [unhide EQ, if_pos h8])
    clear EQ CA AD HO8
    have AR := hide (show A < R by have := unhide RO; omega)
    have p2 := q2
    have x1 : ¬ (e7 : Int) = 0 := by omega
    have x2 : ((e7 : Int) == 0) = false := by simp [h8]
    have x3 : ((e7 : Int) != 0) = true := by simp [h8]
    have ZZ := hide (fun W => unhide BAD e7 W (unhide HG))
    clear h8 BAD HG
    generalize hxi : (e7 : Int) = xi at *
    have G9 := G8
    generalize hV8 : V7.setCell ⟨C, 7, none⟩ (.slice sp ts.length cc) = V8 at G9 p2
    go_wp2_with fail
    try rw [hV8]
    have a0 : V8.drew.cell? ⟨R, 2, none⟩ = some (.int .i64 xi) := p2
    have AR0 := hide (show V8.drew.heap[A]? = some (.cells cz8 25 (0, 0)) from (unhide G9).ar)
    have p3 : (V8.drew.setRow A #[.int .i64 0, .int .i64 0, .int .i64 0, .int .i64 0, .string ⟨#[]⟩, .string ⟨#[]⟩, .string ⟨#[]⟩, .slice none 0 0]).cell? ⟨R, 2, none⟩ = some (.int .i64 xi) := (cell_setRow_other _ _ _ _ (by have := unhide AR; show R ≠ A; omega)).trans a0
    have hr := setRow_heap V8.drew A cz8 #[.int .i64 0, .int .i64 0, .int .i64 0, .int .i64 0, .string ⟨#[]⟩, .string ⟨#[]⟩, .string ⟨#[]⟩, .slice none 0 0] 25 (0, 0) (unhide AR0)
    have F1 := hide (unhide ZZ _ (below_grownK (((unhide G9).be).trans ((Below.refl _ _).drew)) (grown_setRowK V8.drew A #[.int .i64 0, .int .i64 0, .int .i64 0, .int .i64 0, .string ⟨#[]⟩, .string ⟨#[]⟩, .string ⟨#[]⟩, .slice none 0 0]) (by rw [hA]; exact Nat.le_refl _) (unhide G9).be.size))
    have d0 := box_cell hr 0 (.int .i64 0) rfl
    have d1 := box_cell hr 1 (.int .i64 0) rfl
    have d2 := box_cell hr 2 (.int .i64 0) rfl
    have d3 := box_cell hr 3 (.int .i64 0) rfl
    have d4 := box_cell hr 4 (.string ⟨#[]⟩) rfl
    have d5 := box_cell hr 5 (.string ⟨#[]⟩) rfl
    have d6 := box_cell hr 6 (.string ⟨#[]⟩) rfl
    have d7 := box_cell hr 7 (.slice none 0 0) rfl
    clear hr
    refine wp_region_held_drew (S := fun w' => w'.cell? ⟨R, 2, none⟩ = some (.int .i64 xi)) (by kernel_rfl) ?_ (fun hHeld => ?_)
    · try dsimp only
      first | exact p3 | exact a0
    refine hT 0 ?_
    refine hT 1 ?_
    refine hT 2 ?_
    refine hT 3 ?_
    refine hT 4 ?_
    refine wpAnyH_ready (rs := [5]) (by kernel_rfl) (by simp) ?_
    refine AllReadyH.cons rfl (fun K hK => ?_) ?_
    · refine wp_store_row 25 (.tmp 2) (.tmp 40) rfl A #[.int .i64 0, .int .i64 0, .int .i64 0, .int .i64 0, .string ⟨#[]⟩, .string ⟨#[]⟩, .string ⟨#[]⟩, .slice none 0 0] rfl rfl _ cz8 (unhide AR0) (unhide HI) rfl (unhide H1) ?_
      refine hK.out _ _ ?_ (fun hHeld => ?_)
      · try dsimp only
        first | exact p3 | exact a0
      clear hK K
      refine hP ?_
      refine hT 6 ?_
      refine wpAnyH_done (by kernel_rfl) ?_ _
      go_wp2
      refine bodyPost_ret (v := .tuple #[.agg #[.int .i64 0, .int .i64 0, .int .i64 0, .int .i64 0, .string ⟨#[]⟩, .string ⟨#[]⟩, .string ⟨#[]⟩, .slice none 0 0], .int .i64 xi]) (by simp [results, Tryz.results15, go_sem, d0, d1, d2, d3, d4, d5, d6, d7]) rfl ?_
      exact unhide F1
    exact AllReadyH.nil
end Go.Proofs.YtpkpnedcecjlbaaGreatDoor
