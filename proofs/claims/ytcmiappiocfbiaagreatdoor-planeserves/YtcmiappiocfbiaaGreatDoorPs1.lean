/- Plane: an answer on its way; its step parse. -/
import Derived.Test.YtcmiappiocfbiaaGreatDoorHde
import Derived.Test.YtcmiappiocfbiaaGreatDoorPag2
import Derived.Test.YtcmiappiocfbiaaGreatDoorPl2
namespace Go.Proofs.YtcmiappiocfbiaaGreatDoor
open Go.ChangeShapes Go.WideShapes Go.ChangeAt Go.RowKit
set_option linter.unusedVariables false

/-- One block that is written, and nothing else that lay there. -/
structure AB (A : Nat) (W0 : World) (cs : Array Value) (W : World) : Prop where
  row : W.heap[A]? = some (.cells cs 60 (0, 0))
  gr : W0.grownBy W (some A)
  lt : A < W0.heap.size
section
variable {A : Nat} {W0 W W' : World} {cs : Array Value}
theorem AB.new (h : W0.heap[A]? = some (.cells cs 60 (0, 0))) : AB A W0 cs W0 := ⟨h, ⟨rfl, rfl, rfl, Nat.le_refl _, fun _ _ _ => rfl⟩, (Array.getElem?_eq_some_iff.1 h).1⟩
theorem AB.later (h : AB A W0 cs W) (hb : Below W.heap.size W W') : AB A W0 cs W' :=
  ⟨(hb.block A (Array.getElem?_eq_some_iff.1 h.row).1).trans h.row, ⟨hb.os.trans h.gr.os, hb.tape.trans h.gr.tape, hb.output.trans h.gr.output, Nat.le_trans h.gr.size hb.size, fun k hk hne => (hb.block k (Nat.lt_of_lt_of_le hk h.gr.size)).trans (h.gr.block k hk hne)⟩, h.lt⟩
theorem AB.alloc (h : AB A W0 cs W) (o : Obj) : AB A W0 cs (W.alloc o) := h.later ((Below.refl _ _).alloc (Nat.le_refl _) o)
theorem AB.set (h : AB A W0 cs W) (i : Nat) (v : Value) : AB A W0 (cs.setIfInBounds i v) (W.setCell ⟨A, i, none⟩ v) :=
  ⟨heap_setCell_same W A i cs _ v h.row, ⟨h.gr.os, h.gr.tape, h.gr.output, by rw [show (W.setCell ⟨A, i, none⟩ v).heap.size = W.heap.size by simp [World.setCell]]; exact h.gr.size, fun k hk hne => (heap_setCell_other W ⟨A, i, none⟩ k v (fun e => hne (by rw [e]))).trans (h.gr.block k hk hne)⟩, h.lt⟩
theorem AB.cell (h : AB A W0 cs W) (i : Nat) (v : Value) (hv : cs[i]? = some v) : W.cell? ⟨A, i, none⟩ = some v := box_cell h.row i v hv
theorem AB.froz (h : AB A W0 cs W) (i : Nat) : W.frozen? ⟨A, i, none⟩ = false := by simp [World.frozen?, h.row]
theorem AB.trans {cs' : Array Value} (h : AB A W0 cs W) (k : AB A W cs' W') : AB A W0 cs' W' :=
  ⟨k.row, ⟨k.gr.os.trans h.gr.os, k.gr.tape.trans h.gr.tape, k.gr.output.trans h.gr.output, Nat.le_trans h.gr.size k.gr.size, fun j hj hne => (k.gr.block j (Nat.lt_of_lt_of_le hj h.gr.size) hne).trans (h.gr.block j hj hne)⟩, h.lt⟩
/-- What lay there ahead of the block lies there still. -/
theorem AB.below (h : AB A W0 cs W) {B : Nat} (hB : B ≤ A) : Below B W0 W := ⟨h.gr.os, h.gr.tape, h.gr.output, h.gr.size, fun k hk => h.gr.block k (by have := h.lt; omega) (fun e => by have := Option.some.inj e; omega)⟩
end
/-- An answer's cells: configuration, bytes, draw, head, reply. -/
def ansC (ver : Int) (ra : Option Addr) (rn rc : Nat) (pa : Option Addr) (pn pc : Nat) (ba : Option Addr) (bn bc d : Nat) (m p q x : ByteArray) (fa : Option Addr) (fn fc : Nat) (st vr : Int) (pool addr : ByteArray) : Array Value :=
  #[.int .i64 ver, .slice ra rn rc, .slice pa pn pc, .slice ba bn bc, .float .f64 d, .string m, .string p, .string q, .string x, .slice fa fn fc, .int .i64 st, .int .i64 vr, .string pool, .string addr]
/-- How the step parse ends. -/
def APEnd (A : Nat) (W : World) (l : List Nat) (ver : Int) (ra : Option Addr) (rn rc : Nat) (pa : Option Addr) (pn pc : Nat) (ba : Option Addr) (bn bc d : Nat) (e : Ending) (W' : World) : Prop := match parseL (txN l) with
  | .bad _ => e = .returned (.int .i64 400) ∧ AB A W (ansC ver ra rn rc pa pn pc ba bn bc d ⟨#[]⟩ ⟨#[]⟩ ⟨#[]⟩ ⟨#[]⟩ none 0 0 0 0 ⟨#[]⟩ ⟨#[]⟩) W'
  | .ok h _ => e = .returned (.int .i64 0) ∧ ∃ fa fc, AB A W (ansC ver ra rn rc pa pn pc ba bn bc d (stS h.method) (stS h.path) (stS h.query) (stS h.host) fa h.fields.length fc 0 0 ⟨#[]⟩ ⟨#[]⟩) W'
set_option maxRecDepth 20000 in
set_option maxHeartbeats 8000000 in
theorem aparse_calls (A : Nat) (W : World) (l : List Nat) (ver : Int) (ra : Option Addr) (rn rc : Nat) (pa : Option Addr) (pn pc : Nat) (ba : Option Addr) (bn bc d : Nat)
    (hA : W.heap[A]? = some (.cells (ansC ver ra rn rc pa pn pc ba bn bc d ⟨#[]⟩ ⟨#[]⟩ ⟨#[]⟩ ⟨#[]⟩ none 0 0 0 0 ⟨#[]⟩ ⟨#[]⟩) 60 (0, 0)))
    (hn : l.length = bn) (hc : bn ≤ bc) (hb : BytesAt W ba l) (hz : ba = none → bc = 0) (hL : Lz W) :
    Calls Tryz.prog 18 #[.pointer (some ⟨A, 0, none⟩)] W fun e W' => APEnd A W l ver ra rn rc pa pn pc ba bn bc d e W' := by
  have R0 := hide (AB.new hA)
  have k3 := box_cell hA 3 (.slice ba bn bc) rfl
  have PC := hide (parse_calls ba bn bc l W hn hc hb hz hL)
  cases hp : parseL (txN l) with
  | bad n =>
    have PC2 := hide (show Calls Tryz.prog 30 #[.slice ba bn bc] W fun e w' => e = .returned (.tuple #[.agg #[.string ⟨#[]⟩, .string ⟨#[]⟩, .string ⟨#[]⟩, .string ⟨#[]⟩, .slice none 0 0], .int .i64 0, .int .i64 (n : Int)]) ∧ Below W.heap.size W w' from (unhide PC).mono fun e w' he => by
      obtain ⟨h1, h2⟩ := he
      unfold ParseRes at h1
      rw [hp] at h1
      exact ⟨h1, h2⟩)
    have hn0 : n = 3 ∨ n = 6 ∨ n = 4 := by
      unfold parseL at hp
      split at hp
      · split at hp
        · cases hp; exact .inl rfl
        · cases hp; exact .inr (.inl rfl)
      · split at hp
        · cases hp; exact .inr (.inr rfl)
        · split at hp
          · cases hp; exact .inr (.inl rfl)
          · cases hp
    have FE := hide (show ∀ W', AB A W (ansC ver ra rn rc pa pn pc ba bn bc d ⟨#[]⟩ ⟨#[]⟩ ⟨#[]⟩ ⟨#[]⟩ none 0 0 0 0 ⟨#[]⟩ ⟨#[]⟩) W' → APEnd A W l ver ra rn rc pa pn pc ba bn bc d (.returned (.int .i64 400)) W' from fun W' h => by unfold APEnd; rw [hp]; exact ⟨rfl, h⟩)
    clear hp PC hb hz hL hA
    rcases hn0 with rfl | rfl | rfl
    all_goals
      go_enter Tryz.func18, Tryz.ntmps18
      go_wp2_with (first
        | (go_at_call 30; refine (unhide PC2).mono ?_; rintro e V1 ⟨rfl, v1⟩
           have R1 := hide (((unhide R0).later v1).alloc (.cells #[.string ⟨#[]⟩, .string ⟨#[]⟩, .string ⟨#[]⟩, .string ⟨#[]⟩, .slice none 0 0] 58))
           clear v1))
      go_ret
      exact unhide FE _ (unhide R1)
  | ok h k =>
    have PC2 := hide (show Calls Tryz.prog 30 #[.slice ba bn bc] W fun e w' => (∃ sp cc, e = .returned (.tuple #[.agg #[.string (stS h.method), .string (stS h.path), .string (stS h.query), .string (stS h.host), .slice sp h.fields.length cc], .int .i64 (k : Int), .int .i64 0])) ∧ Below W.heap.size W w' from (unhide PC).mono fun e w' he => by
      obtain ⟨h1, h2⟩ := he
      unfold ParseRes at h1
      rw [hp] at h1
      obtain ⟨sp, cc, e1, _⟩ := h1
      exact ⟨⟨sp, cc, e1⟩, h2⟩)
    have FE := hide (show ∀ W' fa fc, AB A W (ansC ver ra rn rc pa pn pc ba bn bc d (stS h.method) (stS h.path) (stS h.query) (stS h.host) fa h.fields.length fc 0 0 ⟨#[]⟩ ⟨#[]⟩) W' → APEnd A W l ver ra rn rc pa pn pc ba bn bc d (.returned (.int .i64 0)) W' from fun W' fa fc hh => by unfold APEnd; rw [hp]; exact ⟨rfl, fa, fc, hh⟩)
    clear hp PC hb hz hL hA
    generalize stS h.method = sm at *
    generalize stS h.path = sp at *
    generalize stS h.query = sq at *
    generalize stS h.host = sx at *
    generalize h.fields.length = nf at *
    go_enter Tryz.func18, Tryz.ntmps18
    go_wp2_with (first
      | (go_at_call 30; refine (unhide PC2).mono ?_; rintro e V1 ⟨⟨fa, fc, rfl⟩, v1⟩
         have X1 := heap_new V1 (.cells #[.string sm, .string sp, .string sq, .string sx, .slice fa nf fc] 58)
         have p0 := box_cell X1 0 _ rfl
         have p1 := box_cell X1 1 _ rfl
         have p2 := box_cell X1 2 _ rfl
         have p3 := box_cell X1 3 _ rfl
         have p4 := box_cell X1 4 _ rfl
         have R1 := hide (((unhide R0).later v1).alloc (.cells #[.string sm, .string sp, .string sq, .string sx, .slice fa nf fc] 58))
         have z5 := (unhide R1).cell 5 (.string ⟨#[]⟩) rfl
         have z6 := (unhide R1).cell 6 (.string ⟨#[]⟩) rfl
         have z7 := (unhide R1).cell 7 (.string ⟨#[]⟩) rfl
         have z8 := (unhide R1).cell 8 (.string ⟨#[]⟩) rfl
         have z9 := (unhide R1).cell 9 (.slice none 0 0) rfl
         have f5 := (unhide R1).froz 5
         have f6 := (unhide R1).froz 6
         have f7 := (unhide R1).froz 7
         have f8 := (unhide R1).froz 8
         have f9 := (unhide R1).froz 9
         have R2 := hide (show AB A W (ansC ver ra rn rc pa pn pc ba bn bc d sm sp sq sx fa nf fc 0 0 ⟨#[]⟩ ⟨#[]⟩) ((((((V1.alloc (.cells #[.string sm, .string sp, .string sq, .string sx, .slice fa nf fc] 58)).setCell ⟨A, 5, none⟩ (.string sm)).setCell ⟨A, 6, none⟩ (.string sp)).setCell ⟨A, 7, none⟩ (.string sq)).setCell ⟨A, 8, none⟩ (.string sx)).setCell ⟨A, 9, none⟩ (.slice fa nf fc)) from (((((unhide R1).set 5 (.string sm)).set 6 (.string sp)).set 7 (.string sq)).set 8 (.string sx)).set 9 (.slice fa nf fc))
         clear v1 X1))
    go_ret
    exact unhide FE _ _ _ (unhide R2)
end Go.Proofs.YtcmiappiocfbiaaGreatDoor
