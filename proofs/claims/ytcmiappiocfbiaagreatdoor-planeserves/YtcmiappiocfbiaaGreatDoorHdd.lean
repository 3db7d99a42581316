/- Heads: what Parse answers. -/
import Derived.Test.YtcmiappiocfbiaaGreatDoorHdc
import Derived.Shelf.Bytes.SlIndexWhole
import Derived.Lib.SlBytesConst
namespace Go.Proofs.YtcmiappiocfbiaaGreatDoor
open Go.ChangeShapes Go.WideShapes Go.ChangeAt Go.RowKit Go.Lib
set_option linter.unusedVariables false

/-- Bytes as letters. -/
def txN (l : List Nat) : Tx := l.map UInt8.ofNat
theorem txN_len (l : List Nat) : (txN l).length = l.length := List.length_map _
theorem strOf_tx (l : List Nat) : strOf l = stS (txN l) := rfl
theorem bytesOf_tx (l : List Nat) (hl : ∀ c ∈ l, c < 256) : Lib.bytesOf (l.map Int.ofNat) = txN l := by
  unfold Lib.bytesOf txN
  rw [List.map_map]
  refine List.map_congr_left fun c hc => ?_
  simp
/-- What Parse answers. -/
def ParseRes (t : Tx) (e : Ending) (W : World) : Prop := match parseL t with
  | .ok hd at_ => ∃ sp c, e = .returned (.tuple #[.agg #[.string (stS hd.method), .string (stS hd.path), .string (stS hd.query), .string (stS hd.host), .slice sp hd.fields.length c], .int .i64 (at_ : Int), .int .i64 0]) ∧ FdsAt W sp hd.fields ∧ hd.fields.length ≤ 32 ∧ ∀ f ∈ hd.fields, f.name.length ≤ 4096 ∧ f.value.length ≤ 4096
  | .bad n => e = .returned (.tuple #[.agg #[.string ⟨#[]⟩, .string ⟨#[]⟩, .string ⟨#[]⟩, .string ⟨#[]⟩, .slice none 0 0], .int .i64 0, .int .i64 (n : Int)])
theorem results_cell_tmp2 {fn : Func} {p u v : Tmp} {ty : TypeId} (h : fn.results = #[.cell p ty, .tmp u, .tmp v]) (tmps : Array Value) (P : Program) (w : World) :
    (results fn tmps).run P w = ((asAddr (tmps.getD p undef)).run P w).andThen fun a w1 => ((loadVar ty a).run P w1).andThen fun x w2 => .ok (.tuple #[x, tmps.getD u undef, tmps.getD v undef]) w2 := by
  simp only [results, h]
  simp [Sem.run_bind, Result.andThen]
def sepN : List Nat := [13, 10, 13, 10]
theorem index_calls {W : World} {a : Option Addr} {l : List Nat} {n c B : Nat} (hn : l.length = n) (hc : n ≤ c) (hs : n ≤ 2048) (hz : a = none → c = 0) (hb : BytesAt W a l) (h2 : BytesAt W (some ⟨B, 0, none⟩) sepN) (hL : Lz W) :
    Calls Tryz.prog 50 #[.slice a n c, .slice (some ⟨B, 0, none⟩) 4 4] W fun e w' => e = .returned (.int .i64 (Lib.index (txN l) (crlf ++ crlf))) ∧ Below W.heap.size W w' := by
  cases a with
  | none =>
    have hc0 := hz rfl
    subst hc0
    have hn0 : n = 0 := by omega
    subst hn0
    obtain rfl := List.eq_nil_of_length_eq_zero hn
    refine (Any.bytes_Index_nil Tryz.lays185 (some ⟨B, 0, none⟩) 4 4 W (by decide) (fun h => by cases h)).mono ?_
    rintro e w' ⟨rfl, rfl⟩
    exact ⟨rfl, Below.refl _ _⟩
  | some x =>
    obtain ⟨m, hm⟩ := hL.mx
    have hx : ∀ i, i < n → W.cell? (x.add i) = some (.int .u8 ((l.map Int.ofNat).getD i 0)) := fun i hi => by
      obtain ⟨b, off, e, hcl⟩ := hb.cell i (by omega)
      have e := Option.some.inj e
      subst e
      rw [show ((⟨b, off, none⟩ : Addr).add i) = ⟨b, off + i, none⟩ by simp [Addr.add], hcl]
      congr 2
      rw [List.getD_eq_getElem?_getD, List.getD_eq_getElem?_getD, List.getElem?_map, List.getElem?_eq_getElem (by omega)]
      rfl
    have hy : ∀ i, i < 4 → W.cell? ((⟨B, 0, none⟩ : Addr).add i) = some (.int .u8 (([13, 10, 13, 10] : List Int).getD i 0)) := fun i hi => by
      obtain ⟨b, off, e, hcl⟩ := h2.cell i (by simpa [sepN] using hi)
      simp only [Option.some.injEq, Addr.mk.injEq, and_true] at e
      obtain ⟨rfl, rfl⟩ := e
      rw [show ((⟨B, 0, none⟩ : Addr).add i) = ⟨B, 0 + i, none⟩ by simp [Addr.add]; intro h; exact h.symm, hcl]
      match i, hi with
      | 0, _ => rfl
      | 1, _ => rfl
      | 2, _ => rfl
      | 3, _ => rfl
    refine (Any.bytes_Index_at Tryz.lays185 x ⟨B, 0, none⟩ n c 4 4 (l.map Int.ofNat) [13, 10, 13, 10] m W (by rw [List.length_map]; exact hn) rfl (fun y hy => by obtain ⟨c, hc, rfl⟩ := List.mem_map.1 hy; have := hb.lt c hc; show 0 ≤ (c : Int) ∧ (c : Int) < 256; omega) (by decide) hx hy hc (by omega) (by decide) hm).mono ?_
    rintro e w' ⟨rfl, q, rfl⟩
    rw [bytesOf_tx l hb.lt]
    exact ⟨rfl, below_drewN (Below.refl _ _) _⟩
end Go.Proofs.YtcmiappiocfbiaaGreatDoor
