/- The tables of strconv, as a tied row lays them. -/
import Derived.Test.YtijcpmbfhfppmaaGreatDoorWn2
import Derived.Test.YtijcpmbfhfppmaaGreatDoorRows
import Derived.Lib.LaidTab
import Derived.Lib.LaidU8
import Derived.MakeChecks
namespace Go.Proofs.YtijcpmbfhfppmaaGreatDoor
open Go.ChangeShapes Go.WideShapes Go.ChangeAt Go.RowKit Go.Lib
set_option linter.unusedVariables false

theorem tabIs_of_reads {P : Program} {W : World} {name : String} {k : IntKind} {zs : List Int} {g : Nat} {t e : TypeId} {n : Nat}
    (hg : P.globalNamed name = some g) (hty : (P.globals[g]?).map (·.type) = some t) (ht : P.underlying t = some (.array n e)) (he : P.underlying e = some (.int k)) (hce : P.cellsOf e = 1) (hct : P.cellsOf t = n)
    (h : VarReads P W name (tabData k zs)) : TabIs P W name k zs := by
  obtain ⟨g', t', cs, fuel, p, hg', ht', hvar, hd⟩ := h
  obtain rfl := Option.some.inj (hg.symm.trans hg')
  obtain rfl := Option.some.inj (hty.symm.trans ht')
  unfold TabIs
  rw [hvar, ← cells_of_tab ht he hce hct hd]
theorem iface_cells {H : Type} {enc : TypeId × Value → H} {P : Program} {w : World} {base : Nat} {sp : Nat → Bool} {held : Bool} {fuel : Nat} {t : TypeId} {ms : _} {cs : List Value} {r : DataW H × List MemPlace}
    (ht : P.underlying t = some (.interface ms)) (h : DataW.trod enc P w base sp held fuel t cs = some r) : cs = [.nilIface] ∨ ∃ u v, cs = [.iface u v] := by
  cases fuel with
  | zero => simp [DataW.trod] at h
  | succ fuel =>
    simp only [DataW.trod, ht] at h
    split at h <;> first | (exact .inl rfl) | (exact .inr ⟨_, _, rfl⟩) | (simp_all) | (cases h)
theorem iface_of_reads {P : Program} {W : World} {name : String} {g : Nat} {t : TypeId} {ms : _} {d : DataW Unit}
    (hg : P.globalNamed name = some g) (hty : (P.globals[g]?).map (·.type) = some t) (ht : P.underlying t = some (.interface ms)) (h : VarReads P W name d) : ∃ ev, W.cell? ⟨g, 0, none⟩ = some ev ∧ (ev = .nilIface ∨ ∃ te pe, ev = .iface te pe) := by
  obtain ⟨g', t', cs, fuel, p, hg', ht', hvar, hd⟩ := h
  obtain rfl := Option.some.inj (hg.symm.trans hg')
  obtain rfl := Option.some.inj (hty.symm.trans ht')
  have h0 := World.var?_cell hg hvar 0
  rcases iface_cells ht hd with e | ⟨u, v, e⟩
  · rw [show cs = #[.nilIface] from Array.toList_inj.1 e] at h0
    exact ⟨_, by simpa using h0, .inl rfl⟩
  · rw [show cs = #[.iface u v] from Array.toList_inj.1 e] at h0
    exact ⟨_, by simpa using h0, .inr ⟨u, v, rfl⟩⟩
noncomputable def powG : Nat := (Tryz.prog.globalNamed "internal/strconv.uint64pow10").getD 0
noncomputable def powT : Nat := ((Tryz.prog.globals[powG]?).map (·.type)).getD 0
noncomputable def powE : Nat := match Tryz.prog.underlying powT with
  | some (.array _ e) => e
  | _ => 0
noncomputable def errT : Nat := ((Tryz.prog.globals[Tryz.laysC172_ren.g 15]?).map (·.type)).getD 0
theorem pow_len : Lib.pow10Tab.length = 20 := by kernel_rfl
theorem iface_shape (o : Option TypeDesc) (h : (match o with
    | some (.interface _) => true
    | _ => false) = true) : ∃ ms, o = some (.interface ms) := by
  split at h
  · exact ⟨_, rfl⟩
  · cases h
theorem err_iface : ∃ ms, Tryz.prog.underlying errT = some (.interface ms) := iface_shape _ (by kernel_rfl)
theorem pow_is : (Rows.laid_internal_strconv_uint64pow10 : DataW Unit) = tabData .u64 Lib.pow10Tab := by kernel_rfl
theorem tz_of {W : World} (hL : laidMet Tryz.prog [("math/bits.deBruijn32tab", Rows.laid_math_bits_deBruijn32tab), ("math/bits.deBruijn64tab", Rows.laid_math_bits_deBruijn64tab), ("internal/strconv.uint64pow10", Rows.laid_internal_strconv_uint64pow10), ("strconv.ErrRange", Rows.laid_strconv_ErrRange), ("strconv.ErrSyntax", Rows.laid_strconv_ErrSyntax)] W) : Tz W := by
  have h1 := Lib.laidMet.reads hL (.tail _ (.tail _ (.head _)))
  rw [pow_is] at h1
  have h2 := Lib.laidMet.reads hL (.tail _ (.tail _ (.tail _ (.head _))))
  have h3 := Lib.laidMet.reads hL (.tail _ (.tail _ (.tail _ (.tail _ (.head _)))))
  obtain ⟨ms, hm⟩ := err_iface
  exact ⟨tabIs_of_reads (g := powG) (t := powT) (e := powE) (n := 20) (by kernel_rfl) (by kernel_rfl) (by kernel_rfl) (by kernel_rfl) (by kernel_rfl) (by kernel_rfl) h1,
    iface_of_reads Tryz.laysC172.m15 (by kernel_rfl) hm h3, iface_of_reads (t := errT) Tryz.laysC172.m16 (by kernel_rfl) hm h2⟩
end Go.Proofs.YtijcpmbfhfppmaaGreatDoor
