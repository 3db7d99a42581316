/- Flight, the document's answer: SamePackets. -/
import Derived.Test.YticemhnfcelpmaaRf2
import Derived.Test.YticemhnfcelpmaaFl16
import Derived.Deep.RegionHeld3
namespace Go.Proofs.Yticemhnfcelpmaa
open Go.ChangeShapes Go.WideShapes Go.ChangeAt Go.RowKit

set_option maxRecDepth 20000 in
set_option maxHeartbeats 4000000 in
theorem samePackets_yes {base base' : Nat} {w : World} {sp sp' : Option Addr} {c c' : Nat} {xs ys : List (Pkt × Hdl)} (h : RowQ base w sp c xs) (h' : RowQ base' w sp' c' ys) (n : Nat) (hn : xs.length = n) (hlen : n ≤ 1000000) (hxy : xs.map (·.1) = ys.map (·.1)) :
    Calls Try.prog 39 #[.slice sp n c, .slice sp' n c'] w fun e w' => e = .returned (.bool true) ∧ Below w.heap.size w w' := by
  have hny : ys.length = n := by have := congrArg List.length hxy; simp only [List.length_map] at this; omega
  have HX := hide h
  have HY := hide h'
  have HN := hide hn
  have HM := hide hny
  have HE := hide hxy
  clear h h' hn hny hxy
  go_enter Try.func39, Try.ntmps39
  go_wp2_with fail
  go_loopw [5] (fun i wr => ∃ j : Nat, j ≤ n ∧ i = .int .i64 (j : Int) ∧ Hid (Below w.heap.size w wr)) (fun i _ => n - (intOf i).toNat)
  case atStart => exact ⟨0, by omega, rfl, Below.refl _ _⟩
  case round =>
    obtain ⟨j, hj, rfl, F⟩ := hrel
    by_cases hjn : j < n
    · have hjx : j < xs.length := by have := unhide HN; omega
      have hjy : j < ys.length := by have := unhide HM; omega
      obtain ⟨b, hsp, p0, p1, p2, p3⟩ := ((unhide HX).later (unhide F)).cell j hjx
      obtain ⟨b', hsp', q0, q1, q2, q3⟩ := ((unhide HY).later (unhide F)).cell j hjy
      have PB := hide (((unhide HX).later (unhide F)).dat xs[j] (List.getElem_mem hjx)).bytes
      have QB := hide (((unhide HY).later (unhide F)).dat ys[j] (List.getElem_mem hjy)).bytes
      have he : xs[j].1 = ys[j].1 := by
        have := congrArg (fun l => l[j]?) (unhide HE)
        simpa [List.getElem?_eq_getElem hjx, List.getElem?_eq_getElem hjy] using this
      generalize xs[j] = x at *
      generalize ys[j] = y at *
      obtain ⟨⟨k, t, i, d⟩, dp, dc⟩ := x
      obtain ⟨y1, dp', dc'⟩ := y
      simp only at he
      subst he hsp hsp'
      have hj0 : (0 : Int) ≤ (j : Int) := by omega
      have hj1 : (j : Int) < (n : Int) := by omega
      simp only at p0 p1 p2 p3 q0 q1 q2 q3 PB QB
      clear hjx hjy
      go_wp2_with fail
      go_region_held3 (fun w' => w'.cell? ⟨b, j * 4, none⟩ = some (.int .i64 k) ∧ w'.cell? ⟨b, j * 4 + 1, none⟩ = some (.int .i64 t) ∧ w'.cell? ⟨b, j * 4 + 2, none⟩ = some (.int .i64 i) ∧ w'.cell? ⟨b, j * 4 + 3, none⟩ = some (.slice dp d.length dc) ∧
          w'.cell? ⟨b', j * 4, none⟩ = some (.int .i64 k) ∧ w'.cell? ⟨b', j * 4 + 1, none⟩ = some (.int .i64 t) ∧ w'.cell? ⟨b', j * 4 + 2, none⟩ = some (.int .i64 i) ∧ w'.cell? ⟨b', j * 4 + 3, none⟩ = some (.slice dp' d.length dc'))
        (first
          | exact ⟨p0, p1, p2, p3, q0, q1, q2, q3⟩
          | exact ⟨cell_later hb1 p0, cell_later hb1 p1, cell_later hb1 p2, cell_later hb1 p3, cell_later hb1 q0, cell_later hb1 q1, cell_later hb1 q2, cell_later hb1 q3⟩)
        (first
          | (go_at_call 9; refine (samePacket_yes k t i dp dp' d.length d.length dc dc' d _ rfl rfl (by exact (unhide PB).drew) (by exact (unhide QB).drew)).mono ?_; rintro e W1 ⟨rfl, hb1⟩))
      have F1 := hide ((unhide F).drew.trans (hb1.mono (unhide F).size))
      clear hb1
      go_wp2
      exact ⟨⟨j + 1, by omega, by go_num, unhide F1⟩, by simp [intOf]; omega⟩
    · go_wp2
      go_ret
      exact ⟨rfl, unhide F⟩
end Go.Proofs.Yticemhnfcelpmaa
