/- The document's disk: Write, all of it. -/
import Derived.Test.YtghdiemihceaoaaRe9
namespace Go.Proofs.Ytghdiemihceaoaa
open Go.ChangeShapes Go.WideShapes Go.ChangeAt Go.RowKit Go.Maps
section
variable {base R room : Nat} {w w' : World} {sp : Option Addr} {c : Nat} {rs rs' : List Rf}
set_option maxRecDepth 20000 in
set_option maxHeartbeats 40000000 in
theorem rwrite_calls (h : RefAt base w R room sp c rs) (hbs : base ≤ w.heap.size) (s : ByteArray) (hs : s.size ≤ maxLen) (z : Int) (hz64 : z ≤ 9223372036854775807) (xp : Option Addr) (xn xc : Nat) (o : List Nat) (ho : o.length = xn) (hB : BytesAt w xp o) (hxl : xn ≤ 4000) (hcs : ∀ x ∈ rs, x.2.s.cs.length ≤ 300) :
    Calls Try.prog 35 #[.pointer (some ⟨R, 0, none⟩), .string s, .int .i64 z, .slice xp xn xc] w (REnd base R room w sp rs (dWrite room s.data.toList z o (rss rs))) := by
  cases hnl : nameL s.data.toList with
  | true =>
    by_cases hm : s.data.toList ∈ rs.map (·.1)
    · obtain ⟨x, hx, e⟩ := List.mem_map.1 hm
      obtain ⟨i, hi, e2⟩ := List.mem_iff_getElem.1 hx
      exact rwrite_old h hbs s hs hnl i hi (by rw [e2]; exact e) z hz64 xp xn xc o ho hB hxl hcs
    · exact rwrite_new h hbs s hs hnl hm z hz64 xp xn xc o ho hB hxl
  | false =>
    have NB := hide (fun (W : World) => named_calls s W hs)
    rw [hnl] at NB
    have E14 := hide (show ∀ W, Below w.heap.size w W → REnd base R room w sp rs (dWrite room s.data.toList z o (rss rs)) (.returned (.int .i64 14)) W from fun W hb => REnd.stay h hb (by simp [dWrite, hnl]) (by simp [dWrite, hnl]))
    clear h hbs hB hcs hnl
    go_enter Try.func35, Try.ntmps35
    go_wp2_with (go_at_call 30; refine (unhide NB _).mono ?_; rintro e w' ⟨rfl, rfl⟩)
    go_ret
    exact unhide E14 _ (Below.refl _ _)
end
end Go.Proofs.Ytghdiemihceaoaa
