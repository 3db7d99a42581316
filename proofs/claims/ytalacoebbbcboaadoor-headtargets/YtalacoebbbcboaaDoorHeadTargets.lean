/- A target in its own form or with http:// and a host ahead: tollgatelaw09.HeadTargets answers true, for all hosts, paths and queries. No condition. The tables of the library's are as the card ties them (lz_of). -/
import Derived.Test.YtalacoebbbcboaaDoorHdi
import Derived.Test.YtalacoebbbcboaaDoorHdk
import Derived.Test.YtalacoebbbcboaaDoorHdl
import Derived.Test.YtalacoebbbcboaaDoorHdm
import Derived.Test.YtalacoebbbcboaaDoorArg
import Derived.SizedLaws
import Derived.Laws.Concat
import Derived.Test.YtalacoebbbcboaaDoorTie
import Derived.Test.YtalacoebbbcboaaDoorCards
import Derived.Lay
import Derived.MakeChecks
import Derived.SevenTiedAt
import Derived.Stop.Joined
namespace Go.Proofs.YtalacoebbbcboaaDoor.headTargets
open Go.ChangeShapes Go.WideShapes Go.ChangeAt Go.RowKit
set_option linter.unusedVariables false

theorem own : ownKnob Tryd.prog.godebug = none := by kernel_rfl
theorem laidOut : laidOutB Tryd.prog = true := by kernel_rfl

theorem text1 (a b p q : ByteArray) : (((((((((⟨#[71, 69, 84, 32, 104, 116, 116, 112, 58, 47, 47]⟩ : ByteArray) ++ a) ++ p) ++ (⟨#[63]⟩ : ByteArray)) ++ q) ++ (⟨#[32, 72, 84, 84, 80, 47, 49, 46, 49, 13, 10, 104, 111, 115, 116, 58, 32]⟩ : ByteArray)) ++ b) ++ (⟨#[13, 10, 13, 10]⟩ : ByteArray))).data.toList = twoL (httpL ++ (a.data.toList ++ (p.data.toList ++ 63 :: q.data.toList))) b.data.toList := by simp [twoL, req, httpL, versionL, crlf, hostName]
theorem text2 (a b : ByteArray) : ((((((⟨#[71, 69, 84, 32, 104, 116, 116, 112, 58, 47, 47]⟩ : ByteArray) ++ a) ++ (⟨#[32, 72, 84, 84, 80, 47, 49, 46, 49, 13, 10, 104, 111, 115, 116, 58, 32]⟩ : ByteArray)) ++ b) ++ (⟨#[13, 10, 13, 10]⟩ : ByteArray))).data.toList = twoL (httpL ++ a.data.toList) b.data.toList := by simp [twoL, req, httpL, versionL, crlf, hostName]
theorem text3 (p b : ByteArray) : ((((((⟨#[71, 69, 84, 32]⟩ : ByteArray) ++ p) ++ (⟨#[32, 72, 84, 84, 80, 47, 49, 46, 49, 13, 10, 104, 111, 115, 116, 58, 32]⟩ : ByteArray)) ++ b) ++ (⟨#[13, 10, 13, 10]⟩ : ByteArray))).data.toList = twoL p.data.toList b.data.toList := by simp [twoL, req, versionL, crlf, hostName]
theorem len_is (s : ByteArray) : s.data.toList.length = s.size := by simp
theorem got1 {t p q h b y z : Tx} {e : Ending} {W : World} (h13 : (13 : UInt8) ∉ t) (h32 : (32 : UInt8) ∉ t) (hT : targetL t = some (p, q, h)) (hb : hostL b = some y) (hl : t.length + b.length ≤ 2000) (hz : (if h = [] then y else h) = z) (hr : ParseRes (twoL t b) e W) : ∃ sp cc m, e = .returned (.tuple #[.agg #[.string (stS [71, 69, 84]), .string (stS p), .string (stS q), .string (stS z), .slice sp 1 cc], .int .i64 m, .int .i64 0]) := by
  unfold ParseRes at hr
  rw [two_parse h13 h32 hT hb hl, hz] at hr
  obtain ⟨sp, cc, h3, _⟩ := hr
  exact ⟨sp, cc, _, h3⟩
set_option linter.unusedSimpArgs false
set_option maxRecDepth 20000 in
set_option maxHeartbeats 8000000 in
theorem walk (a b p q : ByteArray) (w : World) (ha0 : a.size ≤ maxLen) (ha : a.size ≤ 140737488355328) (hb0 : b.size ≤ maxLen) (hb : b.size ≤ 140737488355328) (hp : p.size ≤ 140737488355328) (hq : q.size ≤ 140737488355328) (hLz : Lz w) : Calls Tryd.prog 10 #[.string a, .string b, .agg #[.string p, .string q]] w fun e w' => e = .returned (.bool true) ∧ Below w.heap.size w w' := by
  have HZ := hide hLz
  clear hLz
  have LV := hide (show ∀ U, Below w.heap.size w U → Calls Tryd.prog 15 #[] U fun e w' => e = .returned (.bool true) ∧ Below U.heap.size U w' from fun U hb => live9_calls U ((unhide HZ).later hb))
  have PP := hide (fun W => pathR_calls p hp W)
  have QQ := hide (fun W => queryR_calls q hq W)
  have HA := hide (fun W => host_calls a ha0 W)
  have HB := hide (fun W => host_calls b hb0 W)
  clear ha0 hb0
  unfold hostV at HA HB
  have X0 := heap_new w (.cells #[.string p, .string q] 48)
  have c0 := box_cell X0 0 (.string p) rfl
  have c1 := box_cell X0 1 (.string q) rfl
  have B0 := hide (show Below w.heap.size w (w.alloc (.cells #[.string p, .string q] 48)) from (Below.refl _ _).alloc (Nat.le_refl _) _)
  clear X0
  have w1 : IntKind.i64.wrap ((a.size : Int) + (b.size : Int)) = (a.size : Int) + (b.size : Int) := by rw [IntKind.wrap_i64]; omega
  have w2 : IntKind.i64.wrap ((a.size : Int) + (b.size : Int) + (p.size : Int)) = (a.size : Int) + (b.size : Int) + (p.size : Int) := by rw [IntKind.wrap_i64]; omega
  have w3 : IntKind.i64.wrap ((a.size : Int) + (b.size : Int) + (p.size : Int) + (q.size : Int)) = (a.size : Int) + (b.size : Int) + (p.size : Int) + (q.size : Int) := by rw [IntKind.wrap_i64]; omega
  cases hA : hostL a.data.toList with
  | none =>
    rw [hA] at HA
    cases hB : hostL b.data.toList with
    | none =>
      rw [hB] at HB
      clear hA hB
      have HA2 := hide (show ∀ W, Calls Tryd.prog 19 #[.string a] W fun e w' => e = .returned (.tuple #[.string ⟨#[]⟩, .bool false]) ∧ Below W.heap.size W w' from unhide HA)
      have HB2 := hide (show ∀ W, Calls Tryd.prog 19 #[.string b] W fun e w' => e = .returned (.tuple #[.string ⟨#[]⟩, .bool false]) ∧ Below W.heap.size W w' from unhide HB)
      clear HA HB
      go_enter Tryd.func10, Tryd.ntmps10
      go_wp2_with fail
      refine (unhide HA2 _).mono ?_; rintro e W1 ⟨rfl, h1⟩; have B1 := chain B0 h1; have k0 := cell_later h1 c0; have k1 := cell_later h1 c1; clear h1 c0 c1
      go_wp2_with fail
      refine (unhide HB2 _).mono ?_; rintro e W2 ⟨rfl, h2⟩; have B2 := chain B1 h2; have j0 := cell_later h2 k0; have j1 := cell_later h2 k1; clear h2 k0 k1
      go_wp2_with fail
      go_quiet (fail)
      have B3 := hide (show Below w.heap.size w (W2.drewN nq) from (unhide B2).trans ⟨rfl, rfl, rfl, Nat.le_refl _, fun _ _ => rfl⟩)
      generalize W2.drewN nq = W3 at *
      go_wp2_with (first
        | (go_at_call 23; refine (unhide PP _).mono ?_; rintro e W3' ⟨rfl, hw3⟩; rw [hw3]; clear hw3; first | rw [hP] | skip)
        | (go_at_call 24; refine (unhide QQ _).mono ?_; rintro e W4 ⟨rfl, hw4⟩; rw [hw4]; clear hw4; first | rw [hQ] | skip)
        | (go_at_call 15; refine (unhide LV _ (unhide B3)).mono ?_; rintro e W5 ⟨rfl, h5⟩; have B5 := chain B3 h5))
      go_ret
      exact ⟨rfl, unhide B5⟩
    | some y =>
      rw [hB] at HB
      clear hA hB
      have HA2 := hide (show ∀ W, Calls Tryd.prog 19 #[.string a] W fun e w' => e = .returned (.tuple #[.string ⟨#[]⟩, .bool false]) ∧ Below W.heap.size W w' from unhide HA)
      have HB2 := hide (show ∀ W, Calls Tryd.prog 19 #[.string b] W fun e w' => e = .returned (.tuple #[.string (stS y), .bool true]) ∧ Below W.heap.size W w' from unhide HB)
      clear HA HB
      go_enter Tryd.func10, Tryd.ntmps10
      go_wp2_with fail
      refine (unhide HA2 _).mono ?_; rintro e W1 ⟨rfl, h1⟩; have B1 := chain B0 h1; have k0 := cell_later h1 c0; have k1 := cell_later h1 c1; clear h1 c0 c1
      go_wp2_with fail
      refine (unhide HB2 _).mono ?_; rintro e W2 ⟨rfl, h2⟩; have B2 := chain B1 h2; have j0 := cell_later h2 k0; have j1 := cell_later h2 k1; clear h2 k0 k1
      go_wp2_with fail
      go_quiet (fail)
      have B3 := hide (show Below w.heap.size w (W2.drewN nq) from (unhide B2).trans ⟨rfl, rfl, rfl, Nat.le_refl _, fun _ _ => rfl⟩)
      generalize W2.drewN nq = W3 at *
      go_wp2_with (first
        | (go_at_call 23; refine (unhide PP _).mono ?_; rintro e W3' ⟨rfl, hw3⟩; rw [hw3]; clear hw3; first | rw [hP] | skip)
        | (go_at_call 24; refine (unhide QQ _).mono ?_; rintro e W4 ⟨rfl, hw4⟩; rw [hw4]; clear hw4; first | rw [hQ] | skip)
        | (go_at_call 15; refine (unhide LV _ (unhide B3)).mono ?_; rintro e W5 ⟨rfl, h5⟩; have B5 := chain B3 h5))
      go_ret
      exact ⟨rfl, unhide B5⟩
  | some x =>
    rw [hA] at HA
    cases hB : hostL b.data.toList with
    | none =>
      rw [hB] at HB
      clear hA hB
      have HA2 := hide (show ∀ W, Calls Tryd.prog 19 #[.string a] W fun e w' => e = .returned (.tuple #[.string (stS x), .bool true]) ∧ Below W.heap.size W w' from unhide HA)
      have HB2 := hide (show ∀ W, Calls Tryd.prog 19 #[.string b] W fun e w' => e = .returned (.tuple #[.string ⟨#[]⟩, .bool false]) ∧ Below W.heap.size W w' from unhide HB)
      clear HA HB
      go_enter Tryd.func10, Tryd.ntmps10
      go_wp2_with fail
      refine (unhide HA2 _).mono ?_; rintro e W1 ⟨rfl, h1⟩; have B1 := chain B0 h1; have k0 := cell_later h1 c0; have k1 := cell_later h1 c1; clear h1 c0 c1
      go_wp2_with fail
      refine (unhide HB2 _).mono ?_; rintro e W2 ⟨rfl, h2⟩; have B2 := chain B1 h2; have j0 := cell_later h2 k0; have j1 := cell_later h2 k1; clear h2 k0 k1
      go_wp2_with fail
      go_quiet (fail)
      have B3 := hide (show Below w.heap.size w (W2.drewN nq) from (unhide B2).trans ⟨rfl, rfl, rfl, Nat.le_refl _, fun _ _ => rfl⟩)
      generalize W2.drewN nq = W3 at *
      go_wp2_with (first
        | (go_at_call 23; refine (unhide PP _).mono ?_; rintro e W3' ⟨rfl, hw3⟩; rw [hw3]; clear hw3; first | rw [hP] | skip)
        | (go_at_call 24; refine (unhide QQ _).mono ?_; rintro e W4 ⟨rfl, hw4⟩; rw [hw4]; clear hw4; first | rw [hQ] | skip)
        | (go_at_call 15; refine (unhide LV _ (unhide B3)).mono ?_; rintro e W5 ⟨rfl, h5⟩; have B5 := chain B3 h5))
      go_ret
      exact ⟨rfl, unhide B5⟩
    | some y =>
      rw [hB] at HB
      have KA := hide hA
      have KB := hide hB
      clear hA hB
      have HA2 := hide (show ∀ W, Calls Tryd.prog 19 #[.string a] W fun e w' => e = .returned (.tuple #[.string (stS x), .bool true]) ∧ Below W.heap.size W w' from unhide HA)
      have HB2 := hide (show ∀ W, Calls Tryd.prog 19 #[.string b] W fun e w' => e = .returned (.tuple #[.string (stS y), .bool true]) ∧ Below W.heap.size W w' from unhide HB)
      clear HA HB
      cases hP : isPathL p.data.toList with
      | false =>
        go_enter Tryd.func10, Tryd.ntmps10
        go_wp2_with fail
        refine (unhide HA2 _).mono ?_; rintro e W1 ⟨rfl, h1⟩; have B1 := chain B0 h1; have k0 := cell_later h1 c0; have k1 := cell_later h1 c1; clear h1 c0 c1
        go_wp2_with fail
        refine (unhide HB2 _).mono ?_; rintro e W2 ⟨rfl, h2⟩; have B2 := chain B1 h2; have j0 := cell_later h2 k0; have j1 := cell_later h2 k1; clear h2 k0 k1
        go_wp2_with fail
        go_quiet (fail)
        have B3 := hide (show Below w.heap.size w (W2.drewN nq) from (unhide B2).trans ⟨rfl, rfl, rfl, Nat.le_refl _, fun _ _ => rfl⟩)
        generalize W2.drewN nq = W3 at *
        go_wp2_with (first
          | (go_at_call 23; refine (unhide PP _).mono ?_; rintro e W3' ⟨rfl, hw3⟩; rw [hw3]; clear hw3; first | rw [hP] | skip)
          | (go_at_call 24; refine (unhide QQ _).mono ?_; rintro e W4 ⟨rfl, hw4⟩; rw [hw4]; clear hw4; first | rw [hQ] | skip)
          | (go_at_call 15; refine (unhide LV _ (unhide B3)).mono ?_; rintro e W5 ⟨rfl, h5⟩; have B5 := chain B3 h5))
        go_ret
        exact ⟨rfl, unhide B5⟩
      | true =>
        cases hQ : isQueryL q.data.toList with
        | false =>
          go_enter Tryd.func10, Tryd.ntmps10
          go_wp2_with fail
          refine (unhide HA2 _).mono ?_; rintro e W1 ⟨rfl, h1⟩; have B1 := chain B0 h1; have k0 := cell_later h1 c0; have k1 := cell_later h1 c1; clear h1 c0 c1
          go_wp2_with fail
          refine (unhide HB2 _).mono ?_; rintro e W2 ⟨rfl, h2⟩; have B2 := chain B1 h2; have j0 := cell_later h2 k0; have j1 := cell_later h2 k1; clear h2 k0 k1
          go_wp2_with fail
          go_quiet (fail)
          have B3 := hide (show Below w.heap.size w (W2.drewN nq) from (unhide B2).trans ⟨rfl, rfl, rfl, Nat.le_refl _, fun _ _ => rfl⟩)
          generalize W2.drewN nq = W3 at *
          go_wp2_with (first
            | (go_at_call 23; refine (unhide PP _).mono ?_; rintro e W3' ⟨rfl, hw3⟩; rw [hw3]; clear hw3; first | rw [hP] | skip)
            | (go_at_call 24; refine (unhide QQ _).mono ?_; rintro e W4 ⟨rfl, hw4⟩; rw [hw4]; clear hw4; first | rw [hQ] | skip)
            | (go_at_call 15; refine (unhide LV _ (unhide B3)).mono ?_; rintro e W5 ⟨rfl, h5⟩; have B5 := chain B3 h5))
          go_ret
          exact ⟨rfl, unhide B5⟩
        | true =>
          by_cases hsum : 1900 < a.size + b.size + p.size + q.size
          · have hgt : (1900 : Int) < (a.size : Int) + (b.size : Int) + (p.size : Int) + (q.size : Int) := by omega
            clear hsum
            go_enter Tryd.func10, Tryd.ntmps10
            go_wp2_with fail
            refine (unhide HA2 _).mono ?_; rintro e W1 ⟨rfl, h1⟩; have B1 := chain B0 h1; have k0 := cell_later h1 c0; have k1 := cell_later h1 c1; clear h1 c0 c1
            go_wp2_with fail
            refine (unhide HB2 _).mono ?_; rintro e W2 ⟨rfl, h2⟩; have B2 := chain B1 h2; have j0 := cell_later h2 k0; have j1 := cell_later h2 k1; clear h2 k0 k1
            go_wp2_with fail
            go_quiet (fail)
            have B3 := hide (show Below w.heap.size w (W2.drewN nq) from (unhide B2).trans ⟨rfl, rfl, rfl, Nat.le_refl _, fun _ _ => rfl⟩)
            generalize W2.drewN nq = W3 at *
            go_wp2_with (first
              | (go_at_call 23; refine (unhide PP _).mono ?_; rintro e W3' ⟨rfl, hw3⟩; rw [hw3]; clear hw3; first | rw [hP] | skip)
              | (go_at_call 24; refine (unhide QQ _).mono ?_; rintro e W4 ⟨rfl, hw4⟩; rw [hw4]; clear hw4; first | rw [hQ] | skip)
              | (go_at_call 15; refine (unhide LV _ (unhide B3)).mono ?_; rintro e W5 ⟨rfl, h5⟩; have B5 := chain B3 h5))
            go_ret
            exact ⟨rfl, unhide B5⟩
          · have hgt : ¬ (1900 : Int) < (a.size : Int) + (b.size : Int) + (p.size : Int) + (q.size : Int) := by omega
            have x0 : ((⟨#[71, 69, 84, 32, 104, 116, 116, 112, 58, 47, 47]⟩ : ByteArray) ++ a).size = 11 + a.size := by rw [ByteArray.size_append] <;> rfl
            have x1 : (((⟨#[71, 69, 84, 32, 104, 116, 116, 112, 58, 47, 47]⟩ : ByteArray) ++ a) ++ p).size = 11 + a.size + p.size := by rw [ByteArray.size_append, x0] <;> rfl
            have x2 : ((((⟨#[71, 69, 84, 32, 104, 116, 116, 112, 58, 47, 47]⟩ : ByteArray) ++ a) ++ p) ++ (⟨#[63]⟩ : ByteArray)).size = 11 + a.size + p.size + 1 := by rw [ByteArray.size_append, x1] <;> rfl
            have x3 : (((((⟨#[71, 69, 84, 32, 104, 116, 116, 112, 58, 47, 47]⟩ : ByteArray) ++ a) ++ p) ++ (⟨#[63]⟩ : ByteArray)) ++ q).size = 11 + a.size + p.size + 1 + q.size := by rw [ByteArray.size_append, x2] <;> rfl
            have x4 : ((((((⟨#[71, 69, 84, 32, 104, 116, 116, 112, 58, 47, 47]⟩ : ByteArray) ++ a) ++ p) ++ (⟨#[63]⟩ : ByteArray)) ++ q) ++ (⟨#[32, 72, 84, 84, 80, 47, 49, 46, 49, 13, 10, 104, 111, 115, 116, 58, 32]⟩ : ByteArray)).size = 11 + a.size + p.size + 1 + q.size + 17 := by rw [ByteArray.size_append, x3] <;> rfl
            have x5 : (((((((⟨#[71, 69, 84, 32, 104, 116, 116, 112, 58, 47, 47]⟩ : ByteArray) ++ a) ++ p) ++ (⟨#[63]⟩ : ByteArray)) ++ q) ++ (⟨#[32, 72, 84, 84, 80, 47, 49, 46, 49, 13, 10, 104, 111, 115, 116, 58, 32]⟩ : ByteArray)) ++ b).size = 11 + a.size + p.size + 1 + q.size + 17 + b.size := by rw [ByteArray.size_append, x4] <;> rfl
            have x6 : ((((((((⟨#[71, 69, 84, 32, 104, 116, 116, 112, 58, 47, 47]⟩ : ByteArray) ++ a) ++ p) ++ (⟨#[63]⟩ : ByteArray)) ++ q) ++ (⟨#[32, 72, 84, 84, 80, 47, 49, 46, 49, 13, 10, 104, 111, 115, 116, 58, 32]⟩ : ByteArray)) ++ b) ++ (⟨#[13, 10, 13, 10]⟩ : ByteArray)).size = 11 + a.size + p.size + 1 + q.size + 17 + b.size + 4 := by rw [ByteArray.size_append, x5] <;> rfl
            have y1 : (((⟨#[71, 69, 84, 32, 104, 116, 116, 112, 58, 47, 47]⟩ : ByteArray) ++ a) ++ (⟨#[32, 72, 84, 84, 80, 47, 49, 46, 49, 13, 10, 104, 111, 115, 116, 58, 32]⟩ : ByteArray)).size = 11 + a.size + 17 := by rw [ByteArray.size_append, x0] <;> rfl
            have y2 : ((((⟨#[71, 69, 84, 32, 104, 116, 116, 112, 58, 47, 47]⟩ : ByteArray) ++ a) ++ (⟨#[32, 72, 84, 84, 80, 47, 49, 46, 49, 13, 10, 104, 111, 115, 116, 58, 32]⟩ : ByteArray)) ++ b).size = 11 + a.size + 17 + b.size := by rw [ByteArray.size_append, y1] <;> rfl
            have y3 : (((((⟨#[71, 69, 84, 32, 104, 116, 116, 112, 58, 47, 47]⟩ : ByteArray) ++ a) ++ (⟨#[32, 72, 84, 84, 80, 47, 49, 46, 49, 13, 10, 104, 111, 115, 116, 58, 32]⟩ : ByteArray)) ++ b) ++ (⟨#[13, 10, 13, 10]⟩ : ByteArray)).size = 11 + a.size + 17 + b.size + 4 := by rw [ByteArray.size_append, y2] <;> rfl
            have z0 : ((⟨#[71, 69, 84, 32]⟩ : ByteArray) ++ p).size = 4 + p.size := by rw [ByteArray.size_append] <;> rfl
            have z1 : (((⟨#[71, 69, 84, 32]⟩ : ByteArray) ++ p) ++ (⟨#[32, 72, 84, 84, 80, 47, 49, 46, 49, 13, 10, 104, 111, 115, 116, 58, 32]⟩ : ByteArray)).size = 4 + p.size + 17 := by rw [ByteArray.size_append, z0] <;> rfl
            have z2 : ((((⟨#[71, 69, 84, 32]⟩ : ByteArray) ++ p) ++ (⟨#[32, 72, 84, 84, 80, 47, 49, 46, 49, 13, 10, 104, 111, 115, 116, 58, 32]⟩ : ByteArray)) ++ b).size = 4 + p.size + 17 + b.size := by rw [ByteArray.size_append, z1] <;> rfl
            have z3 : (((((⟨#[71, 69, 84, 32]⟩ : ByteArray) ++ p) ++ (⟨#[32, 72, 84, 84, 80, 47, 49, 46, 49, 13, 10, 104, 111, 115, 116, 58, 32]⟩ : ByteArray)) ++ b) ++ (⟨#[13, 10, 13, 10]⟩ : ByteArray)).size = 4 + p.size + 17 + b.size + 4 := by rw [ByteArray.size_append, z2] <;> rfl
            have hpa := (Bool.and_eq_true_iff.1 hP).2
            have R1 := hide (fun (e : Ending) (W : World) (hr : ParseRes (((((((((⟨#[71, 69, 84, 32, 104, 116, 116, 112, 58, 47, 47]⟩ : ByteArray) ++ a) ++ p) ++ (⟨#[63]⟩ : ByteArray)) ++ q) ++ (⟨#[32, 72, 84, 84, 80, 47, 49, 46, 49, 13, 10, 104, 111, 115, 116, 58, 32]⟩ : ByteArray)) ++ b) ++ (⟨#[13, 10, 13, 10]⟩ : ByteArray))).data.toList e W) => got1 (z := x) (t := httpL ++ (a.data.toList ++ (p.data.toList ++ 63 :: q.data.toList))) (fun e => by simp only [List.mem_append, List.mem_cons, host_not (unhide KA) (c := 13) (by decide), esc_not hpa (c := 13) (by decide) (by decide), esc_not hQ (c := 13) (by decide) (by decide), or_false, false_or] at e; revert e; decide) (fun e => by simp only [List.mem_append, List.mem_cons, host_not (unhide KA) (c := 32) (by decide), esc_not hpa (c := 32) (by decide) (by decide), esc_not hQ (c := 32) (by decide) (by decide), or_false, false_or] at e; revert e; decide) (tgt1 (unhide KA) hP hQ) (unhide KB) (by simp only [List.length_append, List.length_cons, len_is]; simp [httpL]; omega) (if_neg (host_ne (unhide KA)).1) (by rw [text1] at hr; exact hr))
            have R2 := hide (fun (e : Ending) (W : World) (hr : ParseRes ((((((⟨#[71, 69, 84, 32, 104, 116, 116, 112, 58, 47, 47]⟩ : ByteArray) ++ a) ++ (⟨#[32, 72, 84, 84, 80, 47, 49, 46, 49, 13, 10, 104, 111, 115, 116, 58, 32]⟩ : ByteArray)) ++ b) ++ (⟨#[13, 10, 13, 10]⟩ : ByteArray))).data.toList e W) => got1 (z := x) (t := httpL ++ a.data.toList) (fun e => by simp only [List.mem_append, host_not (unhide KA) (c := 13) (by decide), or_false] at e; revert e; decide) (fun e => by simp only [List.mem_append, host_not (unhide KA) (c := 32) (by decide), or_false] at e; revert e; decide) (tgt2 (unhide KA)) (unhide KB) (by simp only [List.length_append, List.length_cons, len_is]; simp [httpL]; omega) (if_neg (host_ne (unhide KA)).1) (by rw [text2] at hr; exact hr))
            have R3 := hide (fun (e : Ending) (W : World) (hr : ParseRes ((((((⟨#[71, 69, 84, 32]⟩ : ByteArray) ++ p) ++ (⟨#[32, 72, 84, 84, 80, 47, 49, 46, 49, 13, 10, 104, 111, 115, 116, 58, 32]⟩ : ByteArray)) ++ b) ++ (⟨#[13, 10, 13, 10]⟩ : ByteArray))).data.toList e W) => got1 (z := y) (t := p.data.toList) (esc_not hpa (by decide) (by decide)) (esc_not hpa (by decide) (by decide)) (tgt3 hP) (unhide KB) (by simp only [len_is]; omega) (if_pos rfl) (by rw [text3] at hr; exact hr))
            simp only [stS_self] at R1 R2 R3
            rw [show stS [47] = (⟨#[47]⟩ : ByteArray) from rfl, show stS [] = (⟨#[]⟩ : ByteArray) from rfl] at R2
            rw [show stS [] = (⟨#[]⟩ : ByteArray) from rfl] at R3
            clear KA KB hpa hsum
            go_enter Tryd.func10, Tryd.ntmps10
            go_wp2_with fail
            refine (unhide HA2 _).mono ?_; rintro e W1 ⟨rfl, h1⟩; have B1 := chain B0 h1; have k0 := cell_later h1 c0; have k1 := cell_later h1 c1; clear h1 c0 c1
            go_wp2_with fail
            refine (unhide HB2 _).mono ?_; rintro e W2 ⟨rfl, h2⟩; have B2 := chain B1 h2; have j0 := cell_later h2 k0; have j1 := cell_later h2 k1; clear h2 k0 k1
            go_wp2_with fail
            go_quiet (fail)
            have B3 := hide (show Below w.heap.size w (W2.drewN nq) from (unhide B2).trans ⟨rfl, rfl, rfl, Nat.le_refl _, fun _ _ => rfl⟩)
            generalize W2.drewN nq = W3 at *
            obtain ⟨c1, V1, hcv1, hc1, hy1, hB1⟩ := conv_bytes W3 ((((((((⟨#[71, 69, 84, 32, 104, 116, 116, 112, 58, 47, 47]⟩ : ByteArray) ++ a) ++ p) ++ (⟨#[63]⟩ : ByteArray)) ++ q) ++ (⟨#[32, 72, 84, 84, 80, 47, 49, 46, 49, 13, 10, 104, 111, 115, 116, 58, 32]⟩ : ByteArray)) ++ b) ++ (⟨#[13, 10, 13, 10]⟩ : ByteArray)); have PC1 := hide ((parseB_calls w V1 _ _ c1 hc1 hy1 ((unhide HZ).later ((unhide B3).trans (hB1.mono (unhide B3).size)))).mono fun e w' h => And.intro (unhide R1 e w' h.1) h.2); have D1 := chain B3 hB1; rw [x6] at PC1; clear hy1; clear hB1
            go_wp2_with (first
              | (go_at_call 23; refine (unhide PP _).mono ?_; rintro e W3' ⟨rfl, hw3⟩; rw [hw3]; clear hw3; first | rw [hP] | skip)
              | (go_at_call 24; refine (unhide QQ _).mono ?_; rintro e W4 ⟨rfl, hw4⟩; rw [hw4]; clear hw4; first | rw [hQ] | skip))
            refine (unhide PC1).mono ?_; rintro e U1 ⟨⟨s1, d1, m1, rfl⟩, g1⟩; have F1 := chain D1 g1; have F2 := hide ((unhide F1).alloc (unhide F1).size (.cells #[.string (stS [71, 69, 84]), .string p, .string q, .string (stS x), .slice s1 1 d1] 25)); have N1 := hide (heap_new U1 (.cells #[.string (stS [71, 69, 84]), .string p, .string q, .string (stS x), .slice s1 1 d1] 25)); clear g1
            go_wp2_with fail
            generalize U1.alloc (.cells #[.string (stS [71, 69, 84]), .string p, .string q, .string (stS x), .slice s1 1 d1] 25) = A1 at *
            obtain ⟨c2, V2, hcv2, hc2, hy2, hB2⟩ := conv_bytes A1 (((((⟨#[71, 69, 84, 32, 104, 116, 116, 112, 58, 47, 47]⟩ : ByteArray) ++ a) ++ (⟨#[32, 72, 84, 84, 80, 47, 49, 46, 49, 13, 10, 104, 111, 115, 116, 58, 32]⟩ : ByteArray)) ++ b) ++ (⟨#[13, 10, 13, 10]⟩ : ByteArray)); have PC2 := hide ((parseB_calls w V2 _ _ c2 hc2 hy2 ((unhide HZ).later ((unhide F2).trans (hB2.mono (unhide F2).size)))).mono fun e w' h => And.intro (unhide R2 e w' h.1) h.2); have D2 := chain F2 hB2; rw [y3] at PC2; clear hy2; have L1 := hide hB2; clear hB2
            rw [hcv2]; simp only [Result.andThen]; rw [Oper.upon_value]
            go_wp2_with fail
            refine (unhide PC2).mono ?_; rintro e U2 ⟨⟨s2, d2, m2, rfl⟩, g2⟩; have F3 := chain D2 g2; have F4 := hide ((unhide F3).alloc (unhide F3).size (.cells #[.string (stS [71, 69, 84]), .string ⟨#[47]⟩, .string ⟨#[]⟩, .string (stS x), .slice s2 1 d2] 25)); have N2 := hide (heap_new U2 (.cells #[.string (stS [71, 69, 84]), .string ⟨#[47]⟩, .string ⟨#[]⟩, .string (stS x), .slice s2 1 d2] 25)); have L2 := chain L1 g2; have L3 := hide ((unhide L2).alloc (unhide L2).size (.cells #[.string (stS [71, 69, 84]), .string ⟨#[47]⟩, .string ⟨#[]⟩, .string (stS x), .slice s2 1 d2] 25)); clear g2
            go_wp2_with fail
            generalize U2.alloc (.cells #[.string (stS [71, 69, 84]), .string ⟨#[47]⟩, .string ⟨#[]⟩, .string (stS x), .slice s2 1 d2] 25) = A2 at *
            obtain ⟨c3, V3, hcv3, hc3, hy3, hB3⟩ := conv_bytes A2 (((((⟨#[71, 69, 84, 32]⟩ : ByteArray) ++ p) ++ (⟨#[32, 72, 84, 84, 80, 47, 49, 46, 49, 13, 10, 104, 111, 115, 116, 58, 32]⟩ : ByteArray)) ++ b) ++ (⟨#[13, 10, 13, 10]⟩ : ByteArray)); have PC3 := hide ((parseB_calls w V3 _ _ c3 hc3 hy3 ((unhide HZ).later ((unhide F4).trans (hB3.mono (unhide F4).size)))).mono fun e w' h => And.intro (unhide R3 e w' h.1) h.2); have D3 := chain F4 hB3; rw [z3] at PC3; clear hy3; have L4 := chain L3 hB3; have M1 := hide hB3; clear hB3
            rw [hcv3]; simp only [Result.andThen]; rw [Oper.upon_value]
            go_wp2_with fail
            refine (unhide PC3).mono ?_; rintro e U3 ⟨⟨s3, d3, m3, rfl⟩, g3⟩; have F5 := chain D3 g3; have F6 := hide ((unhide F5).alloc (unhide F5).size (.cells #[.string (stS [71, 69, 84]), .string p, .string ⟨#[]⟩, .string (stS y), .slice s3 1 d3] 25)); have N3 := hide (heap_new U3 (.cells #[.string (stS [71, 69, 84]), .string p, .string ⟨#[]⟩, .string (stS y), .slice s3 1 d3] 25)); have L5 := chain L4 g3; have L6 := hide ((unhide L5).alloc (unhide L5).size (.cells #[.string (stS [71, 69, 84]), .string p, .string ⟨#[]⟩, .string (stS y), .slice s3 1 d3] 25)); have M2 := chain M1 g3; have M3 := hide ((unhide M2).alloc (unhide M2).size (.cells #[.string (stS [71, 69, 84]), .string p, .string ⟨#[]⟩, .string (stS y), .slice s3 1 d3] 25)); clear g3
            go_wp2_with fail
            refine (unhide LV _ (unhide F6)).mono ?_; rintro e W9 ⟨rfl, h9⟩; have B9 := chain F6 h9; have L7 := unhide (chain L6 h9); have M4 := unhide (chain M3 h9); have f01 := box_cell (later_block L7 (unhide N1)) 1 (.string p) rfl; have f02 := box_cell (later_block L7 (unhide N1)) 2 (.string q) rfl; have f03 := box_cell (later_block L7 (unhide N1)) 3 (.string (stS x)) rfl; have f11 := box_cell (later_block M4 (unhide N2)) 1 (.string ⟨#[47]⟩) rfl; have f12 := box_cell (later_block M4 (unhide N2)) 2 (.string ⟨#[]⟩) rfl; have f13 := box_cell (later_block M4 (unhide N2)) 3 (.string (stS x)) rfl; have f21 := box_cell (later_block h9 (unhide N3)) 1 (.string p) rfl; have f22 := box_cell (later_block h9 (unhide N3)) 2 (.string ⟨#[]⟩) rfl; have f23 := box_cell (later_block h9 (unhide N3)) 3 (.string (stS y)) rfl; clear L7 M4 h9
            go_wp2_with fail
            go_ret
            exact ⟨rfl, unhide B9⟩

set_option maxRecDepth 100000 in
theorem lifted (os : Os) (started : os.Started) (H : Type) (enc : TypeId × Value → H) :
    ReturnsInHanded {} Tryd.checked os 10 .any (fun w args => (Rows.headTargetsSpec.pre enc Tryd.prog Tryd.f10 Rows.headTargetsRow.domain false w args ∧ laidMetH Tryd.prog Rows.headTargetsRow.laid w) ∧ sizedMet enc Tryd.prog Tryd.f10 (OpenSpec.ofChange Rows.headTargetsSpec) false w args)
      (Rows.headTargetsSpec.post enc Tryd.prog Tryd.f10 false true false false) := by
  refine handed_both (C := Tryd.checked) (X := fun w _ => laidMetH Tryd.prog Rows.headTargetsRow.laid w) (fun _ _ _ hh h => h.of_heap hh) own started (by kernel_rfl) Tryd.func10
    (ChangeSpec.witness_shaped (enc := enc) (C := Tryd.checked) (os := os) (X := fun w _ => laidMetH Tryd.prog Rows.headTargetsRow.laid w) false (World.laidAll Tryd.prog os Rows.headTargetsRow.laid) #[.string ⟨#[]⟩, .string ⟨#[]⟩, .agg #[.string ⟨#[]⟩, .string ⟨#[]⟩]] 8 (World.laidAll_os _ _ _)
      (World.shaped_of_ZipB (by kernel_rfl) (by kernel_rfl)) (by kernel_rfl) (by kernel_rfl) (by kernel_rfl)
      (by rw [MakeChecks.laidMetH_plain _ _ _ (by kernel_rfl)]; exact laidMet_laidAll _ (by kernel_rfl) (by kernel_rfl))) ?_
  intro W base args ds gs before hval0 hW hcnd hsz hL hsh _
  have hLz : Lz W := lz_of (by rw [MakeChecks.laidMetH_plain _ _ _ (by kernel_rfl)] at hL; exact hL) hsh
  have hval : ∀ (j : Nat) t v, Tryd.f10.params[j]? = some t → args[j]? = some v → Value.okWide Tryd.prog W .any base t v := hval0
  have hW' := hW
  obtain ⟨p, q, hA0, hV, rfl, hfz, hnd⟩ := hW
  have hA : DataW.TrodAll enc Tryd.prog W 0 (fun _ => true) true Tryd.f10.params.toList args.toList ds p := hA0
  rw [Tryd.params10] at hA hval
  obtain ⟨v0, vs0, d0, ds0, p0, q0, hargs, rfl, rfl, h0, r0⟩ := trodAll_cons hA
  obtain ⟨v1, vs1, d1, ds1, p1, q1, rfl, rfl, rfl, h1, r1⟩ := trodAll_cons r0
  obtain ⟨v2, vs2, d2, ds2, p2, q2, rfl, rfl, rfl, h2, r2⟩ := trodAll_cons r1
  obtain ⟨rfl, rfl, rfl⟩ := trodAll_nil r2
  obtain rfl : args = #[v0, v1, v2] := by cases args; simp_all
  obtain ⟨rfl, rfl⟩ := trodVars_none hV
  obtain ⟨n0, rfl, rfl, rfl, hn0⟩ := ChangeMaps.open_string Tryd.underlying9 (hval 0 9 v0 rfl rfl) h0
  have hr0 : n0.size ≤ 140737488355328 := by
    have := sized_string hsz (j := 0) rfl rfl
    simp [reachBytes] at this
    omega
  obtain ⟨n1, rfl, rfl, rfl, hn1⟩ := ChangeMaps.open_string Tryd.underlying9 (hval 1 9 v1 rfl rfl) h1
  have hr1 : n1.size ≤ 140737488355328 := by
    have := sized_string hsz (j := 1) rfl rfl
    simp [reachBytes] at this
    omega
  have k2 := h2
  have lt2 : ∀ x ∈ p2, x.block < W.heap.size := by obtain ⟨m, hm⟩ := k2; exact DataW.trod_lt m _ _ _ hm
  obtain ⟨t2, u2, rfl, bt2, bu2⟩ := open_two (hval 2 48 v2 rfl rfl) h2 (fun n hn => of_decide_eq_true (List.all_eq_true.1 hsz n (DataW.weights_mem_each (j := 2) (d := d2) rfl rfl n hn)))
  clear hA0 hval0
  refine (walk n0 n1 t2 u2 W hn0 hr0 hn1 hr1 bt2 bu2 hLz).mono fun e W' ⟨he, bel⟩ => ?_
  subst he
  exact ⟨_, rfl, _, _, _, [], _, [], hW', trodAll_mk1 (shut_bool Tryd.underlying4 _), (trodAll_cons_mk (ChangeMaps.shut_string Tryd.underlying9 hn0) (trodAll_cons_mk (ChangeMaps.shut_string Tryd.underlying9 hn1) (trodAll_cons_mk (Below.trod laidOut (by kernel_rfl) (of_decide_eq_true (by kernel_rfl)) k2 bel lt2) trodAll_mk0))), rfl, bel.frame _, fun h => by cases h⟩

theorem proved : Rows.HeadTargetsSaid :=
  OpenClaim.holds_of_wide 10 Tryd.f10 rfl rfl rfl rfl rfl rfl rfl ⟨rfl, rfl, rfl, rfl, rfl⟩ rfl rfl rfl rfl rfl (by kernel_rfl) Tryd.func10 (by kernel_rfl)
    (of_decide_eq_true (by kernel_rfl)) (by unfold Func.isWrapper; first | (rw [if_pos (by decide +kernel)]; kernel_rfl) | (rw [if_neg (by decide +kernel)]; exact ⟨rfl, rfl⟩))
    (fun os started H enc _ => lifted os started H enc)
theorem card : Rows.HeadTargetsCardSaid :=
  Claim7.holds_tied_plain_at .later [] [.data, .pinned, .pinned] true (true, "2cf869cf5398f97f81daaceca3590596dba7a7a0c92dd152567cde0423139ccb") false proved (fun _ h => by cases h) (by kernel_rfl) (fun _ h => by cases h) headTargets_row_tie rfl ⟨rfl, rfl⟩ (by kernel_rfl) rfl
    (fun f fn hf hfn => by
      obtain rfl : f = 10 := Option.some.inj ((show Tryd.prog.funcNamed "tollgate/tollgatelaw09.HeadTargets" = some 10 by kernel_rfl).symm.trans hf) |>.symm
      obtain rfl : fn = Tryd.f10 := (Option.some.inj (Tryd.func10.symm.trans hfn)).symm
      exact ⟨by kernel_rfl, fun j t ht => by
        rw [Tryd.params10] at ht
        have hm : t ∈ [9, 9, 48] := by simpa using Array.mem_of_getElem? ht
        have hall : ([9, 9, 48].all fun u => !Tryd.prog.wantsStandIn u) = true := by kernel_rfl
        exact (show Tryd.prog.wantsStandIn t = false by simpa using List.all_eq_true.1 hall t hm)⟩)
    (by kernel_rfl)
end Go.Proofs.YtalacoebbbcboaaDoor.headTargets
namespace Go.Proofs.YtalacoebbbcboaaDoor
theorem headTargets_holds : Rows.HeadTargetsCardSaid := headTargets.card
#print axioms headTargets_holds
end Go.Proofs.YtalacoebbbcboaaDoor
