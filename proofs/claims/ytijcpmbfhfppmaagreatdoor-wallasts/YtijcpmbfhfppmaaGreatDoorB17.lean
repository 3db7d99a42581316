/- Contracts of the library's functions at this program's numbers. -/
import Derived.Shelf.Small.Bits
import Derived.Shelf.Small.Wraps
import Derived.Shelf.Strconv.Atoi
import Derived.Shelf.Strconv.Itoa0
import Derived.Shelf.Strconv.Itoa1
import Derived.Shelf.LaysM
import Derived.Shelf.Strconv.Itoa2
import Derived.Shelf.Strconv.Itoa3
import Derived.Shelf.Strconv.AtoiErrFast
import Derived.Shelf.Strconv.ParseIntEmpty
import Derived.Shelf.Strconv.AtoiFail
import Derived.Shelf.Strconv.Clone
import Derived.Shelf.Strconv.SyntaxError
import Derived.Shelf.LaysC
import Derived.Shelf.Strconv.ToError
import Derived.Shelf.Strconv.Lower
import Derived.Shelf.Strconv.ParseUint10
import Derived.Shelf.Strconv.ParseUint10Empty
import Derived.Shelf.Strconv.ParseUint10Any
import Derived.Shelf.Strconv.ParseInt10
import Derived.Shelf.Strconv.AtoiLong
import Derived.Shelf.Strconv.AtoiInnerAll
import Derived.Shelf.Strconv.RangeError
import Derived.Shelf.Strconv.ToErrorRange
import Derived.Shelf.Strconv.AtoiAll
import Derived.Shelf.Strings.Prefix
import Derived.Ground.SlgmProg
import Derived.Shelf.SortM.Plain
import Derived.Shelf.SortM.SortNone
import Derived.Test.YtijcpmbfhfppmaaGreatDoorProg
import Derived.Test.YtijcpmbfhfppmaaGreatDoorB16
section
namespace Go.Proofs
open Go.Shelf
def Tryz.lays103_ren : Go.Shelf.Ren := ⟨fun | 103 => 127 | 210 => 156 | 206 => 177 | n => n, fun | 9 => 9 | 4 => 4 | 24 => 165 | 3 => 3 | n => n, fun | n => n⟩
theorem Tryz.lays103 : Go.Proofs.Lays.n103 Tryz.prog Tryz.lays103_ren := {
  mixed := by kernel_rfl
  f103 := Tryz.func127.trans (congrArg some (by kernel_rfl))
  f206 := Tryz.func177.trans (congrArg some (by kernel_rfl))
  f210 := Tryz.func156.trans (congrArg some (by kernel_rfl))
  t3 := Tryz.underlying3
  a3 := Tryz.isAgg3
  z3 := Tryz.sizeOf3
  v3 := Tryz.zeroValue3
  t4 := Tryz.underlying4
  a4 := Tryz.isAgg4
  z4 := Tryz.sizeOf4
  v4 := Tryz.zeroValue4
  t9 := Tryz.underlying9
  a9 := Tryz.isAgg9
  z9 := Tryz.sizeOf9
  v9 := Tryz.zeroValue9
  t24 := Tryz.underlying165
  a24 := Tryz.isAgg165
  z24 := Tryz.sizeOf165
  v24 := Tryz.zeroValue165 }
open Go.RowKit in
theorem Tryz.strings_CutPrefix (s p : ByteArray) (w : World) :
    Calls Tryz.prog 127 #[.string s, .string p] w fun e w' => e = .returned (.tuple #[.string ⟨(Lib.trimPrefix s.data.toList p.data.toList).toArray⟩, .bool (Lib.hasPrefix s.data.toList p.data.toList)]) ∧ w' = w := Any.strings_CutPrefix Tryz.lays103 s p w
def Tryz.laysM171_ren : Go.Shelf.Ren := ⟨fun | 171 => 111 | 243 => 144 | 246 => 171 | 283 => 199 | 284 => 200 | 285 => 201 | 286 => 202 | 129 => 198 | 317 => 223 | 318 => 224 | 319 => 225 | 320 => 226 | 337 => 237 | 338 => 238 | n => n, fun | 3 => 3 | 9 => 9 | 2 => 2 | 4 => 4 | 171 => 228 | 0 => 0 | 53 => 227 | 37 => 58 | 5 => 5 | 173 => 230 | 212 => 251 | 51 => 190 | 20 => 20 | 213 => 252 | 46 => 199 | 232 => 266 | 233 => 267 | n => n, fun | 17 => 2 | 18 => 3 | 19 => 4 | n => n⟩
theorem Tryz.laysM171 : Go.Proofs.LaysM.n171 Tryz.prog Tryz.laysM171_ren := {
  mixed := by kernel_rfl
  f129 := Tryz.func198.trans (congrArg some (by kernel_rfl))
  f171 := Tryz.func111.trans (congrArg some (by kernel_rfl))
  f243 := Tryz.func144.trans (congrArg some (by kernel_rfl))
  f246 := Tryz.func171.trans (congrArg some (by kernel_rfl))
  f283 := Tryz.func199.trans (congrArg some (by kernel_rfl))
  f284 := Tryz.func200.trans (congrArg some (by kernel_rfl))
  f285 := Tryz.func201.trans (congrArg some (by kernel_rfl))
  f286 := Tryz.func202.trans (congrArg some (by kernel_rfl))
  f317 := Tryz.func223.trans (congrArg some (by kernel_rfl))
  f318 := Tryz.func224.trans (congrArg some (by kernel_rfl))
  f319 := Tryz.func225.trans (congrArg some (by kernel_rfl))
  f320 := Tryz.func226.trans (congrArg some (by kernel_rfl))
  f337 := Tryz.func237.trans (congrArg some (by kernel_rfl))
  f338 := Tryz.func238.trans (congrArg some (by kernel_rfl))
  t0 := Tryz.underlying0
  a0 := Tryz.isAgg0
  z0 := Tryz.sizeOf0
  v0 := Tryz.zeroValue0
  t2 := Tryz.underlying2
  a2 := Tryz.isAgg2
  z2 := Tryz.sizeOf2
  v2 := Tryz.zeroValue2
  t3 := Tryz.underlying3
  a3 := Tryz.isAgg3
  z3 := Tryz.sizeOf3
  v3 := Tryz.zeroValue3
  t4 := Tryz.underlying4
  a4 := Tryz.isAgg4
  z4 := Tryz.sizeOf4
  v4 := Tryz.zeroValue4
  t5 := Tryz.underlying5
  a5 := Tryz.isAgg5
  z5 := Tryz.sizeOf5
  v5 := Tryz.zeroValue5
  t9 := Tryz.underlying9
  a9 := Tryz.isAgg9
  z9 := Tryz.sizeOf9
  v9 := Tryz.zeroValue9
  t20 := Tryz.underlying20
  a20 := Tryz.isAgg20
  z20 := Tryz.sizeOf20
  v20 := Tryz.zeroValue20
  t37 := Tryz.underlying58
  a37 := Tryz.isAgg58
  z37 := Tryz.sizeOf58
  v37 := Tryz.zeroValue58
  t46 := Tryz.underlying199
  a46 := Tryz.isAgg199
  z46 := Tryz.sizeOf199
  v46 := Tryz.zeroValue199
  t51 := Tryz.underlying190
  a51 := Tryz.isAgg190
  z51 := Tryz.sizeOf190
  v51 := Tryz.zeroValue190
  t53 := Tryz.underlying227
  a53 := Tryz.isAgg227
  z53 := Tryz.sizeOf227
  v53 := Tryz.zeroValue227
  t171 := Tryz.underlying228
  a171 := Tryz.isAgg228
  z171 := Tryz.sizeOf228
  v171 := Tryz.zeroValue228
  t173 := Tryz.underlying230
  a173 := Tryz.isAgg230
  z173 := Tryz.sizeOf230
  v173 := Tryz.zeroValue230
  t212 := Tryz.underlying251
  a212 := Tryz.isAgg251
  z212 := Tryz.sizeOf251
  v212 := Tryz.zeroValue251
  t213 := Tryz.underlying252
  a213 := Tryz.isAgg252
  z213 := Tryz.sizeOf252
  t232 := Tryz.underlying266
  a232 := Tryz.isAgg266
  z232 := Tryz.sizeOf266
  v232 := Tryz.zeroValue266
  t233 := Tryz.underlying267
  a233 := Tryz.isAgg267
  z233 := Tryz.sizeOf267
  v233 := Tryz.zeroValue267
  g17 := by kernel_rfl
  g18 := by kernel_rfl
  g19 := by kernel_rfl
  i0 := by kernel_rfl
  i2 := by kernel_rfl
  i3 := by kernel_rfl
  i4 := by kernel_rfl
  i5 := by kernel_rfl
  i9 := by kernel_rfl
  i20 := by kernel_rfl
  i37 := by kernel_rfl
  i46 := by kernel_rfl
  i51 := by kernel_rfl
  i53 := by kernel_rfl
  i171 := by kernel_rfl
  i173 := by kernel_rfl
  i212 := by kernel_rfl
  i232 := by kernel_rfl
  i233 := by kernel_rfl
  m17 := by kernel_rfl
  m18 := by kernel_rfl
  m19 := by kernel_rfl }
open Go.RowKit Go.Sort Go.Lib in
theorem Tryz.strconv_Itoa (n : Int) (h0 : -9223372036854775808 ≤ n) (h1 : n ≤ 9223372036854775807) (w : World) (htab : Lib.TabIs Tryz.prog w "internal/strconv.uint64pow10" .u64 Lib.pow10Tab) :
    Calls Tryz.prog 111 #[.int .i64 n] w fun e w' => e = .returned (.string ⟨(Lib.itoa n).toArray⟩) ∧ ∃ k os, w' = grow (w.drewN k) os := Any.strconv_Itoa Tryz.laysM171 n h0 h1 w htab
def Tryz.laysC172_ren : Go.Shelf.Ren := ⟨fun | 172 => 128 | 244 => 157 | 245 => 158 | 247 => 178 | 279 => 179 | 280 => 180 | 281 => 181 | 282 => 182 | 287 => 205 | 316 => 206 | 171 => 111 | 205 => 207 | 321 => 227 | 322 => 228 | 243 => 144 | 246 => 171 | 283 => 199 | 284 => 200 | 285 => 201 | 286 => 202 | 129 => 198 | 317 => 223 | 318 => 224 | 319 => 225 | 320 => 226 | 337 => 237 | 338 => 238 | n => n, fun | 9 => 9 | 3 => 3 | 75 => 168 | 76 => 169 | 4 => 4 | 5 => 5 | 167 => 212 | 37 => 58 | 0 => 0 | 85 => 213 | 2 => 2 | 168 => 215 | 53 => 227 | 175 => 234 | 46 => 199 | 210 => 238 | 127 => 254 | 145 => 257 | 143 => 255 | 21 => 21 | 171 => 228 | 173 => 230 | 212 => 251 | 51 => 190 | 20 => 20 | 213 => 252 | 232 => 266 | 233 => 267 | 80 => 68 | n => n, fun | 15 => 0 | 16 => 1 | 17 => 2 | 18 => 3 | 19 => 4 | n => n⟩
theorem Tryz.laysC172 : Go.Proofs.LaysC.n172 Tryz.prog Tryz.laysC172_ren := {
  mixed := by kernel_rfl
  f129 := Tryz.func198.trans (congrArg some (by kernel_rfl))
  f171 := Tryz.func111.trans (congrArg some (by kernel_rfl))
  f172 := Tryz.func128.trans (congrArg some (by kernel_rfl))
  f205 := Tryz.func207.trans (congrArg some (by kernel_rfl))
  f243 := Tryz.func144.trans (congrArg some (by kernel_rfl))
  f244 := Tryz.func157.trans (congrArg some (by kernel_rfl))
  f245 := Tryz.func158.trans (congrArg some (by kernel_rfl))
  f246 := Tryz.func171.trans (congrArg some (by kernel_rfl))
  f247 := Tryz.func178.trans (congrArg some (by kernel_rfl))
  f279 := Tryz.func179.trans (congrArg some (by kernel_rfl))
  f280 := Tryz.func180.trans (congrArg some (by kernel_rfl))
  f281 := Tryz.func181.trans (congrArg some (by kernel_rfl))
  f282 := Tryz.func182.trans (congrArg some (by kernel_rfl))
  f283 := Tryz.func199.trans (congrArg some (by kernel_rfl))
  f284 := Tryz.func200.trans (congrArg some (by kernel_rfl))
  f285 := Tryz.func201.trans (congrArg some (by kernel_rfl))
  f286 := Tryz.func202.trans (congrArg some (by kernel_rfl))
  f287 := Tryz.func205.trans (congrArg some (by kernel_rfl))
  f316 := Tryz.func206.trans (congrArg some (by kernel_rfl))
  f317 := Tryz.func223.trans (congrArg some (by kernel_rfl))
  f318 := Tryz.func224.trans (congrArg some (by kernel_rfl))
  f319 := Tryz.func225.trans (congrArg some (by kernel_rfl))
  f320 := Tryz.func226.trans (congrArg some (by kernel_rfl))
  f321 := Tryz.func227.trans (congrArg some (by kernel_rfl))
  f322 := Tryz.func228.trans (congrArg some (by kernel_rfl))
  f337 := Tryz.func237.trans (congrArg some (by kernel_rfl))
  f338 := Tryz.func238.trans (congrArg some (by kernel_rfl))
  t0 := Tryz.underlying0
  a0 := Tryz.isAgg0
  z0 := Tryz.sizeOf0
  v0 := Tryz.zeroValue0
  t2 := Tryz.underlying2
  a2 := Tryz.isAgg2
  z2 := Tryz.sizeOf2
  v2 := Tryz.zeroValue2
  t3 := Tryz.underlying3
  a3 := Tryz.isAgg3
  z3 := Tryz.sizeOf3
  v3 := Tryz.zeroValue3
  t4 := Tryz.underlying4
  a4 := Tryz.isAgg4
  z4 := Tryz.sizeOf4
  v4 := Tryz.zeroValue4
  t5 := Tryz.underlying5
  a5 := Tryz.isAgg5
  z5 := Tryz.sizeOf5
  v5 := Tryz.zeroValue5
  t9 := Tryz.underlying9
  a9 := Tryz.isAgg9
  z9 := Tryz.sizeOf9
  v9 := Tryz.zeroValue9
  t20 := Tryz.underlying20
  a20 := Tryz.isAgg20
  z20 := Tryz.sizeOf20
  v20 := Tryz.zeroValue20
  t21 := Tryz.underlying21
  a21 := Tryz.isAgg21
  z21 := Tryz.sizeOf21
  v21 := Tryz.zeroValue21
  t37 := Tryz.underlying58
  a37 := Tryz.isAgg58
  z37 := Tryz.sizeOf58
  v37 := Tryz.zeroValue58
  t46 := Tryz.underlying199
  a46 := Tryz.isAgg199
  z46 := Tryz.sizeOf199
  v46 := Tryz.zeroValue199
  t51 := Tryz.underlying190
  a51 := Tryz.isAgg190
  z51 := Tryz.sizeOf190
  v51 := Tryz.zeroValue190
  t53 := Tryz.underlying227
  a53 := Tryz.isAgg227
  z53 := Tryz.sizeOf227
  v53 := Tryz.zeroValue227
  t75 := Tryz.underlying168
  a75 := Tryz.isAgg168
  z75 := Tryz.sizeOf168
  v75 := Tryz.zeroValue168
  t76 := Tryz.underlying169
  a76 := Tryz.isAgg169
  z76 := Tryz.sizeOf169
  v76 := Tryz.zeroValue169
  t85 := Tryz.underlying213
  a85 := Tryz.isAgg213
  z85 := Tryz.sizeOf213
  v85 := Tryz.zeroValue213
  t127 := Tryz.underlying254
  a127 := Tryz.isAgg254
  z127 := Tryz.sizeOf254
  v127 := Tryz.zeroValue254
  t143 := Tryz.underlying255
  a143 := Tryz.isAgg255
  z143 := Tryz.sizeOf255
  v143 := Tryz.zeroValue255
  t145 := Tryz.underlying257
  a145 := Tryz.isAgg257
  z145 := Tryz.sizeOf257
  v145 := Tryz.zeroValue257
  t167 := Tryz.underlying212
  a167 := Tryz.isAgg212
  z167 := Tryz.sizeOf212
  v167 := Tryz.zeroValue212
  t168 := Tryz.underlying215
  a168 := Tryz.isAgg215
  z168 := Tryz.sizeOf215
  v168 := Tryz.zeroValue215
  t171 := Tryz.underlying228
  a171 := Tryz.isAgg228
  z171 := Tryz.sizeOf228
  v171 := Tryz.zeroValue228
  t173 := Tryz.underlying230
  a173 := Tryz.isAgg230
  z173 := Tryz.sizeOf230
  v173 := Tryz.zeroValue230
  t175 := Tryz.underlying234
  a175 := Tryz.isAgg234
  z175 := Tryz.sizeOf234
  v175 := Tryz.zeroValue234
  t210 := Tryz.underlying238
  a210 := Tryz.isAgg238
  z210 := Tryz.sizeOf238
  v210 := Tryz.zeroValue238
  t212 := Tryz.underlying251
  a212 := Tryz.isAgg251
  z212 := Tryz.sizeOf251
  v212 := Tryz.zeroValue251
  t213 := Tryz.underlying252
  a213 := Tryz.isAgg252
  z213 := Tryz.sizeOf252
  t232 := Tryz.underlying266
  a232 := Tryz.isAgg266
  z232 := Tryz.sizeOf266
  v232 := Tryz.zeroValue266
  t233 := Tryz.underlying267
  a233 := Tryz.isAgg267
  z233 := Tryz.sizeOf267
  v233 := Tryz.zeroValue267
  g15 := by kernel_rfl
  g16 := by kernel_rfl
  g17 := by kernel_rfl
  g18 := by kernel_rfl
  g19 := by kernel_rfl
  t80 := Tryz.underlying68
  a80 := Tryz.isAgg68
  z80 := Tryz.sizeOf68
  v80 := Tryz.zeroValue68
  i0 := by kernel_rfl
  i2 := by kernel_rfl
  i3 := by kernel_rfl
  i4 := by kernel_rfl
  i5 := by kernel_rfl
  i9 := by kernel_rfl
  i20 := by kernel_rfl
  i21 := by kernel_rfl
  i37 := by kernel_rfl
  i46 := by kernel_rfl
  i51 := by kernel_rfl
  i53 := by kernel_rfl
  i75 := by kernel_rfl
  i76 := by kernel_rfl
  i80 := by kernel_rfl
  i85 := by kernel_rfl
  i127 := by kernel_rfl
  i143 := by kernel_rfl
  i145 := by kernel_rfl
  i167 := by kernel_rfl
  i168 := by kernel_rfl
  i171 := by kernel_rfl
  i173 := by kernel_rfl
  i175 := by kernel_rfl
  i210 := by kernel_rfl
  i212 := by kernel_rfl
  i232 := by kernel_rfl
  i233 := by kernel_rfl
  m15 := by kernel_rfl
  m16 := by kernel_rfl
  m17 := by kernel_rfl
  m18 := by kernel_rfl
  m19 := by kernel_rfl
  c0 := by kernel_rfl
  c2 := by kernel_rfl
  c3 := by kernel_rfl
  c4 := by kernel_rfl
  c5 := by kernel_rfl
  c9 := by kernel_rfl
  c20 := by kernel_rfl
  c21 := by kernel_rfl
  c37 := by kernel_rfl
  c46 := by kernel_rfl
  c51 := by kernel_rfl
  c53 := by kernel_rfl
  c75 := by kernel_rfl
  c76 := by kernel_rfl
  c80 := by kernel_rfl
  c85 := by kernel_rfl
  c127 := by kernel_rfl
  c143 := by kernel_rfl
  c145 := by kernel_rfl
  c167 := by kernel_rfl
  c168 := by kernel_rfl
  c171 := by kernel_rfl
  c173 := by kernel_rfl
  c175 := by kernel_rfl
  c210 := by kernel_rfl
  c212 := by kernel_rfl
  c213 := by kernel_rfl
  c232 := by kernel_rfl
  c233 := by kernel_rfl }
open Go.RowKit in
theorem Tryz.strconv_Atoi_ok (s : ByteArray) (hmax : s.size ≤ 9223372036854775806) (v : Int) (h : Lib.atoiAll s.data.toList = .ok v) (w : World) :
    Calls Tryz.prog 128 #[.string s] w fun e w' => e = .returned (.tuple #[.int .i64 v, .nilIface]) ∧ (w' = w ∨ ∃ t, w' = Lib.bytesWorld w 5 t) := Any.strconv_Atoi_ok Tryz.laysC172 s hmax v h w
open Go.RowKit in
theorem Tryz.strconv_Atoi_syntax (s : ByteArray) (hlim : s.size ≤ 281474976710656) (h : Lib.atoiAll s.data.toList = .«syntax») (ev : Value) (w : World) (hv : w.cell? ⟨0, 0, none⟩ = some ev) (hev : ev = .nilIface ∨ ∃ te pe, ev = .iface te pe) :
    Calls Tryz.prog 128 #[.string s] w fun e w' => ∃ N, e = .returned (.tuple #[.int .i64 (0), .iface 215 (.pointer (some ⟨N, 0, none⟩))]) ∧ w.heap.size ≤ N ∧ w'.heap[N]? = some (.cells #[.string ⟨#[65, 116, 111, 105]⟩, .string s, ev] 238 (0, 0)) ∧ Below w.heap.size w w' := Any.strconv_Atoi_syntax Tryz.laysC172 s hlim h ev w hv hev
open Go.RowKit in
theorem Tryz.strconv_Atoi_range (s : ByteArray) (hlim : s.size ≤ 281474976710656) (h : Lib.atoiAll s.data.toList = .range) (ev : Value) (w : World) (hv : w.cell? ⟨1, 0, none⟩ = some ev) (hev : ev = .nilIface ∨ ∃ te pe, ev = .iface te pe) :
    Calls Tryz.prog 128 #[.string s] w fun e w' => ∃ N, e = .returned (.tuple #[.int .i64 (Lib.atoiSat s.data.toList), .iface 215 (.pointer (some ⟨N, 0, none⟩))]) ∧ w.heap.size ≤ N ∧ w'.heap[N]? = some (.cells #[.string ⟨#[65, 116, 111, 105]⟩, .string s, ev] 238 (0, 0)) ∧ Below w.heap.size w w' := Any.strconv_Atoi_range Tryz.laysC172 s hlim h ev w hv hev
end Go.Proofs
end
/- Disk: Cut, Rename, Read, Sure, New. -/
section
namespace Go.Proofs.YtijcpmbfhfppmaaGreatDoor
open Go.ChangeShapes Go.WideShapes Go.ChangeAt Go.RowKit Go.Maps

section
variable {base d M room N : Nat} {w w' : World} {fs fs' : List Fe}
theorem dcut_calls (h : DiskAt base w d M room N fs) (hbs : base ≤ w.heap.size) (hN : N ≤ 1000000) (s : ByteArray) (hs : s.size ≤ maxLen) (z : Int) :
    Calls Tryz.prog 102 #[.pointer (some ⟨d, 0, none⟩), .string s, .int .i64 z] w (DEnd base d M room (N + 1) w fs (dCut s.data.toList z (sps fs))) := by
  have HS := hide (sps_get s.data.toList fs)
  cases hg : getS s.data.toList fs with
  | none =>
    have F1 := hide (find_no h s hs hg)
    have E1 := hide (DEnd.stay (w := w) (r := dCut s.data.toList z (sps fs)) (e := .returned (.int .i64 8)) (h.mono (Nat.le_succ N)) (by simp [dCut, unhide HS, hg]) (by simp [dCut, unhide HS, hg]))
    clear h hbs hg HS
    go_enter Tryz.func102, Tryz.ntmps102
    go_wp2_with (go_at_call 76; refine (unhide F1).mono ?_; rintro e w' ⟨rfl, rfl⟩)
    go_ret
    exact unhide E1
  | some x =>
    obtain ⟨F, f⟩ := x
    have hm := getS_some hg
    have F1 := hide (find_yes h s hs F f hg)
    have hn : f.sp.now = f.b := h.nows hm
    have c0 := (h.file _ hm).c0
    simp only at c0
    by_cases hz : z < 0 ∨ z > f.b.length
    · have hdc : dCut s.data.toList z (sps fs) = (2, sps fs) := by
        simp only [dCut, unhide HS, hg, Option.map_some, hn]
        rw [if_pos hz]
      have E1 := hide (DEnd.stay (w := w) (r := dCut s.data.toList z (sps fs)) (e := .returned (.int .i64 2)) (h.mono (Nat.le_succ N)) (by rw [hdc]; rfl) (by rw [hdc]))
      clear h hbs hg HS hm hn hdc
      generalize f.b.length = n at *
      by_cases hz0 : z < 0
      · clear hz
        go_enter Tryz.func102, Tryz.ntmps102
        go_wp2_with (go_at_call 76; refine (unhide F1).mono ?_; rintro e w' ⟨rfl, rfl⟩)
        go_ret
        exact unhide E1
      · have hz1 : (n : Int) < z := by omega
        clear hz
        go_enter Tryz.func102, Tryz.ntmps102
        go_wp2_with (go_at_call 76; refine (unhide F1).mono ?_; rintro e w' ⟨rfl, rfl⟩)
        go_ret
        exact unhide E1
    · obtain ⟨k, rfl⟩ : ∃ k : Nat, z = (k : Int) := ⟨z.toNat, by omega⟩
      have hk : k ≤ f.b.length := by omega
      have S1 := hide (cut_calls base w F f (h.file _ hm) k hk (by have := (h.ok _ hm).few; simp only at this; omega) hbs)
      have E1 := hide (show ∀ w' cp cc, FileAt base w' F ((f.shorter k).more cp cc ((true, k, []), (none, 0))) → FGrew F w f w' ((f.shorter k).more cp cc ((true, k, []), (none, 0))) → DEnd base d M room (N + 1) w fs (dCut s.data.toList (k : Int) (sps fs)) (.returned (.int .i64 0)) w' from fun w' cp cc hf hg' => by
        obtain ⟨k1, k2⟩ := h.upd (w' := w') hm hf hg' ((h.ok _ hm).cut k hk cp cc) (Nat.le_succ N)
        have hdc : dCut s.data.toList (k : Int) (sps fs) = (0, putF s.data.toList ⟨f.sp.la, f.sp.y, f.sp.cs ++ [(true, k, [])]⟩ (sps fs)) := by
          simp only [dCut, unhide HS, hg, Option.map_some, hn]
          rw [if_neg hz]; rfl
        rw [hdc]
        refine ⟨rfl, _, k1, k2, ?_⟩
        rw [sps_put]
        simp [Fil.sp, Fil.more, Fil.shorter])
      have hz0 : ¬ ((k : Int) < 0) := by omega
      have hz1 : ¬ ((f.b.length : Int) < (k : Int)) := by omega
      clear h hbs hg HS hm hn hz hk
      generalize f.b.length = n at *
      go_enter Tryz.func102, Tryz.ntmps102
      go_wp2_with (first
        | (go_at_call 76; refine (unhide F1).mono ?_; rintro e w' ⟨rfl, rfl⟩)
        | (go_at_call 135; refine (unhide S1).mono ?_; rintro e W ⟨rfl, cp, cc, hf, hg⟩; have E2 := hide (unhide E1 W cp cc hf hg); clear hf hg))
      go_ret
      exact unhide E2
theorem dread_yes (h : DiskAt base w d M room N fs) (s : ByteArray) (hs : s.size ≤ maxLen) (F : Nat) (f : Fil) (hg : getS s.data.toList fs = some (F, f)) :
    Calls Tryz.prog 35 #[.pointer (some ⟨d, 0, none⟩), .string s] w fun e w' => ∃ sp n, e = .returned (.tuple #[.slice sp n n, .int .i64 0]) ∧ f.sp.now.length = n ∧ n ≤ 262144 ∧ Bx w.heap.size w' sp n f.sp.now ∧ Below w.heap.size w w' := by
  have hm := getS_some hg
  have F1 := hide (find_yes h s hs F f hg)
  rw [show f.sp.now = f.b from h.nows hm]
  have c0 := (h.file _ hm).c0
  simp only at c0
  have h8 : f.b.length ≤ 262144 := (h.ok _ hm).b8
  have S1 := hide (fresh_calls f.bp f.b.length f.bc f.b w rfl (by omega) (h.file _ hm).bytes.bytes (h.file _ hm).bytes.nil0)
  have HN := hide (rfl : f.b.length = f.b.length)
  clear h hg hm
  generalize hn : f.b.length = n at c0 h8 S1 HN
  have HN2 := hide hn
  clear hn HN
  go_enter Tryz.func35, Tryz.ntmps35
  go_wp2_with (first
    | (go_at_call 76; refine (unhide F1).mono ?_; rintro e w' ⟨rfl, rfl⟩)
    | (go_at_call 77; refine (unhide S1).mono ?_; rintro e W ⟨sp, rfl, hx, hb⟩; have X1 := hide hx; have B1 := hide hb; clear hx hb))
  go_ret2
  exact ⟨sp, n, rfl, by first | exact unhide HN2 | rfl, h8, unhide X1, unhide B1⟩
theorem dread_no (h : DiskAt base w d M room N fs) (s : ByteArray) (hs : s.size ≤ maxLen) (hg : getS s.data.toList fs = none) :
    Calls Tryz.prog 35 #[.pointer (some ⟨d, 0, none⟩), .string s] w fun e w' => e = .returned (.tuple #[.slice none 0 0, .int .i64 8]) ∧ w' = w := by
  have F1 := hide (find_no h s hs hg)
  clear h hg
  go_enter Tryz.func35, Tryz.ntmps35
  go_wp2_with (go_at_call 76; refine (unhide F1).mono ?_; rintro e w' ⟨rfl, rfl⟩)
  go_ret2
  exact ⟨rfl, rfl⟩
theorem DiskAt.new (w : World) (hb : base ≤ w.heap.size) (room : Nat) : DiskAt base ((w.alloc (.map #[] 0)).alloc (.cells #[.int .i64 (room : Int), .map (some w.heap.size)] 101)) (w.heap.size + 1) w.heap.size room 0 [] := by
  have hs : (w.alloc (.map #[] 0)).heap.size = w.heap.size + 1 := by simp
  have b1 : Below (w.alloc (.map #[] 0)).heap.size (w.alloc (.map #[] 0)) ((w.alloc (.map #[] 0)).alloc (.cells #[.int .i64 (room : Int), .map (some w.heap.size)] 101)) := (Below.refl _ _).alloc (Nat.le_refl _) _
  refine ⟨?_, (MapAt.made w).later b1, List.Pairwise.nil, by simp, by simp, by omega, hb, by simp, by simp, by simp, by simp⟩
  rw [← hs]
  exact heap_new _ _
theorem dnew_calls (w : World) (hb : base ≤ w.heap.size) (z : Int) : Calls Tryz.prog 24 #[.int .i64 z] w fun e w' => e = .returned (.pointer (some ⟨w.heap.size + 1, 0, none⟩)) ∧ DiskAt base w' (w.heap.size + 1) w.heap.size z.toNat 0 [] ∧ Below w.heap.size w w' := by
  have HD := hide (DiskAt.new (base := base) w hb z.toNat)
  have HB := hide (show Below w.heap.size w ((w.alloc (.map #[] 0)).alloc (.cells #[.int .i64 (z.toNat : Int), .map (some w.heap.size)] 101)) from ((Below.refl _ _).alloc (Nat.le_refl _) _).alloc (by simp) _)
  have hmk := @run_makeMap Tryz.prog
  have hmx : max z 0 = (z.toNat : Int) := by omega
  generalize z.toNat = r at *
  clear hb
  go_enter Tryz.func24, Tryz.ntmps24
  go_wp2
  go_ret
  exact ⟨rfl, unhide HD, unhide HB⟩
end
end Go.Proofs.YtijcpmbfhfppmaaGreatDoor
end
/- Disk: Used, Rename. -/
section
namespace Go.Proofs.YtijcpmbfhfppmaaGreatDoor
open Go.ChangeShapes Go.WideShapes Go.ChangeAt Go.RowKit Go.Maps

theorem enter_used (c : Array Value) (w : World) : (callFunc 113 c).run Tryz.prog w = .ok (.enter 113 c) w := by
  simp [callFunc, go_sem, Tryz.func113]
  rw [if_neg (by decide +kernel), if_neg (fun h => by cases h)]
set_option maxHeartbeats 4000000 in
theorem used1_calls (s : ByteArray) (F U : Nat) (bp : Option Addr) (n c u : Nat) (w : World) (hU : w.heap[U]? = some (.cells #[.int .i64 (u : Int)] 3 (0, 0))) (hF : w.cell? ⟨F, 0, none⟩ = some (.slice bp n c)) (hn : u + n ≤ 4611686018427387904) :
    Calls Tryz.prog 113 #[.string s, .pointer (some ⟨F, 0, none⟩), .pointer (some ⟨U, 0, none⟩)] w fun e w' => e = .returned (.tuple #[]) ∧ w'.heap[U]? = some (.cells #[.int .i64 ((u + n : Nat) : Int)] 3 (0, 0)) ∧ w.grownBy w' (some U) ∧ w'.heap.size = w.heap.size := by
  have c0 := fcell hU 0 (.int .i64 (u : Int)) rfl
  have z0 := ffree hU 0
  have hw : IntKind.i64.wrap ((u : Int) + (n : Int)) = (u : Int) + (n : Int) := by rw [IntKind.wrap_i64]; omega
  have HU := hide hU
  clear hU
  go_enter Tryz.func113, Tryz.ntmps113
  go_region
  all_goals
    go_wp2
    go_end0
    have hg := grown_set w U 0 (.int .i64 ((u : Int) + (n : Int)))
    exact ⟨rfl, by rw [show ((u + n : Nat) : Int) = (u : Int) + (n : Int) by omega]; exact heap_setCell_same w U 0 #[.int .i64 (u : Int)] 3 (.int .i64 ((u : Int) + (n : Int))) (unhide HU), ⟨hg.os, hg.tape, hg.output, hg.size, hg.block⟩, by simp [World.setCell]⟩
def usedF (fs : List Fe) : Nat := (fs.map (fun x => x.2.2.b.length)).sum
theorem usedF_le : ∀ (fs : List Fe), (∀ x ∈ fs, x.2.2.b.length ≤ 262144) → usedF fs ≤ fs.length * 262144
  | [], _ => by simp [usedF]
  | x :: r, h => by
    have h1 := usedF_le r (fun y hy => h y (List.mem_cons_of_mem _ hy))
    have h2 := h x List.mem_cons_self
    simp only [usedF, List.map_cons, List.sum_cons, List.length_cons] at h1 ⊢
    omega
theorem usedF_take (fs : List Fe) (i : Nat) (hi : i < fs.length) : usedF (fs.take (i + 1)) = usedF (fs.take i) + fs[i].2.2.b.length := by
  rw [List.take_succ_eq_append_getElem hi]
  simp only [usedF, List.map_append, List.map_cons, List.map_nil, List.sum_append_nat, List.sum_cons, List.sum_nil, Nat.add_zero]
theorem usedF_take_le (fs : List Fe) (i : Nat) : usedF (fs.take i) ≤ usedF fs := by
  have : usedF fs = usedF (fs.take i) + usedF (fs.drop i) := by
    unfold usedF
    rw [← List.sum_append_nat, ← List.map_append, List.take_append_drop]
  omega
section
variable {base d M room N : Nat} {w w' : World} {fs fs' : List Fe}
theorem DiskAt.usedS (h : DiskAt base w d M room N fs) : usedS (sps fs) = usedF fs := by
  unfold Go.Proofs.YtijcpmbfhfppmaaGreatDoor.usedS usedF sps
  rw [List.map_map]
  congr 1
  exact List.map_congr_left (fun x hx => by show x.2.2.sp.now.length = _; rw [h.nows hx])
theorem DiskAt.used_le (h : DiskAt base w d M room N fs) : usedF fs ≤ 4194304 := by
  have h1 := usedF_le fs (fun x hx => (h.ok x hx).b8)
  have := h.few
  omega
/-- A world in which nothing of the disk has changed. -/
theorem DiskAt.still (h : DiskAt base w d M room N fs) (hs : ∀ g, g < w.heap.size → w'.heap[g]? = w.heap[g]?) : DiskAt base w' d M room N fs := h.same (fun g hg _ => hs g hg)
theorem DiskAt.lookAt (h : DiskAt base w d M room N fs) (i : Nat) (hi : i < fs.length) : (Instr.lookup 99 (.map (some M)) (.string (str fs[i].1)) false).run Tryz.prog w = .ok (.pointer (some ⟨fs[i].2.1, 0, none⟩)) w :=
  (h.map.look_yes (str fs[i].1) (by rw [str_size]; have := h.names _ (List.getElem_mem hi); simp only [maxLen]; omega) fs[i].2.1 (List.mem_map.2 ⟨fs[i], List.getElem_mem hi, rfl⟩)).2
theorem dused_calls (h : DiskAt base w d M room N fs) : Calls Tryz.prog 79 #[.pointer (some ⟨d, 0, none⟩)] w fun e w' => e = .returned (.int .i64 (usedS (sps fs) : Int)) ∧ Below w.heap.size w w' := by
  have b0 : Below w.heap.size w (w.alloc (.cells #[.int .i64 0] 3)) := (Below.refl _ _).alloc (Nat.le_refl _) _
  have hW : (w.alloc (.cells #[.int .i64 0] 3)).heap.size = w.heap.size + 1 := by simp
  have hU0 := heap_new w (.cells #[.int .i64 0] 3)
  have EC := hide (each_calls base d M room N (w.alloc (.cells #[.int .i64 0] 3)) fs (h.later b0) 113 #[.pointer (some ⟨w.heap.size, 0, none⟩)] enter_used
    (fun w' => w'.heap[w.heap.size]? = some (.cells #[.int .i64 (usedS (sps fs) : Int)] 3 (0, 0)) ∧ Below w.heap.size w w') (fun W0 hb => by
      have hbW : Below w.heap.size w W0 := b0.trans (hb.mono b0.size)
      refine ⟨fun i w1 => w1.heap[w.heap.size]? = some (.cells #[.int .i64 (usedF (fs.take i) : Int)] 3 (0, 0)) ∧ W0.grownBy w1 (some w.heap.size), ⟨?_, ?_⟩, ?_, ?_, ?_⟩
      · rw [hb.block w.heap.size (by omega)]
        exact hU0
      · exact grown_refl _ _
      · rintro i w1 ⟨_, hg⟩ g hg1 hg2
        exact hg.block g hg2 (fun e => by have := Option.some.inj e; omega)
      · rintro i hi w1 ⟨hU, hg⟩
        have hs : ∀ g, g < w.heap.size → w1.heap[g]? = w.heap[g]? := fun g hlt => (hg.block g (Nat.lt_of_lt_of_le hlt hbW.size) (fun e => by have := Option.some.inj e; omega)).trans (hbW.block g hlt)
        have h1 := h.still hs
        refine ⟨h1.c1, h1.lookAt i hi, ?_⟩
        have hx := h1.file _ (List.getElem_mem hi)
        have hle := usedF_take_le fs (i + 1)
        have hu := h.used_le
        rw [usedF_take fs i hi] at hle
        refine (used1_calls (str fs[i].1) fs[i].2.1 w.heap.size _ _ _ _ w1 hU hx.c0 (by omega)).mono ?_
        rintro e w2 ⟨rfl, hU2, hg2, _⟩
        refine ⟨rfl, ?_, hg.trans hg2⟩
        rw [usedF_take fs i hi]
        exact hU2
      · rintro w1 ⟨hU, hg⟩
        rw [List.take_length] at hU
        refine ⟨by rw [h.usedS]; exact hU, ?_⟩
        exact hbW.grown hg hbW.size (fun g e => by have := Option.some.inj e; omega)))
  clear h b0 hW hU0
  go_enter Tryz.func79, Tryz.ntmps79
  go_wp2_with (go_at_call 72; refine (unhide EC).mono ?_; rintro e W ⟨rfl, hU, hB⟩; have c0 := fcell hU 0 _ rfl; have HB := hide hB; clear hU hB)
  go_ret
  exact ⟨rfl, unhide HB⟩
end
end Go.Proofs.YtijcpmbfhfppmaaGreatDoor
end
/- Disk: a file comes to the map. -/
section
namespace Go.Proofs.YtijcpmbfhfppmaaGreatDoor
open Go.ChangeShapes Go.WideShapes Go.ChangeAt Go.RowKit Go.Maps

section
variable {base d M room N : Nat} {w w' w0 : World} {fs fs' : List Fe}
theorem DiskAt.drew (h : DiskAt base w d M room N fs) : DiskAt base w.drew d M room N fs := h.still (fun _ _ => rfl)
theorem DiskAt.inj (h : DiskAt base w d M room N fs) {y z a b : Fe} (hy : y ∈ fs) (hz : z ∈ fs) (hne : y.1 ≠ z.1) (ha : a ∈ fs) (hb : b ∈ fs) (ea : y.2 = a.2) (eb : z.2 = b.2) : a.1 ≠ b.1 := by
  intro e
  have := h.rise.one ha hb e
  subst this
  have h1 : y.2.1 = z.2.1 := by rw [ea, eb]
  exact h.ap y hy z hz hne y.2.1 (.inl rfl) (by rw [h1]; exact .inl rfl)
theorem DiskAt.restore (h : DiskAt base w d M room N fs) (x : Fe) (hx : x ∈ fs) (hgr : w.grownBy w' (some M)) (hm : MapAt w' M (putF x.1 x.2.1 (ptrs fs))) : DiskAt base w' d M room N fs ∧ DGrew d M w fs w' fs := by
  rw [putF_same (h.rise.map (fun x : Nat × Fil => x.1)) (List.mem_map.2 ⟨x, hx, rfl⟩)] at hm
  exact h.remap hgr hm h.rise (fun y hy => ⟨h.names y hy, y, hy, rfl⟩) (fun y hy z hz hne a ha b hb ea eb => h.inj hy hz hne ha hb ea eb) h.few
/-- A new file comes to it. -/
theorem DiskAt.add (h : DiskAt base w d M room N fs) (k : Nm) (hk : k.length ≤ 64) (hnew : getS k fs = none) (F : Nat) (f : Fil) (hf : FileAt base w F f) (hok : FOk N f) (hfew : fs.length < 16)
    (hmut : ∀ g, f.mut F g → w0.heap.size ≤ g) (hred : ∀ g, f.red g → w0.heap.size ≤ g) (h0 : ∀ g, DMut d M fs g ∨ DRed fs g → g < w0.heap.size) (hb0 : Below w0.heap.size w0 w) (hgr : w.grownBy w' (some M)) (hm : MapAt w' M (putF k F (ptrs fs))) :
    DiskAt base w' d M room N (putF k (F, f) fs) ∧ DGrew d M w0 fs w' (putF k (F, f) fs) := by
  have hkn := getS_none.1 hnew
  have hmem := fun (y : Fe) => mem_putF (k := k) (v := (F, f)) h.rise y
  have hkk : ∀ g, g < w.heap.size → g ≠ M → w'.heap[g]? = w.heap[g]? := fun g hlt hne => hgr.block g hlt (fun e => hne (Option.some.inj e))
  have hMlt : M < w0.heap.size := h0 M (.inl (.inr (.inl rfl)))
  have hxm : ∀ x ∈ fs, ∀ g, x.mut g → g < w0.heap.size := fun x hx g hg => h0 g (.inl (.inr (.inr ⟨x, hx, hg⟩)))
  have hxr : ∀ x ∈ fs, ∀ g, x.red g → g < w0.heap.size := fun x hx g hg => h0 g (.inr ⟨x, hx, hg⟩)
  refine ⟨⟨(hkk d h.ltD h.dm).trans h.box, by rw [ptrs_put]; exact hm, h.rise.put _ _, ?_, ?_, h.lowD, h.lowM, ?_, ?_, ?_, ?_⟩, ⟨hgr.os.trans hb0.os, hgr.tape.trans hb0.tape, hgr.output.trans hb0.output, Nat.le_trans hb0.size hgr.size, ?_, ?_, ?_⟩⟩
  · intro y hy
    rcases (hmem y).1 hy with rfl | ⟨hy, _⟩
    · refine hf.same (fun g hg => ?_)
      rcases hg with hg | hg
      · exact hkk g (hf.mut_lt hg).2 (fun e => by have := hmut g hg; omega)
      · exact hkk g (hf.red_lt hg).2.1 (fun e => by have := hred g hg; omega)
    · refine (h.file y hy).same (fun g hg => ?_)
      rcases hg with hg | hg
      · exact hkk g ((h.file y hy).mut_lt hg).2 (fun e => (h.notM hy).1 (e ▸ hg))
      · exact hkk g ((h.file y hy).red_lt hg).2.1 (fun e => (h.notM hy).2 (e ▸ hg))
  · intro y hy
    rcases (hmem y).1 hy with rfl | ⟨hy, _⟩
    · exact hok
    · exact h.ok y hy
  · intro y hy z hz hne g hyg hzg
    rcases (hmem y).1 hy with rfl | ⟨hy, _⟩ <;> rcases (hmem z).1 hz with rfl | ⟨hz, _⟩
    · exact hne rfl
    · have h1 := hmut g hyg
      have h2 := hxm z hz g hzg
      omega
    · have h1 := hmut g hzg
      have h2 := hxm y hy g hyg
      omega
    · exact h.ap y hy z hz hne g hyg hzg
  · intro y hy z hz g hyg hzg
    rcases (hmem y).1 hy with rfl | ⟨hy, _⟩ <;> rcases (hmem z).1 hz with rfl | ⟨hz, _⟩
    · exact hf.self hyg hzg
    · have h1 := hmut g hyg
      have h2 := hxr z hz g hzg
      omega
    · have h1 := hred g hzg
      have h2 := hxm y hy g hyg
      omega
    · exact h.rd y hy z hz g hyg hzg
  · rw [putF_length h.rise, if_neg hkn]
    omega
  · intro y hy
    rcases (hmem y).1 hy with rfl | ⟨hy, _⟩
    · exact hk
    · exact h.names y hy
  · intro i hi hn
    exact (hkk i (Nat.lt_of_lt_of_le hi hb0.size) (fun e => hn (.inr (.inl e)))).trans (hb0.block i hi)
  · intro g hg
    rcases hg with e | e | ⟨y, hy, hg⟩
    · exact .inl (.inl e)
    · exact .inl (.inr (.inl e))
    · rcases (hmem y).1 hy with rfl | ⟨hy, _⟩
      · exact .inr (hmut g hg)
      · exact .inl (.inr (.inr ⟨y, hy, hg⟩))
  · rintro g ⟨y, hy, hg⟩
    rcases (hmem y).1 hy with rfl | ⟨hy, _⟩
    · exact .inr (hred g hg)
    · exact .inl ⟨y, hy, hg⟩
theorem FileAt.zero (w : World) (hb : base ≤ w.heap.size) : FileAt base (w.alloc (.cells #[.slice none 0 0, .slice none 0 0, .bool false, .slice none 0 0] 118)) w.heap.size fil0 :=
  ⟨heap_new w _, Bx.ofNil _ _, Bx.ofNil _ _, OwnC.ofNil _ _, hb, fun g hg => (by cases hg), fun x hx => (by simp [fil0] at hx)⟩
theorem fil0_mut (F g : Nat) : fil0.mut F g ↔ g = F := by
  constructor
  · rintro (h | h | h | h)
    · exact h
    · cases h
    · cases h
    · cases h
  · exact .inl
theorem fil0_red (g : Nat) : ¬ fil0.red g := by rintro ⟨x, hx, _⟩; simp [fil0] at hx
set_option maxRecDepth 20000 in
set_option maxHeartbeats 4000000 in
theorem drename_calls (h : DiskAt base w d M room N fs) (a b : ByteArray) (ha : a.size ≤ maxLen) (hb : b.size ≤ maxLen) :
    Calls Tryz.prog 130 #[.pointer (some ⟨d, 0, none⟩), .string a, .string b] w (DEnd base d M room N w fs (dRename a.data.toList b.data.toList (sps fs))) := by
  have HS := hide (sps_get a.data.toList fs)
  cases hg : getS a.data.toList fs with
  | none =>
    have F1 := hide (find_no h a ha hg)
    have E1 := hide (DEnd.stay (w := w) (r := dRename a.data.toList b.data.toList (sps fs)) (e := .returned (.int .i64 8)) h (by simp [dRename, unhide HS, hg]) (by simp [dRename, unhide HS, hg]))
    clear h hg HS
    go_enter Tryz.func130, Tryz.ntmps130
    go_wp2_with (go_at_call 76; refine (unhide F1).mono ?_; rintro e w' ⟨rfl, rfl⟩)
    go_ret
    exact unhide E1
  | some x =>
    obtain ⟨F, f⟩ := x
    have F1 := hide (find_yes h a ha F f hg)
    have hnl := nameOk_list b
    cases hnm : nameOk b with
    | false =>
      have E1 := hide (fun w' (hb : Below w.heap.size w w') => DEnd.below (w := w) (r := dRename a.data.toList b.data.toList (sps fs)) (e := .returned (.int .i64 14)) h (by simp [dRename, unhide HS, hg, ← hnl, hnm]) (by simp [dRename, unhide HS, hg, ← hnl, hnm]) hb)
      clear h hg HS hnl
      go_enter Tryz.func130, Tryz.ntmps130
      go_wp2_with (first
        | (go_at_call 76; refine (unhide F1).mono ?_; rintro e w' ⟨rfl, rfl⟩)
        | (go_at_call 78; refine (isName_calls b _).mono ?_; rintro e W ⟨rfl, b1⟩; have E2 := hide (unhide E1 W b1); clear b1))
      go_ret
      exact unhide E2
    | true =>
      have hb64 : b.data.toList.length ≤ 64 := by
        have := hnm
        simp only [nameOk, Bool.and_eq_true, decide_eq_true_eq] at this
        rw [Array.length_toList]; exact this.2.1
      have E1 := hide (show ∀ W, Below w.heap.size w W → W.cell? ⟨d, 1, none⟩ = some (.map (some M)) ∧ ∃ W1 W2, (∀ ty, (Builtin.delete_ #[99, 9] ty #[.map (some M), .string a]).run Tryz.prog W = .ok (.tuple #[]) W1) ∧ W1.cell? ⟨d, 1, none⟩ = some (.map (some M)) ∧ (Instr.mapUpdate 99 (.map (some M)) (.string b) (.pointer (some ⟨F, 0, none⟩))).run Tryz.prog W1 = .ok () W2 ∧ DEnd base d M room N w fs (dRename a.data.toList b.data.toList (sps fs)) (.returned (.int .i64 0)) W2 from fun W bW => by
        have h1 := h.later bW
        obtain ⟨W1, hd, hm1, hg1, _⟩ := h1.map.drop (h1.rise.map (fun x : Nat × Fil => x.1)) a ha 0
        obtain ⟨W2, hu, hm2, hg2, _⟩ := hm1.store ((h1.rise.map (fun x : Nat × Fil => x.1)).del _) b hb F (by
          have := List.length_filter_le (fun x : Nm × Nat => decide (x.1 ≠ a.data.toList)) (ptrs fs)
          have h3 := h.few
          simp only [delF, ptrs, List.length_map] at this ⊢
          omega)
        refine ⟨h1.c1, W1, W2, fun _ => hd, ?_, hu, ?_⟩
        · exact fcell ((hg1.block d h1.ltD (fun e => h1.dm (Option.some.inj e))).trans h1.box) 1 _ rfl
        · have hmx := getS_some hg
          have hmem := fun (y : Fe) => mem_putF (k := b.data.toList) (v := (F, f)) (h.rise.del a.data.toList) y
          have hx0 : ∀ y ∈ putF b.data.toList (F, f) (delF a.data.toList fs), ∃ x ∈ fs, y.2 = x.2 := fun y hy => by
            rcases (hmem y).1 hy with rfl | ⟨hy, _⟩
            · exact ⟨_, hmx, rfl⟩
            · exact ⟨y, ((mem_delF y).1 hy).1, rfl⟩
          obtain ⟨k1, k2⟩ := h1.remap (fs' := putF b.data.toList (F, f) (delF a.data.toList fs)) (hg1.trans hg2) (by rw [ptrs_put, ptrs_del]; exact hm2) ((h.rise.del _).put _ _) (fun y hy => ⟨by
              rcases (hmem y).1 hy with rfl | ⟨hy, _⟩
              · exact hb64
              · exact h.names y ((mem_delF y).1 hy).1, hx0 y hy⟩) (fun y hy z hz hne p hp q hq ep eq e => by
              have := h.rise.one hp hq e
              subst this
              have h12 : y.2.1 = z.2.1 := by rw [ep, eq]
              rcases (hmem y).1 hy with rfl | ⟨hy, hye⟩ <;> rcases (hmem z).1 hz with rfl | ⟨hz, hze⟩
              · exact hne rfl
              · obtain ⟨hz1, hz2⟩ := (mem_delF z).1 hz
                exact h.ap _ hmx z hz1 (fun e => hz2 e.symm) F (.inl rfl) (by have : F = z.2.1 := h12; rw [this]; exact .inl rfl)
              · obtain ⟨hy1, hy2⟩ := (mem_delF y).1 hy
                exact h.ap y hy1 _ hmx hy2 F (by have : y.2.1 = F := h12; rw [← this]; exact .inl rfl) (.inl rfl)
              · exact h.ap y ((mem_delF y).1 hy).1 z ((mem_delF z).1 hz).1 hne y.2.1 (.inl rfl) (by rw [h12]; exact .inl rfl)) (by
              have h2 := delF_length (k := a.data.toList) h.rise
              rw [if_pos (List.mem_map.2 ⟨_, hmx, rfl⟩)] at h2
              rw [putF_length (h.rise.del _)]
              have := h.few
              split <;> omega)
          have hdr : dRename a.data.toList b.data.toList (sps fs) = (0, putF b.data.toList f.sp (delF a.data.toList (sps fs))) := by
            simp [dRename, unhide HS, hg, ← hnl, hnm]
          rw [hdr]
          refine ⟨rfl, _, k1, (DGrew.ofBelow bW).trans k2, ?_⟩
          rw [sps_put, sps_del])
      clear h hg HS hnl
      go_enter Tryz.func130, Tryz.ntmps130
      go_wp2_with (first
        | (go_at_call 76; refine (unhide F1).mono ?_; rintro e w' ⟨rfl, rfl⟩)
        | (go_at_call 78; refine (isName_calls b _).mono ?_; rintro e W ⟨rfl, b1⟩; obtain ⟨q1, W1, W2, q2, q3, q4, q5⟩ := unhide E1 W b1; have Q5 := hide q5; clear b1 q5))
      go_ret
      exact unhide Q5
end
end Go.Proofs.YtijcpmbfhfppmaaGreatDoor
end
