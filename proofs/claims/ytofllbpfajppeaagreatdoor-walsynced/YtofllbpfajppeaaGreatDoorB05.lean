/- Logs: names of files and their numbers. -/
import Derived.Lib.AtoiAll
import Derived.Lib.ItoaNum
import Derived.Test.YtofllbpfajppeaaGreatDoorB04
import Derived.Shelf.Small.Bits
import Derived.Shelf.Small.Wraps
import Derived.Shelf.Strconv.Atoi
import Derived.Shelf.Strconv.Itoa0
import Derived.Shelf.Strconv.Itoa1
import Derived.Shelf.LaysM
import Derived.Shelf.Strconv.Itoa2
import Derived.Shelf.Strconv.Itoa3
import Derived.Shelf.Strconv.AtoiErrFast
import Derived.Shelf.Strconv.ParseIntEmpty
import Derived.Shelf.Strconv.AtoiFail
import Derived.Shelf.Strconv.Clone
import Derived.Shelf.Strconv.SyntaxError
import Derived.Shelf.LaysC
import Derived.Shelf.Strconv.ToError
import Derived.Shelf.Strconv.Lower
import Derived.Shelf.Strconv.ParseUint10
import Derived.Shelf.Strconv.ParseUint10Empty
import Derived.Shelf.Strconv.ParseUint10Any
import Derived.Shelf.Strconv.ParseInt10
import Derived.Shelf.Strconv.AtoiLong
import Derived.Shelf.Strconv.AtoiInnerAll
import Derived.Shelf.Strconv.RangeError
import Derived.Shelf.Strconv.ToErrorRange
import Derived.Shelf.Strconv.AtoiAll
import Derived.Shelf.Strings.Prefix
import Derived.Ground.SlgmProg
import Derived.Shelf.SortM.Plain
import Derived.Shelf.SortM.SortNone
import Derived.Test.YtofllbpfajppeaaGreatDoorProg
set_option linter.unusedVariables false
set_option maxRecDepth 20000
set_option maxHeartbeats 16000000
namespace Go.Proofs.YtofllbpfajppeaaGreatDoor
section
open Go.ChangeShapes Go.WideShapes Go.ChangeAt Go.RowKit
theorem zoz (d:Nat) (h:d<10):(UInt8.ofNat (48+d)).toNat=48+d:=by
 simp;omega
theorem zjk:∀ (l:List UInt8) (acc u d:Nat),Lib.parseUint10 acc l=.ok u→d<10→u*10+d<1000000000000000000→Lib.parseUint10 acc (l++[UInt8.ofNat (48+d)])=.ok (u*10+d)
 |[],acc,u,d,h,hd,hb=>by
  simp only[Lib.parseUint10,Lib.NumEnd.ok.injEq] at h;subst h;rw[List.nil_append];simp only[Lib.parseUint10,zoz d hd];rw[if_pos (by omega),if_neg (by omega),if_neg (by omega),show 48+d - 48=d by omega]
 |c::r,acc,u,d,h,hd,hb=>by
  rw[List.cons_append];simp only[Lib.parseUint10] at h ⊢;split at h
  ·rename_i hc
   split at h
   ·cases h
   ·rename_i h1
    split at h
    ·cases h
    ·rename_i h2
     rw[if_pos hc,if_neg h1,if_neg h2];exact zjk r _ u d h hd hb
  ·cases h
theorem ze3 {u:Nat} (h:u<10):Lib.decDigits u=[UInt8.ofNat (48+u)]:=by rw[Lib.decDigits,dif_pos h]
theorem zi9 {u:Nat} (h:¬ u<10):Lib.decDigits u=Lib.decDigits (u / 10)++[UInt8.ofNat (48+u % 10)]:=by rw[Lib.decDigits,dif_neg h]
theorem zxj (n:Nat):n<1000000000000000000→Lib.parseUint10 0 (Lib.decDigits n)=.ok n:=by
 induction n using Nat.strongRecOn with
 |ind n ih =>
  intro hn;by_cases h:n<10
  ·rw[ze3 h];have:=zjk [] 0 0 n rfl h (by omega);rw[Nat.zero_mul,Nat.zero_add,List.nil_append] at this;exact this
  ·rw[zi9 h];have:=zjk _ 0 (n / 10) (n % 10) (ih (n / 10) (by omega) (by omega)) (by omega) (by omega);rw[this]
   congr 1
   omega
theorem zj (n:Nat):∀ c∈Lib.decDigits n,48≤c.toNat∧c.toNat≤57:=by
 induction n using Nat.strongRecOn with
 |ind n ih =>
  by_cases h:n<10
  ·rw[ze3 h];intro c hc;rw[List.mem_singleton] at hc;subst hc;rw[zoz n h];omega
  ·rw[zi9 h];intro c hc;rcases List.mem_append.1 hc with hc|hc
   ·exact ih (n / 10) (by omega) c hc
   ·rw[List.mem_singleton] at hc;subst hc;rw[zoz _ (by omega)];omega
theorem zAg (n:Nat):Lib.decDigits n≠[]:=by
 by_cases h:n<10
 ·rw[ze3 h];simp
 ·rw[zi9 h];simp
theorem zga:∀ (k n:Nat),n<10 ^ (k+1)→(Lib.decDigits n).length≤k+1
 |0,n,h=>by rw[ze3 (by simpa using h)];simp
 |k+1,n,h=>by
  by_cases h10:n<10
  ·rw[ze3 h10];simp
  ·rw[zi9 h10,List.length_append];have:=zga k (n / 10) (by rw[Nat.pow_succ] at h;omega);simp only[List.length_cons,List.length_nil];omega
theorem znw (n:Nat) (hn:n<1000000000000000000):Lib.atoiAll (Lib.decDigits n)=.ok (n:Int):=by
 have hd:=zj n;have hp:=zxj n hn;cases hl:Lib.decDigits n with
 |nil=>exact absurd hl (zAg n)
 |cons c r =>
  rw[hl] at hd hp;have hc:=hd c (by simp);unfold Lib.atoiAll;dsimp only;rw[if_neg (by omega)];unfold Lib.parseMag;rw[if_neg (by simp),hp];dsimp only;rw[if_neg (by omega),if_neg (by omega),if_neg (by omega)]
def walW:Nm:=[119,97,108,45]
def zau:Nm:=[119,97,108,46,116,109,112]
def walNm (n:Nat):Nm:=walW++Lib.decDigits n
def zm6 (s:Nm):Nat:=if Lib.hasPrefix s walW=true then (match Lib.atoiAll (Lib.trimPrefix s walW) with
 |.ok v=>if 1≤v∧v≤1099511627776∧walNm v.toNat=s then v.toNat else 0
 |_=>0) else 0
theorem zxl (l:Nm):Lib.hasPrefix (walW++l) walW=true:=by
 unfold Lib.hasPrefix;exact List.isPrefixOf_iff_prefix.2 (List.prefix_append _ _)
theorem zA (l:Nm):Lib.trimPrefix (walW++l) walW=l:=by
 unfold Lib.trimPrefix;rw[if_pos (zxl l),List.drop_left]
theorem zhm (n:Nat) (h1:1≤n) (h2:n≤1099511627776):zm6 (walNm n)=n:=by
 unfold zm6 walNm;rw[if_pos (zxl _),zA,znw n (by omega)];dsimp only;rw[if_pos ⟨by omega,by omega,by rw[Int.toNat_natCast]⟩,Int.toNat_natCast]
theorem zxa {s:Nm} {n:Nat} (h:zm6 s=n) (hn:0<n):s=walNm n∧n≤1099511627776:=by
 unfold zm6 at h;split at h
 ·split at h
  ·split at h
   ·rename_i v _ hc
    obtain⟨h1,h2,h3⟩:=hc;subst h;exact⟨h3.symm,by omega⟩
   ·omega
  ·omega
 ·omega
theorem walNm_inj {a b:Nat} (ha:a<1000000000000000000) (hb:b<1000000000000000000) (h:walNm a=walNm b):a=b:=by
 have h1:=List.append_cancel_left h;have h2:=znw a ha;rw[h1,znw b hb] at h2;have:=Lib.NumEnd.ok.inj h2;omega
theorem walNm_len (n:Nat) (hn:n<10000000000000):(walNm n).length≤17:=by
 unfold walNm;rw[List.length_append];have:=zga 12 n hn;simp only[walW,List.length_cons,List.length_nil];omega
theorem walNm_ok (n:Nat) (hn:n<10000000000000):zgd (walNm n)=true:=by
 have hl:=walNm_len n hn;unfold zgd;rw[decide_eq_true (by unfold walNm walW;simp),decide_eq_true (by omega),Bool.true_and,Bool.true_and,List.all_eq_true];intro c hc;rcases List.mem_append.1 hc with hc|hc
 ·have hw:∀ c∈walW,stands c.toNat=true:=by decide
  exact hw c hc
 ·have:=zj n c hc;unfold stands;rw[decide_eq_true this.1,decide_eq_true this.2];simp
theorem zlr (n:Nat):walNm n≠zau:=by
 intro h;have:=congrArg (fun l=>l.drop 3) h;simp[walNm,walW,zau] at this
end
end Go.Proofs.YtofllbpfajppeaaGreatDoor
section
namespace Go.Proofs
open Go.Shelf
def Tryz.lays103_ren:Go.Shelf.Ren:=⟨fun|103=>119|210=>151|206=>182|n=>n,fun|9=>9|4=>4|24=>155|3=>3|n=>n,fun|n=>n⟩
theorem Tryz.lays103:Go.Proofs.Lays.n103 Tryz.prog Tryz.lays103_ren:={
 mixed:=by kernel_rfl
 f103:=Tryz.func119.trans (congrArg some (by kernel_rfl))
 f206:=Tryz.func182.trans (congrArg some (by kernel_rfl))
 f210:=Tryz.func151.trans (congrArg some (by kernel_rfl))
 t3:=Tryz.underlying3
 a3:=Tryz.isAgg3
 z3:=Tryz.sizeOf3
 v3:=Tryz.zeroValue3
 t4:=Tryz.underlying4
 a4:=Tryz.isAgg4
 z4:=Tryz.sizeOf4
 v4:=Tryz.zeroValue4
 t9:=Tryz.underlying9
 a9:=Tryz.isAgg9
 z9:=Tryz.sizeOf9
 v9:=Tryz.zeroValue9
 t24:=Tryz.underlying155
 a24:=Tryz.isAgg155
 z24:=Tryz.sizeOf155
 v24:=Tryz.zeroValue155 }
open Go.RowKit in
theorem Tryz.strings_CutPrefix (s p:ByteArray) (w:World) :
  Calls Tryz.prog 119 #[.string s,.string p] w fun e w'=>e=.returned (.tuple #[.string ⟨(Lib.trimPrefix s.data.toList p.data.toList).toArray⟩,.bool (Lib.hasPrefix s.data.toList p.data.toList)])∧w'=w:=Any.strings_CutPrefix Tryz.lays103 s p w
def Tryz.laysM171_ren:Go.Shelf.Ren:=⟨fun|171=>97|243=>128|246=>161|283=>193|284=>194|285=>195|286=>196|129=>181|317=>217|318=>218|319=>219|320=>220|337=>231|338=>232|n=>n,fun|3=>3|9=>9|2=>2|4=>4|171=>219|0=>0|53=>212|37=>62|5=>5|173=>221|212=>242|51=>179|20=>20|213=>243|46=>186|232=>257|233=>258|n=>n,fun|17=>2|18=>3|19=>4|n=>n⟩
theorem Tryz.laysM171:Go.Proofs.LaysM.n171 Tryz.prog Tryz.laysM171_ren:={
 mixed:=by kernel_rfl
 f129:=Tryz.func181.trans (congrArg some (by kernel_rfl))
 f171:=Tryz.func97.trans (congrArg some (by kernel_rfl))
 f243:=Tryz.func128.trans (congrArg some (by kernel_rfl))
 f246:=Tryz.func161.trans (congrArg some (by kernel_rfl))
 f283:=Tryz.func193.trans (congrArg some (by kernel_rfl))
 f284:=Tryz.func194.trans (congrArg some (by kernel_rfl))
 f285:=Tryz.func195.trans (congrArg some (by kernel_rfl))
 f286:=Tryz.func196.trans (congrArg some (by kernel_rfl))
 f317:=Tryz.func217.trans (congrArg some (by kernel_rfl))
 f318:=Tryz.func218.trans (congrArg some (by kernel_rfl))
 f319:=Tryz.func219.trans (congrArg some (by kernel_rfl))
 f320:=Tryz.func220.trans (congrArg some (by kernel_rfl))
 f337:=Tryz.func231.trans (congrArg some (by kernel_rfl))
 f338:=Tryz.func232.trans (congrArg some (by kernel_rfl))
 t0:=Tryz.underlying0
 a0:=Tryz.isAgg0
 z0:=Tryz.sizeOf0
 v0:=Tryz.zeroValue0
 t2:=Tryz.underlying2
 a2:=Tryz.isAgg2
 z2:=Tryz.sizeOf2
 v2:=Tryz.zeroValue2
 t3:=Tryz.underlying3
 a3:=Tryz.isAgg3
 z3:=Tryz.sizeOf3
 v3:=Tryz.zeroValue3
 t4:=Tryz.underlying4
 a4:=Tryz.isAgg4
 z4:=Tryz.sizeOf4
 v4:=Tryz.zeroValue4
 t5:=Tryz.underlying5
 a5:=Tryz.isAgg5
 z5:=Tryz.sizeOf5
 v5:=Tryz.zeroValue5
 t9:=Tryz.underlying9
 a9:=Tryz.isAgg9
 z9:=Tryz.sizeOf9
 v9:=Tryz.zeroValue9
 t20:=Tryz.underlying20
 a20:=Tryz.isAgg20
 z20:=Tryz.sizeOf20
 v20:=Tryz.zeroValue20
 t37:=Tryz.underlying62
 a37:=Tryz.isAgg62
 z37:=Tryz.sizeOf62
 v37:=Tryz.zeroValue62
 t46:=Tryz.underlying186
 a46:=Tryz.isAgg186
 z46:=Tryz.sizeOf186
 v46:=Tryz.zeroValue186
 t51:=Tryz.underlying179
 a51:=Tryz.isAgg179
 z51:=Tryz.sizeOf179
 v51:=Tryz.zeroValue179
 t53:=Tryz.underlying212
 a53:=Tryz.isAgg212
 z53:=Tryz.sizeOf212
 v53:=Tryz.zeroValue212
 t171:=Tryz.underlying219
 a171:=Tryz.isAgg219
 z171:=Tryz.sizeOf219
 v171:=Tryz.zeroValue219
 t173:=Tryz.underlying221
 a173:=Tryz.isAgg221
 z173:=Tryz.sizeOf221
 v173:=Tryz.zeroValue221
 t212:=Tryz.underlying242
 a212:=Tryz.isAgg242
 z212:=Tryz.sizeOf242
 v212:=Tryz.zeroValue242
 t213:=Tryz.underlying243
 a213:=Tryz.isAgg243
 z213:=Tryz.sizeOf243
 t232:=Tryz.underlying257
 a232:=Tryz.isAgg257
 z232:=Tryz.sizeOf257
 v232:=Tryz.zeroValue257
 t233:=Tryz.underlying258
 a233:=Tryz.isAgg258
 z233:=Tryz.sizeOf258
 v233:=Tryz.zeroValue258
 g17:=by kernel_rfl
 g18:=by kernel_rfl
 g19:=by kernel_rfl
 i0:=by kernel_rfl
 i2:=by kernel_rfl
 i3:=by kernel_rfl
 i4:=by kernel_rfl
 i5:=by kernel_rfl
 i9:=by kernel_rfl
 i20:=by kernel_rfl
 i37:=by kernel_rfl
 i46:=by kernel_rfl
 i51:=by kernel_rfl
 i53:=by kernel_rfl
 i171:=by kernel_rfl
 i173:=by kernel_rfl
 i212:=by kernel_rfl
 i232:=by kernel_rfl
 i233:=by kernel_rfl
 m17:=by kernel_rfl
 m18:=by kernel_rfl
 m19:=by kernel_rfl }
open Go.RowKit Go.Sort Go.Lib in
theorem Tryz.strconv_Itoa (n:Int) (h0:-9223372036854775808≤n) (h1:n≤9223372036854775807) (w:World) (htab:Lib.TabIs Tryz.prog w "internal/strconv.uint64pow10" .u64 Lib.pow10Tab) :
  Calls Tryz.prog 97 #[.int .i64 n] w fun e w'=>e=.returned (.string ⟨(Lib.itoa n).toArray⟩)∧∃ k os,w'=grow (w.drewN k) os:=Any.strconv_Itoa Tryz.laysM171 n h0 h1 w htab
def Tryz.laysC172_ren:Go.Shelf.Ren:=⟨fun|172=>120|244=>152|245=>153|247=>183|279=>184|280=>185|281=>186|282=>187|287=>205|316=>206|171=>97|205=>207|321=>222|322=>223|243=>128|246=>161|283=>193|284=>194|285=>195|286=>196|129=>181|317=>217|318=>218|319=>219|320=>220|337=>231|338=>232|n=>n,fun|9=>9|3=>3|75=>158|76=>159|4=>4|5=>5|167=>213|37=>62|0=>0|85=>214|2=>2|168=>216|53=>212|175=>231|46=>186|210=>235|127=>248|145=>251|143=>249|21=>21|171=>219|173=>221|212=>242|51=>179|20=>20|213=>243|232=>257|233=>258|80=>58|n=>n,fun|15=>0|16=>1|17=>2|18=>3|19=>4|n=>n⟩
theorem Tryz.laysC172:Go.Proofs.LaysC.n172 Tryz.prog Tryz.laysC172_ren:={
 mixed:=by kernel_rfl
 f129:=Tryz.func181.trans (congrArg some (by kernel_rfl))
 f171:=Tryz.func97.trans (congrArg some (by kernel_rfl))
 f172:=Tryz.func120.trans (congrArg some (by kernel_rfl))
 f205:=Tryz.func207.trans (congrArg some (by kernel_rfl))
 f243:=Tryz.func128.trans (congrArg some (by kernel_rfl))
 f244:=Tryz.func152.trans (congrArg some (by kernel_rfl))
 f245:=Tryz.func153.trans (congrArg some (by kernel_rfl))
 f246:=Tryz.func161.trans (congrArg some (by kernel_rfl))
 f247:=Tryz.func183.trans (congrArg some (by kernel_rfl))
 f279:=Tryz.func184.trans (congrArg some (by kernel_rfl))
 f280:=Tryz.func185.trans (congrArg some (by kernel_rfl))
 f281:=Tryz.func186.trans (congrArg some (by kernel_rfl))
 f282:=Tryz.func187.trans (congrArg some (by kernel_rfl))
 f283:=Tryz.func193.trans (congrArg some (by kernel_rfl))
 f284:=Tryz.func194.trans (congrArg some (by kernel_rfl))
 f285:=Tryz.func195.trans (congrArg some (by kernel_rfl))
 f286:=Tryz.func196.trans (congrArg some (by kernel_rfl))
 f287:=Tryz.func205.trans (congrArg some (by kernel_rfl))
 f316:=Tryz.func206.trans (congrArg some (by kernel_rfl))
 f317:=Tryz.func217.trans (congrArg some (by kernel_rfl))
 f318:=Tryz.func218.trans (congrArg some (by kernel_rfl))
 f319:=Tryz.func219.trans (congrArg some (by kernel_rfl))
 f320:=Tryz.func220.trans (congrArg some (by kernel_rfl))
 f321:=Tryz.func222.trans (congrArg some (by kernel_rfl))
 f322:=Tryz.func223.trans (congrArg some (by kernel_rfl))
 f337:=Tryz.func231.trans (congrArg some (by kernel_rfl))
 f338:=Tryz.func232.trans (congrArg some (by kernel_rfl))
 t0:=Tryz.underlying0
 a0:=Tryz.isAgg0
 z0:=Tryz.sizeOf0
 v0:=Tryz.zeroValue0
 t2:=Tryz.underlying2
 a2:=Tryz.isAgg2
 z2:=Tryz.sizeOf2
 v2:=Tryz.zeroValue2
 t3:=Tryz.underlying3
 a3:=Tryz.isAgg3
 z3:=Tryz.sizeOf3
 v3:=Tryz.zeroValue3
 t4:=Tryz.underlying4
 a4:=Tryz.isAgg4
 z4:=Tryz.sizeOf4
 v4:=Tryz.zeroValue4
 t5:=Tryz.underlying5
 a5:=Tryz.isAgg5
 z5:=Tryz.sizeOf5
 v5:=Tryz.zeroValue5
 t9:=Tryz.underlying9
 a9:=Tryz.isAgg9
 z9:=Tryz.sizeOf9
 v9:=Tryz.zeroValue9
 t20:=Tryz.underlying20
 a20:=Tryz.isAgg20
 z20:=Tryz.sizeOf20
 v20:=Tryz.zeroValue20
 t21:=Tryz.underlying21
 a21:=Tryz.isAgg21
 z21:=Tryz.sizeOf21
 v21:=Tryz.zeroValue21
 t37:=Tryz.underlying62
 a37:=Tryz.isAgg62
 z37:=Tryz.sizeOf62
 v37:=Tryz.zeroValue62
 t46:=Tryz.underlying186
 a46:=Tryz.isAgg186
 z46:=Tryz.sizeOf186
 v46:=Tryz.zeroValue186
 t51:=Tryz.underlying179
 a51:=Tryz.isAgg179
 z51:=Tryz.sizeOf179
 v51:=Tryz.zeroValue179
 t53:=Tryz.underlying212
 a53:=Tryz.isAgg212
 z53:=Tryz.sizeOf212
 v53:=Tryz.zeroValue212
 t75:=Tryz.underlying158
 a75:=Tryz.isAgg158
 z75:=Tryz.sizeOf158
 v75:=Tryz.zeroValue158
 t76:=Tryz.underlying159
 a76:=Tryz.isAgg159
 z76:=Tryz.sizeOf159
 v76:=Tryz.zeroValue159
 t85:=Tryz.underlying214
 a85:=Tryz.isAgg214
 z85:=Tryz.sizeOf214
 v85:=Tryz.zeroValue214
 t127:=Tryz.underlying248
 a127:=Tryz.isAgg248
 z127:=Tryz.sizeOf248
 v127:=Tryz.zeroValue248
 t143:=Tryz.underlying249
 a143:=Tryz.isAgg249
 z143:=Tryz.sizeOf249
 v143:=Tryz.zeroValue249
 t145:=Tryz.underlying251
 a145:=Tryz.isAgg251
 z145:=Tryz.sizeOf251
 v145:=Tryz.zeroValue251
 t167:=Tryz.underlying213
 a167:=Tryz.isAgg213
 z167:=Tryz.sizeOf213
 v167:=Tryz.zeroValue213
 t168:=Tryz.underlying216
 a168:=Tryz.isAgg216
 z168:=Tryz.sizeOf216
 v168:=Tryz.zeroValue216
 t171:=Tryz.underlying219
 a171:=Tryz.isAgg219
 z171:=Tryz.sizeOf219
 v171:=Tryz.zeroValue219
 t173:=Tryz.underlying221
 a173:=Tryz.isAgg221
 z173:=Tryz.sizeOf221
 v173:=Tryz.zeroValue221
 t175:=Tryz.underlying231
 a175:=Tryz.isAgg231
 z175:=Tryz.sizeOf231
 v175:=Tryz.zeroValue231
 t210:=Tryz.underlying235
 a210:=Tryz.isAgg235
 z210:=Tryz.sizeOf235
 v210:=Tryz.zeroValue235
 t212:=Tryz.underlying242
 a212:=Tryz.isAgg242
 z212:=Tryz.sizeOf242
 v212:=Tryz.zeroValue242
 t213:=Tryz.underlying243
 a213:=Tryz.isAgg243
 z213:=Tryz.sizeOf243
 t232:=Tryz.underlying257
 a232:=Tryz.isAgg257
 z232:=Tryz.sizeOf257
 v232:=Tryz.zeroValue257
 t233:=Tryz.underlying258
 a233:=Tryz.isAgg258
 z233:=Tryz.sizeOf258
 v233:=Tryz.zeroValue258
 g15:=by kernel_rfl
 g16:=by kernel_rfl
 g17:=by kernel_rfl
 g18:=by kernel_rfl
 g19:=by kernel_rfl
 t80:=Tryz.underlying58
 a80:=Tryz.isAgg58
 z80:=Tryz.sizeOf58
 v80:=Tryz.zeroValue58
 i0:=by kernel_rfl
 i2:=by kernel_rfl
 i3:=by kernel_rfl
 i4:=by kernel_rfl
 i5:=by kernel_rfl
 i9:=by kernel_rfl
 i20:=by kernel_rfl
 i21:=by kernel_rfl
 i37:=by kernel_rfl
 i46:=by kernel_rfl
 i51:=by kernel_rfl
 i53:=by kernel_rfl
 i75:=by kernel_rfl
 i76:=by kernel_rfl
 i80:=by kernel_rfl
 i85:=by kernel_rfl
 i127:=by kernel_rfl
 i143:=by kernel_rfl
 i145:=by kernel_rfl
 i167:=by kernel_rfl
 i168:=by kernel_rfl
 i171:=by kernel_rfl
 i173:=by kernel_rfl
 i175:=by kernel_rfl
 i210:=by kernel_rfl
 i212:=by kernel_rfl
 i232:=by kernel_rfl
 i233:=by kernel_rfl
 m15:=by kernel_rfl
 m16:=by kernel_rfl
 m17:=by kernel_rfl
 m18:=by kernel_rfl
 m19:=by kernel_rfl
 c0:=by kernel_rfl
 c2:=by kernel_rfl
 c3:=by kernel_rfl
 c4:=by kernel_rfl
 c5:=by kernel_rfl
 c9:=by kernel_rfl
 c20:=by kernel_rfl
 c21:=by kernel_rfl
 c37:=by kernel_rfl
 c46:=by kernel_rfl
 c51:=by kernel_rfl
 c53:=by kernel_rfl
 c75:=by kernel_rfl
 c76:=by kernel_rfl
 c80:=by kernel_rfl
 c85:=by kernel_rfl
 c127:=by kernel_rfl
 c143:=by kernel_rfl
 c145:=by kernel_rfl
 c167:=by kernel_rfl
 c168:=by kernel_rfl
 c171:=by kernel_rfl
 c173:=by kernel_rfl
 c175:=by kernel_rfl
 c210:=by kernel_rfl
 c212:=by kernel_rfl
 c213:=by kernel_rfl
 c232:=by kernel_rfl
 c233:=by kernel_rfl }
open Go.RowKit in
theorem Tryz.strconv_Atoi_ok (s:ByteArray) (hmax:s.size≤9223372036854775806) (v:Int) (h:Lib.atoiAll s.data.toList=.ok v) (w:World) :
  Calls Tryz.prog 120 #[.string s] w fun e w'=>e=.returned (.tuple #[.int .i64 v,.nilIface])∧(w'=w∨∃ t,w'=Lib.bytesWorld w 5 t):=Any.strconv_Atoi_ok Tryz.laysC172 s hmax v h w
open Go.RowKit in
theorem Tryz.strconv_Atoi_syntax (s:ByteArray) (hlim:s.size≤281474976710656) (h:Lib.atoiAll s.data.toList=.«syntax») (ev:Value) (w:World) (hv:w.cell? ⟨0,0,none⟩=some ev) (hev:ev=.nilIface∨∃ te pe,ev=.iface te pe) :
  Calls Tryz.prog 120 #[.string s] w fun e w'=>∃ N,e=.returned (.tuple #[.int .i64 (0),.iface 216 (.pointer (some ⟨N,0,none⟩))])∧w.heap.size≤N∧w'.heap[N]? = some (.cells #[.string ⟨#[65,116,111,105]⟩,.string s,ev] 235 (0,0))∧Below w.heap.size w w':=Any.strconv_Atoi_syntax Tryz.laysC172 s hlim h ev w hv hev
open Go.RowKit in
theorem Tryz.strconv_Atoi_range (s:ByteArray) (hlim:s.size≤281474976710656) (h:Lib.atoiAll s.data.toList=.range) (ev:Value) (w:World) (hv:w.cell? ⟨1,0,none⟩=some ev) (hev:ev=.nilIface∨∃ te pe,ev=.iface te pe) :
  Calls Tryz.prog 120 #[.string s] w fun e w'=>∃ N,e=.returned (.tuple #[.int .i64 (Lib.atoiSat s.data.toList),.iface 216 (.pointer (some ⟨N,0,none⟩))])∧w.heap.size≤N∧w'.heap[N]? = some (.cells #[.string ⟨#[65,116,111,105]⟩,.string s,ev] 235 (0,0))∧Below w.heap.size w w':=Any.strconv_Atoi_range Tryz.laysC172 s hlim h ev w hv hev
end Go.Proofs
end
namespace Go.Proofs.YtofllbpfajppeaaGreatDoor
section
open Go.ChangeShapes Go.WideShapes Go.ChangeAt Go.RowKit Go.Maps
section
variable {base d M room N:Nat} {w w':World} {fs fs':List Fe}
theorem zuk (h:DiskAt base w d M room N fs) (hbs:base≤w.heap.size) (hN:N≤1000000) (s:ByteArray) (hs:s.size≤maxLen) (z:Int) :
  Calls Tryz.prog 96 #[.pointer (some ⟨d,0,none⟩),.string s,.int .i64 z] w (zh9 base d M room (N+1) w fs (zf s.data.toList z (sps fs))):=by
 have HS:=zaa (zgj s.data.toList fs);cases hg:zcc s.data.toList fs with
 |none =>
  have F1:=zaa (zkn h s hs hg);have E1:=zaa (zh9.stay (w:=w) (r:=zf s.data.toList z (sps fs)) (e:=.returned (.int .i64 8)) (h.mono (Nat.le_succ N)) (by simp[zf,za HS,hg]) (by simp[zf,za HS,hg]));clear h hbs hg HS;go_enter Tryz.func96,Tryz.ntmps96
  go_wp2_with (go_at_call 81;refine(za F1).mono ?_;rintro e w' ⟨rfl,rfl⟩)
  go_ret
  exact za E1
 |some x =>
  obtain⟨F,f⟩:=x;have hm:=zcp hg;have F1:=zaa (zhk h s hs F f hg);have hn:f.sp.now=f.b:=h.nows hm;have c0:=(h.file _ hm).c0;simp only at c0;by_cases hz:z<0∨z > f.b.length
  ·have hdc:zf s.data.toList z (sps fs)=(2,sps fs):=by
    simp only[zf,za HS,hg,Option.map_some,hn];rw[if_pos hz]
   have E1:=zaa (zh9.stay (w:=w) (r:=zf s.data.toList z (sps fs)) (e:=.returned (.int .i64 2)) (h.mono (Nat.le_succ N)) (by rw[hdc];rfl) (by rw[hdc]));clear h hbs hg HS hm hn hdc;generalize f.b.length=n at *;by_cases hz0:z<0
   ·clear hz;go_enter Tryz.func96,Tryz.ntmps96
    go_wp2_with (go_at_call 81;refine(za F1).mono ?_;rintro e w' ⟨rfl,rfl⟩)
    go_ret
    exact za E1
   ·have hz1:(n:Int)<z:=by omega
    clear hz;go_enter Tryz.func96,Tryz.ntmps96
    go_wp2_with (go_at_call 81;refine(za F1).mono ?_;rintro e w' ⟨rfl,rfl⟩)
    go_ret
    exact za E1
  ·obtain⟨k,rfl⟩:∃ k:Nat,z=(k:Int):=⟨z.toNat,by omega⟩
   have hk:k≤f.b.length:=by omega
   have S1:=zaa (zwl base w F f (h.file _ hm) k hk (by have:=(h.ok _ hm).few;simp only at this;omega) hbs)
   have E1:=zaa (show ∀ w' cp cc,FileAt base w' F ((f.shorter k).more cp cc ((true,k,[]),(none,0)))→FGrew F w f w' ((f.shorter k).more cp cc ((true,k,[]),(none,0)))→zh9 base d M room (N+1) w fs (zf s.data.toList (k:Int) (sps fs)) (.returned (.int .i64 0)) w' from fun w' cp cc hf hg'=>by
    obtain⟨k1,k2⟩:=h.upd (w':=w') hm hf hg' ((h.ok _ hm).cut k hk cp cc) (Nat.le_succ N);have hdc:zf s.data.toList (k:Int) (sps fs)=(0,zbi s.data.toList ⟨f.sp.la,f.sp.y,f.sp.cs++[(true,k,[])]⟩ (sps fs)):=by
     simp only[zf,za HS,hg,Option.map_some,hn];rw[if_neg hz];rfl
    rw[hdc];refine⟨rfl,_,k1,k2,?_⟩;rw[zlm]
    simp[Fil.sp,Fil.more,Fil.shorter])
   have hz0:¬ ((k:Int)<0):=by omega
   have hz1:¬ ((f.b.length:Int)<(k:Int)):=by omega
   clear h hbs hg HS hm hn hz hk;generalize f.b.length=n at *;go_enter Tryz.func96,Tryz.ntmps96
   go_wp2_with (first
    |(go_at_call 81;refine(za F1).mono ?_;rintro e w' ⟨rfl,rfl⟩)
    |(go_at_call 127;refine(za S1).mono ?_;rintro e W ⟨rfl,cp,cc,hf,hg⟩;have E2:=zaa (za E1 W cp cc hf hg);clear hf hg))
   go_ret
   exact za E2
theorem zwp (h:DiskAt base w d M room N fs) (s:ByteArray) (hs:s.size≤maxLen) (F:Nat) (f:Fil) (hg:zcc s.data.toList fs=some (F,f)) :
  Calls Tryz.prog 44 #[.pointer (some ⟨d,0,none⟩),.string s] w fun e w'=>∃ sp n,e=.returned (.tuple #[.slice sp n n,.int .i64 0])∧f.sp.now.length=n∧n≤262144∧Bx w.heap.size w' sp n f.sp.now∧Below w.heap.size w w':=by
 have hm:=zcp hg;have F1:=zaa (zhk h s hs F f hg);rw[show f.sp.now=f.b from h.nows hm];have c0:=(h.file _ hm).c0;simp only at c0;have h8:f.b.length≤262144:=(h.ok _ hm).b8;have S1:=zaa (zc9 f.bp f.b.length f.bc f.b w rfl (by omega) (h.file _ hm).bytes.bytes (h.file _ hm).bytes.nil0);have HN:=zaa (rfl:f.b.length=f.b.length);clear h hg hm;generalize hn:f.b.length=n at c0 h8 S1 HN;have HN2:=zaa hn;clear hn HN;go_enter Tryz.func44,Tryz.ntmps44
 go_wp2_with (first
  |(go_at_call 81;refine(za F1).mono ?_;rintro e w' ⟨rfl,rfl⟩)
  |(go_at_call 82;refine(za S1).mono ?_;rintro e W ⟨sp,rfl,hx,hb⟩;have X1:=zaa hx;have B1:=zaa hb;clear hx hb))
 go_ret2
 exact⟨sp,n,rfl,by first|exact za HN2|rfl,h8,za X1,za B1⟩
theorem zy2 (h:DiskAt base w d M room N fs) (s:ByteArray) (hs:s.size≤maxLen) (hg:zcc s.data.toList fs=none) :
  Calls Tryz.prog 44 #[.pointer (some ⟨d,0,none⟩),.string s] w fun e w'=>e=.returned (.tuple #[.slice none 0 0,.int .i64 8])∧w'=w:=by
 have F1:=zaa (zkn h s hs hg);clear h hg;go_enter Tryz.func44,Tryz.ntmps44
 go_wp2_with (go_at_call 81;refine(za F1).mono ?_;rintro e w' ⟨rfl,rfl⟩)
 go_ret2
 exact⟨rfl,rfl⟩
theorem zwq (h:DiskAt base w d M room N fs) (s:ByteArray) (hs:s.size≤maxLen) (F:Nat) (f:Fil) (hg:zcc s.data.toList fs=some (F,f)) (hla:f.sp.la=true) :
  Calls Tryz.prog 46 #[.pointer (some ⟨d,0,none⟩),.string s] w fun e w'=>∃ sp n,e=.returned (.tuple #[.slice sp n n,.int .i64 0])∧f.sp.y.length=n∧n≤262144∧Bx w.heap.size w' sp n f.sp.y∧Below w.heap.size w w':=by
 have hm:=zcp hg;have F1:=zaa (zhk h s hs F f hg);have hla2:f.la=true:=hla;have c1:=(h.file _ hm).c1;have c2:=(h.file _ hm).c2;simp only at c1 c2;rw[hla2] at c2;have h8:f.y.length≤262144:=(h.ok _ hm).y8;have S1:=zaa (zc9 f.yp f.y.length f.yc f.y w rfl (by omega) (h.file _ hm).sure.bytes (h.file _ hm).sure.nil0);have HN:=zaa (rfl:f.y.length=f.y.length);clear h hg hm hla hla2;show Calls _ _ _ _ fun e w'=>∃ sp n,e=.returned (.tuple #[.slice sp n n,.int .i64 0])∧f.y.length=n∧n≤262144∧Bx w.heap.size w' sp n f.y∧Below w.heap.size w w'
 generalize hn:f.y.length=n at c1 h8 S1 HN;have HN2:=zaa hn;clear hn HN;go_enter Tryz.func46,Tryz.ntmps46
 go_wp2_with (first
  |(go_at_call 81;refine(za F1).mono ?_;rintro e w' ⟨rfl,rfl⟩)
  |(go_at_call 82;refine(za S1).mono ?_;rintro e W ⟨sp,rfl,hx,hb⟩;have X1:=zaa hx;have B1:=zaa hb;clear hx hb))
 go_ret2
 exact⟨sp,n,rfl,by first|exact za HN2|rfl,h8,za X1,za B1⟩
theorem DiskAt.new (w:World) (hb:base≤w.heap.size) (room:Nat):DiskAt base ((w.alloc (.map #[] 0)).alloc (.cells #[.int .i64 (room:Int),.map (some w.heap.size)] 94)) (w.heap.size+1) w.heap.size room 0 []:=by
 have hs:(w.alloc (.map #[] 0)).heap.size=w.heap.size+1:=by simp
 have b1:Below (w.alloc (.map #[] 0)).heap.size (w.alloc (.map #[] 0)) ((w.alloc (.map #[] 0)).alloc (.cells #[.int .i64 (room:Int),.map (some w.heap.size)] 94)):=(Below.refl _ _).alloc (Nat.le_refl _) _;refine⟨?_,(MapAt.made w).later b1,List.Pairwise.nil,by simp,by simp,by omega,hb,by simp,by simp,by simp,by simp⟩;rw[← hs];exact zad _ _
theorem zum (w:World) (hb:base≤w.heap.size) (z:Int):Calls Tryz.prog 25 #[.int .i64 z] w fun e w'=>e=.returned (.pointer (some ⟨w.heap.size+1,0,none⟩))∧DiskAt base w' (w.heap.size+1) w.heap.size z.toNat 0 []∧Below w.heap.size w w':=by
 have HD:=zaa (DiskAt.new (base:=base) w hb z.toNat);have HB:=zaa (show Below w.heap.size w ((w.alloc (.map #[] 0)).alloc (.cells #[.int .i64 (z.toNat:Int),.map (some w.heap.size)] 94)) from((Below.refl _ _).alloc (Nat.le_refl _) _).alloc (by simp) _);have hmk:=@run_makeMap Tryz.prog;have hmx:max z 0=(z.toNat:Int):=by omega
 generalize z.toNat=r at *;clear hb;go_enter Tryz.func25,Tryz.ntmps25
 go_wp2
 go_ret
 exact⟨rfl,za HD,za HB⟩
end
theorem zus (c:Array Value) (w:World):(callFunc 170 c).run Tryz.prog w=.ok (.enter 170 c) w:=by
 simp[callFunc,go_sem,Tryz.func170];rw[if_neg (by decide +kernel),if_neg (fun h=>by cases h)]
theorem zs1 (s:ByteArray) (F U:Nat) (bp:Option Addr) (n c u:Nat) (w:World) (hU:w.heap[U]? = some (.cells #[.int .i64 (u:Int)] 3 (0,0))) (hF:w.cell? ⟨F,0,none⟩=some (.slice bp n c)) (hn:u+n≤4611686018427387904) :
  Calls Tryz.prog 170 #[.string s,.pointer (some ⟨F,0,none⟩),.pointer (some ⟨U,0,none⟩)] w fun e w'=>e=.returned (.tuple #[])∧w'.heap[U]? = some (.cells #[.int .i64 ((u+n:Nat):Int)] 3 (0,0))∧w.grownBy w' (some U)∧w'.heap.size=w.heap.size:=by
 have c0:=zan hU 0 (.int .i64 (u:Int)) rfl;have z0:=zio hU 0;have hw:IntKind.i64.wrap ((u:Int)+(n:Int))=(u:Int)+(n:Int):=by rw[IntKind.wrap_i64];omega
 have HU:=zaa hU;clear hU;go_enter Tryz.func170,Tryz.ntmps170
 go_region
 all_goals
  go_wp2
  go_end0
  have hg:=zaf w U 0 (.int .i64 ((u:Int)+(n:Int)));exact⟨rfl,by rw[show((u+n:Nat):Int)=(u:Int)+(n:Int) by omega];exact heap_setCell_same w U 0 #[.int .i64 (u:Int)] 3 (.int .i64 ((u:Int)+(n:Int))) (za HU),⟨hg.os,hg.tape,hg.output,hg.size,hg.block⟩,by simp[World.setCell]⟩
def zhx (fs:List Fe):Nat:=(fs.map (fun x=>x.2.2.b.length)).sum
theorem zt5:∀ (fs:List Fe),(∀ x∈fs,x.2.2.b.length≤262144)→zhx fs≤fs.length*262144
 |[],_=>by simp[zhx]
 |x::r,h=>by
  have h1:=zt5 r (fun y hy=>h y (List.mem_cons_of_mem _ hy));have h2:=h x List.mem_cons_self;simp only[zhx,List.map_cons,List.sum_cons,List.length_cons] at h1 ⊢;omega
theorem znm (fs:List Fe) (i:Nat) (hi:i<fs.length):zhx (fs.take (i+1))=zhx (fs.take i)+fs[i].2.2.b.length:=by
 rw[List.take_succ_eq_append_getElem hi];simp only[zhx,List.map_append,List.map_cons,List.map_nil,List.sum_append_nat,List.sum_cons,List.sum_nil,Nat.add_zero]
theorem zo0 (fs:List Fe) (i:Nat):zhx (fs.take i)≤zhx fs:=by
 have:zhx fs=zhx (fs.take i)+zhx (fs.drop i):=by
  unfold zhx;rw[← List.sum_append_nat,← List.map_append,List.take_append_drop]
 omega
section
variable {base d M room N:Nat} {w w':World} {fs fs':List Fe}
theorem DiskAt.usedS (h:DiskAt base w d M room N fs):usedS (sps fs)=zhx fs:=by
 unfold Go.Proofs.YtofllbpfajppeaaGreatDoor.usedS zhx sps;rw[List.map_map]
 congr 1
 exact List.map_congr_left (fun x hx=>by show x.2.2.sp.now.length=_;rw[h.nows hx])
theorem DiskAt.used_le (h:DiskAt base w d M room N fs):zhx fs≤4194304:=by
 have h1:=zt5 fs (fun x hx=>(h.ok x hx).b8);have:=h.few;omega
theorem DiskAt.still (h:DiskAt base w d M room N fs) (hs:∀ g,g<w.heap.size→w'.heap[g]? = w.heap[g]?):DiskAt base w' d M room N fs:=h.same (fun g hg _=>hs g hg)
theorem DiskAt.lookAt (h:DiskAt base w d M room N fs) (i:Nat) (hi:i<fs.length):(Instr.lookup 92 (.map (some M)) (.string (str fs[i].1)) false).run Tryz.prog w=.ok (.pointer (some ⟨fs[i].2.1,0,none⟩)) w :=
 (h.map.look_yes (str fs[i].1) (by rw[zb];have:=h.names _ (List.getElem_mem hi);simp only[maxLen];omega) fs[i].2.1 (List.mem_map.2 ⟨fs[i],List.getElem_mem hi,rfl⟩)).2
theorem zkk (h:DiskAt base w d M room N fs):Calls Tryz.prog 138 #[.pointer (some ⟨d,0,none⟩)] w fun e w'=>e=.returned (.int .i64 (usedS (sps fs):Int))∧Below w.heap.size w w':=by
 have b0:Below w.heap.size w (w.alloc (.cells #[.int .i64 0] 3)):=(Below.refl _ _).alloc (Nat.le_refl _) _;have hW:(w.alloc (.cells #[.int .i64 0] 3)).heap.size=w.heap.size+1:=by simp
 have hU0:=zad w (.cells #[.int .i64 0] 3)
 have EC:=zaa (zja base d M room N (w.alloc (.cells #[.int .i64 0] 3)) fs (h.later b0) 170 #[.pointer (some ⟨w.heap.size,0,none⟩)] zus
  (fun w'=>w'.heap[w.heap.size]? = some (.cells #[.int .i64 (usedS (sps fs):Int)] 3 (0,0))∧Below w.heap.size w w') (fun W0 hb=>by
   have hbW:Below w.heap.size w W0:=b0.trans (hb.mono b0.size);refine⟨fun i w1=>w1.heap[w.heap.size]? = some (.cells #[.int .i64 (zhx (fs.take i):Int)] 3 (0,0))∧W0.grownBy w1 (some w.heap.size),⟨?_,?_⟩,?_,?_,?_⟩
   ·rw[hb.block w.heap.size (by omega)];exact hU0
   ·exact zdf _ _
   ·rintro i w1 ⟨_,hg⟩ g hg1 hg2;exact hg.block g hg2 (fun e=>by have:=Option.some.inj e;omega)
   ·rintro i hi w1 ⟨hU,hg⟩;have hs:∀ g,g<w.heap.size→w1.heap[g]? = w.heap[g]?:=fun g hlt=>(hg.block g (Nat.lt_of_lt_of_le hlt hbW.size) (fun e=>by have:=Option.some.inj e;omega)).trans (hbW.block g hlt);have h1:=h.still hs;refine⟨h1.c1,h1.lookAt i hi,?_⟩;have hx:=h1.file _ (List.getElem_mem hi);have hle:=zo0 fs (i+1);have hu:=h.used_le;rw[znm fs i hi] at hle;refine(zs1 (str fs[i].1) fs[i].2.1 w.heap.size _ _ _ _ w1 hU hx.c0 (by omega)).mono ?_;rintro e w2 ⟨rfl,hU2,hg2,_⟩;refine⟨rfl,?_,hg.trans hg2⟩;rw[znm fs i hi];exact hU2
   ·rintro w1 ⟨hU,hg⟩;rw[List.take_length] at hU;refine⟨by rw[h.usedS];exact hU,?_⟩
    exact hbW.grown hg hbW.size (fun g e=>by have:=Option.some.inj e;omega)))
 clear h b0 hW hU0;go_enter Tryz.func138,Tryz.ntmps138
 go_wp2_with (go_at_call 54;refine(za EC).mono ?_;rintro e W ⟨rfl,hU,hB⟩;have c0:=zan hU 0 _ rfl;have HB:=zaa hB;clear hU hB)
 go_ret
 exact⟨rfl,za HB⟩
end
section
variable {base d M room N:Nat} {w w' w0:World} {fs fs':List Fe}
theorem DiskAt.drew (h:DiskAt base w d M room N fs):DiskAt base w.drew d M room N fs:=h.still (fun _ _=>rfl)
theorem DiskAt.inj (h:DiskAt base w d M room N fs) {y z a b:Fe} (hy:y∈fs) (hz:z∈fs) (hne:y.1≠z.1) (ha:a∈fs) (hb:b∈fs) (ea:y.2=a.2) (eb:z.2=b.2):a.1≠b.1:=by
 intro e;have:=h.rise.one ha hb e;subst this;have h1:y.2.1=z.2.1:=by rw[ea,eb]
 exact h.ap y hy z hz hne y.2.1 (.inl rfl) (by rw[h1];exact .inl rfl)
theorem DiskAt.restore (h:DiskAt base w d M room N fs) (x:Fe) (hx:x∈fs) (hgr:w.grownBy w' (some M)) (hm:MapAt w' M (zbi x.1 x.2.1 (ptrs fs))):DiskAt base w' d M room N fs∧DGrew d M w fs w' fs:=by
 rw[zk2 (h.rise.map (fun x:Nat×Fil=>x.1)) (List.mem_map.2 ⟨x,hx,rfl⟩)] at hm;exact h.remap hgr hm h.rise (fun y hy=>⟨h.names y hy,y,hy,rfl⟩) (fun y hy z hz hne a ha b hb ea eb=>h.inj hy hz hne ha hb ea eb) h.few
theorem DiskAt.add (h:DiskAt base w d M room N fs) (k:Nm) (hk:k.length≤64) (hnew:zcc k fs=none) (F:Nat) (f:Fil) (hf:FileAt base w F f) (hok:FOk N f) (hfew:fs.length<16)
  (hmut:∀ g,f.mut F g→w0.heap.size≤g) (hred:∀ g,f.red g→w0.heap.size≤g) (h0:∀ g,znr d M fs g∨zua fs g→g<w0.heap.size) (hb0:Below w0.heap.size w0 w) (hgr:w.grownBy w' (some M)) (hm:MapAt w' M (zbi k F (ptrs fs))) :
  DiskAt base w' d M room N (zbi k (F,f) fs)∧DGrew d M w0 fs w' (zbi k (F,f) fs):=by
 have hkn:=zb8.1 hnew;have hmem:=fun (y:Fe)=>zb3 (k:=k) (v:=(F,f)) h.rise y;have hkk:∀ g,g<w.heap.size→g≠M→w'.heap[g]? = w.heap[g]?:=fun g hlt hne=>hgr.block g hlt (fun e=>hne (Option.some.inj e));have hMlt:M<w0.heap.size:=h0 M (.inl (.inr (.inl rfl)));have hxm:∀ x∈fs,∀ g,x.mut g→g<w0.heap.size:=fun x hx g hg=>h0 g (.inl (.inr (.inr ⟨x,hx,hg⟩)));have hxr:∀ x∈fs,∀ g,x.red g→g<w0.heap.size:=fun x hx g hg=>h0 g (.inr ⟨x,hx,hg⟩);refine⟨⟨(hkk d h.ltD h.dm).trans h.box,by rw[ztp];exact hm,h.rise.put _ _,?_,?_,h.lowD,h.lowM,?_,?_,?_,?_⟩,⟨hgr.os.trans hb0.os,hgr.tape.trans hb0.tape,hgr.output.trans hb0.output,Nat.le_trans hb0.size hgr.size,?_,?_,?_⟩⟩
 ·intro y hy;rcases(hmem y).1 hy with rfl|⟨hy,_⟩
  ·refine hf.same (fun g hg=>?_);rcases hg with hg|hg
   ·exact hkk g (hf.mut_lt hg).2 (fun e=>by have:=hmut g hg;omega)
   ·exact hkk g (hf.red_lt hg).2.1 (fun e=>by have:=hred g hg;omega)
  ·refine(h.file y hy).same (fun g hg=>?_);rcases hg with hg|hg
   ·exact hkk g ((h.file y hy).mut_lt hg).2 (fun e=>(h.notM hy).1 (e ▸ hg))
   ·exact hkk g ((h.file y hy).red_lt hg).2.1 (fun e=>(h.notM hy).2 (e ▸ hg))
 ·intro y hy;rcases(hmem y).1 hy with rfl|⟨hy,_⟩
  ·exact hok
  ·exact h.ok y hy
 ·intro y hy z hz hne g hyg hzg;rcases(hmem y).1 hy with rfl|⟨hy,_⟩ <;> rcases(hmem z).1 hz with rfl|⟨hz,_⟩
  ·exact hne rfl
  ·have h1:=hmut g hyg;have h2:=hxm z hz g hzg;omega
  ·have h1:=hmut g hzg;have h2:=hxm y hy g hyg;omega
  ·exact h.ap y hy z hz hne g hyg hzg
 ·intro y hy z hz g hyg hzg;rcases(hmem y).1 hy with rfl|⟨hy,_⟩ <;> rcases(hmem z).1 hz with rfl|⟨hz,_⟩
  ·exact hf.self hyg hzg
  ·have h1:=hmut g hyg;have h2:=hxr z hz g hzg;omega
  ·have h1:=hred g hzg;have h2:=hxm y hy g hyg;omega
  ·exact h.rd y hy z hz g hyg hzg
 ·rw[zdb h.rise,if_neg hkn];omega
 ·intro y hy;rcases(hmem y).1 hy with rfl|⟨hy,_⟩
  ·exact hk
  ·exact h.names y hy
 ·intro i hi hn;exact(hkk i (Nat.lt_of_lt_of_le hi hb0.size) (fun e=>hn (.inr (.inl e)))).trans (hb0.block i hi)
 ·intro g hg;rcases hg with e|e|⟨y,hy,hg⟩
  ·exact .inl (.inl e)
  ·exact .inl (.inr (.inl e))
  ·rcases(hmem y).1 hy with rfl|⟨hy,_⟩
   ·exact .inr (hmut g hg)
   ·exact .inl (.inr (.inr ⟨y,hy,hg⟩))
 ·rintro g ⟨y,hy,hg⟩;rcases(hmem y).1 hy with rfl|⟨hy,_⟩
  ·exact .inr (hred g hg)
  ·exact .inl ⟨y,hy,hg⟩
theorem FileAt.zero (w:World) (hb:base≤w.heap.size):FileAt base (w.alloc (.cells #[.slice none 0 0,.slice none 0 0,.bool false,.slice none 0 0] 122)) w.heap.size zo6 :=
 ⟨zad w _,Bx.ofNil _ _,Bx.ofNil _ _,OwnC.ofNil _ _,hb,fun g hg=>(by cases hg),fun x hx=>(by simp[zo6] at hx)⟩
theorem zn3 (F g:Nat):zo6.mut F g↔g=F:=by
 constructor
 ·rintro(h|h|h|h)
  ·exact h
  ·cases h
  ·cases h
  ·cases h
 ·exact .inl
theorem zy7 (g:Nat):¬ zo6.red g:=by rintro⟨x,hx,_⟩;simp[zo6] at hx
theorem zn1 (h:DiskAt base w d M room N fs) (a b:ByteArray) (ha:a.size≤maxLen) (hb:b.size≤maxLen) :
  Calls Tryz.prog 122 #[.pointer (some ⟨d,0,none⟩),.string a,.string b] w (zh9 base d M room N w fs (zak a.data.toList b.data.toList (sps fs))):=by
 have HS:=zaa (zgj a.data.toList fs);cases hg:zcc a.data.toList fs with
 |none =>
  have F1:=zaa (zkn h a ha hg);have E1:=zaa (zh9.stay (w:=w) (r:=zak a.data.toList b.data.toList (sps fs)) (e:=.returned (.int .i64 8)) h (by simp[zak,za HS,hg]) (by simp[zak,za HS,hg]));clear h hg HS;go_enter Tryz.func122,Tryz.ntmps122
  go_wp2_with (go_at_call 81;refine(za F1).mono ?_;rintro e w' ⟨rfl,rfl⟩)
  go_ret
  exact za E1
 |some x =>
  obtain⟨F,f⟩:=x;have F1:=zaa (zhk h a ha F f hg);have hnl:=zge b;cases hnm:zec b with
  |false =>
   have E1:=zaa (fun w' (hb:Below w.heap.size w w')=>zh9.below (w:=w) (r:=zak a.data.toList b.data.toList (sps fs)) (e:=.returned (.int .i64 14)) h (by simp[zak,za HS,hg,← hnl,hnm]) (by simp[zak,za HS,hg,← hnl,hnm]) hb);clear h hg HS hnl;go_enter Tryz.func122,Tryz.ntmps122
   go_wp2_with (first
    |(go_at_call 81;refine(za F1).mono ?_;rintro e w' ⟨rfl,rfl⟩)
    |(go_at_call 137;refine(zbe b _).mono ?_;rintro e W ⟨rfl,b1⟩;have E2:=zaa (za E1 W b1);clear b1))
   go_ret
   exact za E2
  |true =>
   have hb64:b.data.toList.length≤64:=by
    have:=hnm;simp only[zec,Bool.and_eq_true,decide_eq_true_eq] at this;rw[Array.length_toList];exact this.2.1
   have E1:=zaa (show ∀ W,Below w.heap.size w W→W.cell? ⟨d,1,none⟩=some (.map (some M))∧∃ W1 W2,(∀ ty,(Builtin.delete_ #[92,9] ty #[.map (some M),.string a]).run Tryz.prog W=.ok (.tuple #[]) W1)∧W1.cell? ⟨d,1,none⟩=some (.map (some M))∧(Instr.mapUpdate 92 (.map (some M)) (.string b) (.pointer (some ⟨F,0,none⟩))).run Tryz.prog W1=.ok () W2∧zh9 base d M room N w fs (zak a.data.toList b.data.toList (sps fs)) (.returned (.int .i64 0)) W2 from fun W bW=>by
    have h1:=h.later bW;obtain⟨W1,hd,hm1,hg1,_⟩:=h1.map.drop (h1.rise.map (fun x:Nat×Fil=>x.1)) a ha 0
    obtain⟨W2,hu,hm2,hg2,_⟩:=hm1.store ((h1.rise.map (fun x:Nat×Fil=>x.1)).del _) b hb F (by
     have:=List.length_filter_le (fun x:Nm×Nat=>decide (x.1≠a.data.toList)) (ptrs fs);have h3:=h.few;simp only[zdm,ptrs,List.length_map] at this ⊢
     omega)
    refine⟨h1.c1,W1,W2,fun _=>hd,?_,hu,?_⟩
    ·exact zan ((hg1.block d h1.ltD (fun e=>h1.dm (Option.some.inj e))).trans h1.box) 1 _ rfl
    ·have hmx:=zcp hg;have hmem:=fun (y:Fe)=>zb3 (k:=b.data.toList) (v:=(F,f)) (h.rise.del a.data.toList) y;have hx0:∀ y∈zbi b.data.toList (F,f) (zdm a.data.toList fs),∃ x∈fs,y.2=x.2:=fun y hy=>by
      rcases(hmem y).1 hy with rfl|⟨hy,_⟩
      ·exact⟨_,hmx,rfl⟩
      ·exact⟨y,((zbq y).1 hy).1,rfl⟩
     obtain⟨k1,k2⟩:=h1.remap (fs':=zbi b.data.toList (F,f) (zdm a.data.toList fs)) (hg1.trans hg2) (by rw[ztp,zob];exact hm2) ((h.rise.del _).put _ _) (fun y hy=>⟨by
       rcases(hmem y).1 hy with rfl|⟨hy,_⟩
       ·exact hb64
       ·exact h.names y ((zbq y).1 hy).1,hx0 y hy⟩) (fun y hy z hz hne p hp q hq ep eq e=>by
       have:=h.rise.one hp hq e;subst this;have h12:y.2.1=z.2.1:=by rw[ep,eq]
       rcases(hmem y).1 hy with rfl|⟨hy,hye⟩ <;> rcases(hmem z).1 hz with rfl|⟨hz,hze⟩
       ·exact hne rfl
       ·obtain⟨hz1,hz2⟩:=(zbq z).1 hz;exact h.ap _ hmx z hz1 (fun e=>hz2 e.symm) F (.inl rfl) (by have:F=z.2.1:=h12;rw[this];exact .inl rfl)
       ·obtain⟨hy1,hy2⟩:=(zbq y).1 hy;exact h.ap y hy1 _ hmx hy2 F (by have:y.2.1=F:=h12;rw[← this];exact .inl rfl) (.inl rfl)
       ·exact h.ap y ((zbq y).1 hy).1 z ((zbq z).1 hz).1 hne y.2.1 (.inl rfl) (by rw[h12];exact .inl rfl)) (by
       have h2:=zgb (k:=a.data.toList) h.rise;rw[if_pos (List.mem_map.2 ⟨_,hmx,rfl⟩)] at h2;rw[zdb (h.rise.del _)];have:=h.few
       split <;> omega)
     have hdr:zak a.data.toList b.data.toList (sps fs)=(0,zbi b.data.toList f.sp (zdm a.data.toList (sps fs))):=by
      simp[zak,za HS,hg,← hnl,hnm]
     rw[hdr];refine⟨rfl,_,k1,(DGrew.ofBelow bW).trans k2,?_⟩
     rw[zlm,zx3])
   clear h hg HS hnl;go_enter Tryz.func122,Tryz.ntmps122
   go_wp2_with (first
    |(go_at_call 81;refine(za F1).mono ?_;rintro e w' ⟨rfl,rfl⟩)
    |(go_at_call 137;refine(zbe b _).mono ?_;rintro e W ⟨rfl,b1⟩;obtain⟨q1,W1,W2,q2,q3,q4,q5⟩:=za E1 W b1;have Q5:=zaa q5;clear b1 q5))
   go_ret
   exact za Q5
end
end
end Go.Proofs.YtofllbpfajppeaaGreatDoor
