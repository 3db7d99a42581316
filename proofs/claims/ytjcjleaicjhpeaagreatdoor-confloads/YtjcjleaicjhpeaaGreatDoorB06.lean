/- Conf: numbers and texts appended to bytes of one's own. -/
import Derived.Test.YtjcjleaicjhpeaaGreatDoorB01
import Derived.Test.YtjcjleaicjhpeaaGreatDoorB02
import Derived.Shelf.Small.Bits
import Derived.Shelf.Small.Wraps
import Derived.Shelf.Strconv.Itoa0
import Derived.Shelf.Strings.Search1
import Derived.Shelf.Strings.Search2
import Derived.Shelf.Strings.Search3
import Derived.Shelf.Strings.Count
import Derived.Shelf.LaysM
import Derived.Shelf.Strings.Shaped
import Derived.Shelf.Strings.Split
import Derived.Shelf.Strings.SplitShaped
import Derived.Shelf.Unicode.DecodeSlow
import Derived.Test.YtjcjleaicjhpeaaGreatDoorProg
import Derived.Test.YtjcjleaicjhpeaaGreatDoorB04
set_option linter.unusedVariables false
set_option maxRecDepth 20000
set_option maxHeartbeats 16000000
namespace Go.Proofs.YtjcjleaicjhpeaaGreatDoor
section
open Go.ChangeShapes Go.WideShapes Go.ChangeAt Go.RowKit
theorem zlj:∀ (f n:Nat),n<128 ^ (f+1)→(zal n).length≤f+1
 |0,n,h=>by
  rw[zcn (show n<128 from by omega)];simp
 |f+1,n,h=>by
  by_cases h1:n<128
  ·rw[zcn h1];simp
  ·rw[zc8 h1,List.length_cons];have:=zlj f (n / 128) (by rw[Nat.pow_succ] at h;omega);omega
theorem zap (n:Nat) (h:n≤1099511627776):(zal n).length≤6 :=
 zlj 5 n (by have:(128:Nat) ^ (5+1)=4398046511104:=rfl;omega)
def zis (ns:List Nat):List Nat:=ns.flatMap zal
def txB (s:ByteArray):List Nat:=zal s.size++bsT s
def zt0 (ts:List ByteArray):List Nat:=ts.flatMap txB
theorem zb5 {α:Type} (f:α→List Nat) (l:List α) (j:Nat) (h:j<l.length):(l.take (j+1)).flatMap f=(l.take j).flatMap f++f l[j]:=by
 rw[List.take_succ_eq_append_getElem h,List.flatMap_append];simp
theorem zcg {α:Type} (f:α→List Nat) (k:Nat):∀ (l:List α),(∀ x∈l,(f x).length≤k)→(l.flatMap f).length≤k*l.length
 |[],_=>by simp
 |x::r,h=>by
  rw[List.flatMap_cons,List.length_append,List.length_cons];have h1:=h x List.mem_cons_self;have h2:=zcg f k r (fun y hy=>h y (List.mem_cons_of_mem _ hy));rw[Nat.mul_add,Nat.mul_one];omega
theorem zcs (s:ByteArray) (h:s.size≤1099511627776):(txB s).length≤s.size+6:=by
 unfold txB;rw[List.length_append,zj6];have:=zap s.size h;omega
def zcl (ns:List Nat):Array Value:=(ns.map (fun (n:Nat)=>Value.int .i64 (n:Int))).toArray
theorem zr9 (ns:List Nat) (j:Nat) (h:j<ns.length):(zcl ns)[j]? = some (.int .i64 (ns[j]:Int)):=by
 unfold zcl;simp[h]
theorem OwnB.ne {base:Nat} {w:World} {sp:Option Addr} {c:Nat} {l:List Nat} (h:OwnB base w sp c l) {B:Nat} {cs:Array Value} {T:TypeId} {fr:Nat×Nat} (hB:w.heap[B]? = some (.cells cs T fr)) (hT:T≠5):blk sp≠some B:=by
 intro e;rcases h.owns.2 with⟨hv,h0⟩|⟨g,cap,cur,hv,_,hg,_⟩
 ·simp only[Value.slice.injEq] at hv;rw[hv.1] at e;cases e
 ·simp only[Value.slice.injEq] at hv;rw[hv.1] at e;simp only[blk,Option.map_some,Option.some.injEq] at e;rw[e,hB] at hg;simp only[Option.some.injEq,Obj.cells.injEq] at hg;exact hT hg.2.1
theorem OwnB.cap0 {base:Nat} {w:World} {sp:Option Addr} {c:Nat} {l:List Nat} (h:OwnB base w sp c l):sp=none→c=0:=by
 intro e;rcases h.owns.2 with⟨hv,h0⟩|⟨g,cap,cur,hv,_⟩
 ·simp only[Value.slice.injEq] at hv;exact hv.2.2
 ·simp only[Value.slice.injEq] at hv;rw[hv.1] at e;cases e
theorem OwnB.some_ {base:Nat} {w:World} {sp:Option Addr} {c:Nat} {l:List Nat} (h:OwnB base w sp c l) (hl:0<l.length):sp≠none:=by
 rcases h.owns.2 with⟨hv,h0⟩|⟨g,cap,cur,hv,_⟩
 ·omega
 ·simp only[Value.slice.injEq] at hv;rw[hv.1];simp
theorem tyne:(3:TypeId)≠5∧(9:TypeId)≠5:=by decide
theorem zbb (base:Nat) {w:World} {sp:Option Addr} {n0 c:Nat} {l:List Nat} (hn0:l.length=n0) (hown:OwnB base w sp c l) (B m mc:Nat) (ns:List Nat) (hm:ns.length=m) (hB:w.heap[B]? = some (.cells (zcl ns) 3 (0,0)))
  (hns:∀ n∈ns,n≤1099511627776) (hsz:l.length+6*m≤140737488355328) (hm2:m≤1000) (hbase:base≤w.heap.size) :
  Calls Tryz.prog 49 #[.slice sp n0 c,.slice (some ⟨B,0,none⟩) m mc] w fun e w'=>∃ sp' n' c',e=.returned (.slice sp' n' c')∧Hid ((l++zis ns).length=n')∧OwnB base w' sp' c' (l++zis ns)∧Grew w sp w' sp':=by
 have HO:=zaa hown;have HN:=zaa hn0;have HM:=zaa hm;have HB:=zaa hB;have HNE:=zaa (hown.ne hB tyne.1);have HNS:=zaa hns
 have LE:=zaa (show ∀ j,((ns.take j).flatMap zal).length≤6*m from fun j=>by
  have h1:=zcg zal 6 (ns.take j) (fun x hx=>zap x (hns x (List.mem_of_mem_take hx)));have h2:(ns.take j).length≤m:=by rw[← hm,List.length_take];omega
  omega)
 clear hown hn0 hm hB hns;go_enter Tryz.func49,Tryz.ntmps49
 go_wp2
 go_loopw [0,11] (fun v i wr=>∃ (j:Nat) (sp':Option Addr) (n' c':Nat),j≤m∧v=.slice sp' n' c'∧i=.int .i64 (j:Int)∧Hid ((l++(ns.take j).flatMap zal).length=n')∧Hid (OwnB base wr sp' c' (l++(ns.take j).flatMap zal))∧Hid (Grew w sp wr sp')) (fun _ i _=>m - (intOf i).toNat)
 case atStart=>exact⟨0,sp,n0,c,by omega,rfl,rfl,zaa (by simpa using za HN),zaa (by simpa using za HO),Grew.refl _ _⟩
 case round =>
  obtain⟨j,sp',n',c',hj,rfl,rfl,hl',ho',hg'⟩:=hrel;by_cases hjm:j<m
  ·have y0:(0:Int)≤(j:Int):=by omega
   have y1:(j:Int)<(m:Int):=by omega
   have hjl:j<ns.length:=by rw[za HM];exact hjm
   have hBr:=Grew.block (za hg') (za HB) (za HNE);have p0:=zae hBr j _ (zr9 ns j hjl);have hx:=za HNS ns[j] (List.getElem_mem hjl);have FT:=zaa (zb5 zal ns j hjl);generalize ns[j]=x at *
   have hs1:=zaa (show(l++(ns.take j).flatMap zal).length+(zal x).length≤140737488355328 by
    have:=za LE (j+1);rw[za FT,List.length_append] at this
    rw[List.length_append];omega)
   have hbr:base≤wr.heap.size:=Nat.le_trans hbase (za hg').grown.size;clear hBr
   go_wp2_with fail
   refine(zpo x wr hx).mono ?_;rintro e V ⟨xp,xn,xc,rfl,hxn,hxo,hxb⟩;have ho2:=zaa ((za ho').later hxb);have HV:=zaa hxb;have XB:=zaa hxo.bytes;have X0:=zaa hxo.cap0;have hvs:base≤V.heap.size:=Nat.le_trans hbr hxb.size;have hs2:=zaa (show(l++(ns.take j).flatMap zal).length+xn≤140737488355328 by rw[← za hxn];exact za hs1);clear hxb hxo hx
   go_wp2_with (at_builtin;refine zbm rfl (.tmp 20) (.tmp 21) rfl base sp' n' c' _ rfl (za hl') (za ho2) xp xn xc rfl (zal x) (za hxn) (za XB) (za X0) (za hs2) hvs ?_;intro sp2 n2 c2 W2 hn2 ho3 hg2 hb2;rw[List.append_assoc,← za FT] at hn2 ho3;have HO3:=zaa ho3;clear ho3)
   have hbn:=zaa ((za hg').trans (Grew.aside (za HV) ⟨hg2,hb2⟩));exact⟨⟨j+1,sp2,n2,c2,by omega,rfl,by go_num,by first|exact hn2|exact zaa (by rw[List.length_append];exact za hn2),za HO3,za hbn⟩,by simp[intOf];omega⟩
  ·have hjj:¬ (j:Int)<(m:Int):=by omega
   have E:=zaa (show(ns.take j).flatMap zal=zis ns by rw[List.take_of_length_le (by rw[za HM];omega)];rfl)
   go_wp2
   go_ret
   exact⟨sp',n',c',rfl,zaa (by rw[← za E];simpa using za hl'),by rw[← za E];exact za ho',za hg'⟩
end
end Go.Proofs.YtjcjleaicjhpeaaGreatDoor
section
namespace Go.Proofs
open Go.Shelf
def Tryz.laysM146_ren:Go.Shelf.Ren:=⟨fun|146=>132|221=>166|268=>201|138=>202|143=>203|195=>215|197=>216|218=>217|219=>218|260=>222|217=>223|225=>224|224=>225|267=>226|266=>227|314=>228|n=>n,fun|9=>9|31=>80|3=>3|4=>4|0=>0|105=>248|21=>21|5=>5|46=>191|119=>256|139=>259|138=>258|146=>260|51=>218|n=>n,fun|1=>1|3=>2|4=>3|n=>n⟩
theorem Tryz.laysM146:Go.Proofs.LaysM.n146 Tryz.prog Tryz.laysM146_ren:={
 mixed:=by kernel_rfl
 f138:=Tryz.func202.trans (congrArg some (by kernel_rfl))
 f143:=Tryz.func203.trans (congrArg some (by kernel_rfl))
 f146:=Tryz.func132.trans (congrArg some (by kernel_rfl))
 f195:=Tryz.func215.trans (congrArg some (by kernel_rfl))
 f197:=Tryz.func216.trans (congrArg some (by kernel_rfl))
 f217:=Tryz.func223.trans (congrArg some (by kernel_rfl))
 f218:=Tryz.func217.trans (congrArg some (by kernel_rfl))
 f219:=Tryz.func218.trans (congrArg some (by kernel_rfl))
 f221:=Tryz.func166.trans (congrArg some (by kernel_rfl))
 f224:=Tryz.func225.trans (congrArg some (by kernel_rfl))
 f225:=Tryz.func224.trans (congrArg some (by kernel_rfl))
 f260:=Tryz.func222.trans (congrArg some (by kernel_rfl))
 f266:=Tryz.func227.trans (congrArg some (by kernel_rfl))
 f267:=Tryz.func226.trans (congrArg some (by kernel_rfl))
 f268:=Tryz.func201.trans (congrArg some (by kernel_rfl))
 f314:=Tryz.func228.trans (congrArg some (by kernel_rfl))
 t0:=Tryz.underlying0
 a0:=Tryz.isAgg0
 z0:=Tryz.sizeOf0
 v0:=Tryz.zeroValue0
 t3:=Tryz.underlying3
 a3:=Tryz.isAgg3
 z3:=Tryz.sizeOf3
 v3:=Tryz.zeroValue3
 t4:=Tryz.underlying4
 a4:=Tryz.isAgg4
 z4:=Tryz.sizeOf4
 v4:=Tryz.zeroValue4
 t5:=Tryz.underlying5
 a5:=Tryz.isAgg5
 z5:=Tryz.sizeOf5
 v5:=Tryz.zeroValue5
 t9:=Tryz.underlying9
 a9:=Tryz.isAgg9
 z9:=Tryz.sizeOf9
 v9:=Tryz.zeroValue9
 t21:=Tryz.underlying21
 a21:=Tryz.isAgg21
 z21:=Tryz.sizeOf21
 v21:=Tryz.zeroValue21
 t31:=Tryz.underlying80
 a31:=Tryz.isAgg80
 z31:=Tryz.sizeOf80
 v31:=Tryz.zeroValue80
 t46:=Tryz.underlying191
 a46:=Tryz.isAgg191
 z46:=Tryz.sizeOf191
 v46:=Tryz.zeroValue191
 t51:=Tryz.underlying218
 a51:=Tryz.isAgg218
 z51:=Tryz.sizeOf218
 v51:=Tryz.zeroValue218
 t105:=Tryz.underlying248
 a105:=Tryz.isAgg248
 z105:=Tryz.sizeOf248
 v105:=Tryz.zeroValue248
 t119:=Tryz.underlying256
 a119:=Tryz.isAgg256
 z119:=Tryz.sizeOf256
 t138:=Tryz.underlying258
 a138:=Tryz.isAgg258
 z138:=Tryz.sizeOf258
 v138:=Tryz.zeroValue258
 t139:=Tryz.underlying259
 a139:=Tryz.isAgg259
 z139:=Tryz.sizeOf259
 v139:=Tryz.zeroValue259
 t146:=Tryz.underlying260
 a146:=Tryz.isAgg260
 z146:=Tryz.sizeOf260
 v146:=Tryz.zeroValue260
 g1:=by kernel_rfl
 g3:=by kernel_rfl
 g4:=by kernel_rfl
 i0:=by kernel_rfl
 i3:=by kernel_rfl
 i4:=by kernel_rfl
 i5:=by kernel_rfl
 i9:=by kernel_rfl
 i21:=by kernel_rfl
 i31:=by kernel_rfl
 i46:=by kernel_rfl
 i51:=by kernel_rfl
 i105:=by kernel_rfl
 i138:=by kernel_rfl
 i139:=by kernel_rfl
 i146:=by kernel_rfl
 m1:=by kernel_rfl
 s1_3:=fun w h=>Go.Proofs.cell_of_shapedOpen_int (zero:=#[.int .i64 0]) (t:=3) h (of_decide_eq_true (by kernel_rfl)) (by kernel_rfl) rfl (by kernel_rfl) (by kernel_rfl) Tryz.underlying3
 m3:=by kernel_rfl
 m4:=by kernel_rfl }
end Go.Proofs
end
namespace Go.Proofs.YtjcjleaicjhpeaaGreatDoor
section
open Go.ChangeShapes Go.WideShapes Go.ChangeAt Go.RowKit
theorem zan (n a b:Int) (w:World):Calls Tryz.prog 74 #[.int .i64 n,.int .i64 a,.int .i64 b] w fun e w'=>e=.returned (.bool (decide (a≤n∧n≤b)))∧w'=w:=by
 by_cases h1:a≤n
 ·by_cases h2:n≤b
  ·have e:decide (a≤n∧n≤b)=true:=decide_eq_true ⟨h1,h2⟩;rw[e];go_enter Tryz.func74,Tryz.ntmps74
   go_wp2
   go_ret
   exact⟨by simp,rfl⟩
  ·have e:decide (a≤n∧n≤b)=false:=decide_eq_false fun h=>h2 h.2;rw[e];go_enter Tryz.func74,Tryz.ntmps74
   go_wp2
   go_ret
   exact⟨by simp,rfl⟩
 ·have e:decide (a≤n∧n≤b)=false:=decide_eq_false fun h=>h1 h.1;rw[e];go_enter Tryz.func74,Tryz.ntmps74
  go_wp2
  go_ret
  exact⟨by simp,rfl⟩
theorem zge (a:Int) (w:World):Calls Tryz.prog 75 #[.int .i64 a] w fun e w'=>e=.returned (.bool (zeg a))∧w'=w:=by
 by_cases h1:a=3
 ·subst h1;go_enter Tryz.func75,Tryz.ntmps75
  go_wp2
  go_ret
  exact⟨rfl,rfl⟩
 ·by_cases h2:a=4
  ·subst h2;go_enter Tryz.func75,Tryz.ntmps75
   go_wp2
   go_ret
   exact⟨by first|rfl|(simp;omega)|(simp;done)|(congr 2;rw[Bool.eq_iff_iff];simp;omega),rfl⟩
  ·have e:zeg a=false:=by simp[zeg,h1,h2]
   rw[e];go_enter Tryz.func75,Tryz.ntmps75
   go_wp2
   go_ret
   exact⟨by first|rfl|(simp;omega)|(simp;done)|(congr 2;rw[Bool.eq_iff_iff];simp;omega),rfl⟩
theorem ze5 (c:UInt8) (w:World):Calls Tryz.prog 167 #[.int .u8 (c.toNat:Int)] w fun e w'=>e=.returned (.bool (zcv c))∧w'=w:=by
 unfold zcv;generalize c.toNat=n;by_cases h1:33≤n
 ·by_cases h2:n≤126
  ·have i1:(33:Int)≤(n:Int):=by omega
   have i2:(n:Int)≤126:=by omega
   go_enter Tryz.func167,Tryz.ntmps167
   go_wp2
   go_ret
   exact⟨by first|rfl|(simp;omega)|(simp;done)|(congr 2;rw[Bool.eq_iff_iff];simp;omega),rfl⟩
  ·have i1:(33:Int)≤(n:Int):=by omega
   have i2:¬ (n:Int)≤126:=by omega
   go_enter Tryz.func167,Tryz.ntmps167
   go_wp2
   go_ret
   exact⟨by first|rfl|(simp;omega)|(simp;done)|(congr 2;rw[Bool.eq_iff_iff];simp;omega),rfl⟩
 ·have i1:¬ (33:Int)≤(n:Int):=by omega
  go_enter Tryz.func167,Tryz.ntmps167
  go_wp2
  go_ret
  exact⟨by first|rfl|(simp;omega)|(simp;done)|(congr 2;rw[Bool.eq_iff_iff];simp;omega),rfl⟩
theorem zjm (c:UInt8) (w:World):Calls Tryz.prog 134 #[.int .u8 (c.toNat:Int)] w fun e w'=>e=.returned (.bool (znh c))∧w'=w:=by
 have HA:=zaa (fun w=>ze5 c w);unfold znh;generalize zcv c=b at *;generalize c.toNat=n at *;cases b
 ·go_enter Tryz.func134,Tryz.ntmps134
  go_wp2_with (go_at_call 167;refine(za HA _).mono ?_;rintro e w' ⟨rfl,rfl⟩)
  go_ret
  exact⟨rfl,rfl⟩
 ·by_cases h1:n=63
  ·subst h1;go_enter Tryz.func134,Tryz.ntmps134
   go_wp2_with (go_at_call 167;refine(za HA _).mono ?_;rintro e w' ⟨rfl,rfl⟩)
   go_ret
   exact⟨by first|rfl|(simp;omega)|(simp;done)|(congr 2;rw[Bool.eq_iff_iff];simp;omega),rfl⟩
  ·have i1:¬ (n:Int)=63:=by omega
   by_cases h2:n=35
   ·subst h2;go_enter Tryz.func134,Tryz.ntmps134
    go_wp2_with (go_at_call 167;refine(za HA _).mono ?_;rintro e w' ⟨rfl,rfl⟩)
    go_ret
    exact⟨rfl,rfl⟩
   ·have i2:¬ (n:Int)=35:=by omega
    have j1:((n:Int) != 63)=true:=by simp;omega
    have j2:((n:Int) != 35)=true:=by simp;omega
    go_enter Tryz.func134,Tryz.ntmps134
    go_wp2_with (go_at_call 167;refine(za HA _).mono ?_;rintro e w' ⟨rfl,rfl⟩)
    go_ret
    exact⟨by first|rfl|(simp;omega)|(simp;done)|(congr 2;rw[Bool.eq_iff_iff];simp;omega),rfl⟩
theorem zlp (c:UInt8) (w:World):Calls Tryz.prog 135 #[.int .u8 (c.toNat:Int)] w fun e w'=>e=.returned (.bool (zfk c))∧w'=w:=by
 unfold zfk;generalize c.toNat=n;by_cases h1:97≤n
 ·have i1:(97:Int)≤(n:Int):=by omega
  have i3:(48:Int)≤(n:Int):=by omega
  have i4:¬ (n:Int)≤57:=by omega
  have i5:¬ (n:Int)=45:=by omega
  have h5:¬ n=45:=by omega
  have h4:¬ n≤57:=by omega
  by_cases h2:n≤122
  ·have i2:(n:Int)≤122:=by omega
   clear i3 i4 i5;go_enter Tryz.func135,Tryz.ntmps135
   go_wp2
   go_ret
   exact⟨by first|rfl|(simp;omega)|(simp;done)|(congr 2;rw[Bool.eq_iff_iff];simp;omega),rfl⟩
  ·have i2:¬ (n:Int)≤122:=by omega
   go_enter Tryz.func135,Tryz.ntmps135
   go_wp2
   go_ret
   exact⟨by first|rfl|(simp;omega)|(simp;done)|(congr 2;rw[Bool.eq_iff_iff];simp;omega),rfl⟩
 ·have i1:¬ (97:Int)≤(n:Int):=by omega
  by_cases h3:48≤n
  ·have i3:(48:Int)≤(n:Int):=by omega
   have i5:¬ (n:Int)=45:=by omega
   have h5:¬ n=45:=by omega
   by_cases h4:n≤57
   ·have i4:(n:Int)≤57:=by omega
    clear i5;go_enter Tryz.func135,Tryz.ntmps135
    go_wp2
    go_ret
    exact⟨by first|rfl|(simp;omega)|(simp;done)|(congr 2;rw[Bool.eq_iff_iff];simp;omega),rfl⟩
   ·have i4:¬ (n:Int)≤57:=by omega
    go_enter Tryz.func135,Tryz.ntmps135
    go_wp2
    go_ret
    exact⟨by first|rfl|(simp;omega)|(simp;done)|(congr 2;rw[Bool.eq_iff_iff];simp;omega),rfl⟩
  ·have i3:¬ (48:Int)≤(n:Int):=by omega
   by_cases h5:n=45
   ·subst h5;go_enter Tryz.func135,Tryz.ntmps135
    go_wp2
    go_ret
    exact⟨rfl,rfl⟩
   ·have i5:¬ (n:Int)=45:=by omega
    go_enter Tryz.func135,Tryz.ntmps135
    go_wp2
    go_ret
    exact⟨by first|rfl|(simp;omega)|(simp;done)|(congr 2;rw[Bool.eq_iff_iff];simp;omega),rfl⟩
theorem zt5 (s:ByteArray) (j:Nat) (h:j<s.size):(bsT s).getD j 0=(s.data.toList[j]'(by simpa using h)).toNat:=by
 rw[List.getD_eq_getElem?_getD];unfold bsT;rw[List.getElem?_map,List.getElem?_eq_getElem (by simpa using h)];rfl
theorem zg3 (s:ByteArray) (most K:Nat) (f:UInt8→Bool) (hK:∀ (c:Array Value) (w:World),(callFunc K c).run Tryz.prog w=.ok (.enter K c) w)
  (hf:∀ (c:UInt8) (w:World),Calls Tryz.prog K (#[.int .u8 (c.toNat:Int)]++#[]) w fun e w'=>e=.returned (.bool (f c))∧w'=w) (hs:s.size≤140737488355328) (w:World) :
  Calls Tryz.prog 133 #[.string s,.int .i64 (most:Int),.func (.func K) #[] #[]] w fun e w'=>e=.returned (.bool (ze3 s most f))∧Below w.heap.size w w':=by
 have CW:=zaa (fun w=>zan (s.size:Int) 1 (most:Int) w);have HF:=zaa hf;have E0:=zaa (show ze3 s most f=(decide (1≤s.size)&&decide (s.size≤most)&&s.data.toList.all f) from rfl);clear hf;by_cases h1:1≤s.size∧s.size≤most
 ·have e1:decide ((1:Int)≤(s.size:Int)∧(s.size:Int)≤(most:Int))=true:=decide_eq_true ⟨by omega,by omega⟩;have E:=zaa (show ze3 s most f=s.data.toList.all f by rw[za E0,decide_eq_true h1.1,decide_eq_true h1.2];rfl);rw[e1] at CW;clear e1 E0 h1;obtain⟨c,W1,hcv,hc,hb,hB⟩:=zs8 w s;have HB:=zaa hb;have B1:=zaa hB;have hn:=zj6 s;clear hb hB;go_enter Tryz.func133,Tryz.ntmps133
  go_wp2_with (go_at_call 74;refine(za CW _).mono ?_;rintro e w' ⟨rfl,rfl⟩)
  go_loopw [17] (fun i wr=>∃ j:Nat,i=.int .i64 (j:Int)∧j≤s.size∧Hid (s.data.toList.all f=(s.data.toList.drop j).all f)∧Hid (wr=W1)) (fun i _=>s.size - (intOf i).toNat)
  case atStart=>exact⟨0,rfl,by omega,zaa rfl,zaa rfl⟩
  case round =>
   obtain⟨j,rfl,hj,hE,HW⟩:=hrel;have hw:=za HW;subst hw;by_cases h:j<s.size
   ·have hlt:(j:Int)<(s.size:Int):=by omega
    have hj0:(0:Int)≤(j:Int):=by omega
    have hjl:j<s.data.toList.length:=by simpa using h
    obtain⟨b,off,hbe,hcell⟩:=(za HB).cell j (by rw[hn];exact h);simp only[Option.some.injEq,Addr.mk.injEq,and_true] at hbe;obtain⟨rfl,rfl⟩:=hbe;rw[zt5 s j h,Nat.zero_add] at hcell;have hd:s.data.toList.drop j=s.data.toList[j]::s.data.toList.drop (j+1):=List.drop_eq_getElem_cons hjl;have HD:=zaa (show s.data.toList.all f=(f s.data.toList[j]&&(s.data.toList.drop (j+1)).all f) by rw[za hE,hd];rfl);have CF:=zaa (za HF s.data.toList[j]);generalize s.data.toList[j]=x at *;clear hd hE HF;cases hx:f x
    ·rw[hx] at HD CF;have E3:=zaa (show ze3 s most f=false by rw[za E,za HD];rfl);clear hx
     go_wp2_with fail
     refine(za CF _).mono ?_;rintro e w' ⟨rfl,rfl⟩
     go_wp2
     go_ret
     exact⟨by rw[za E3];rfl,za B1⟩
    ·rw[hx] at HD CF;clear hx
     go_wp2_with fail
     refine(za CF _).mono ?_;rintro e w' ⟨rfl,rfl⟩
     go_wp2
     exact⟨⟨j+1,by go_num,by omega,zaa (by rw[za HD];rfl),HW⟩,by simp[intOf];omega⟩
   ·have hlt:¬ (j:Int)<(s.size:Int):=by omega
    have E3:=zaa (show ze3 s most f=true by rw[za E,za hE,List.drop_of_length_le (by rw[Array.length_toList];show s.size≤j;omega)];rfl)
    go_wp2
    go_ret
    exact⟨by rw[za E3];rfl,za B1⟩
 ·have e1:decide ((1:Int)≤(s.size:Int)∧(s.size:Int)≤(most:Int))=false:=decide_eq_false fun h=>h1 ⟨by omega,by omega⟩
  have E:=zaa (show ze3 s most f=false by
   rw[za E0];by_cases h2:1≤s.size
   ·have h3:¬ s.size≤most:=fun h=>h1 ⟨h2,h⟩;simp[h3]
   ·simp[h2])
  rw[e1] at CW;clear e1 E0 h1;go_enter Tryz.func133,Tryz.ntmps133
  go_wp2_with (go_at_call 74;refine(za CW _).mono ?_;rintro e w' ⟨rfl,rfl⟩)
  go_ret
  exact⟨by rw[za E];rfl,Below.refl _ _⟩
theorem zk2 (c:Array Value) (w:World):(callFunc 135 c).run Tryz.prog w=.ok (.enter 135 c) w:=by
 simp[callFunc,go_sem,Tryz.func135];rw[if_neg (by decide +kernel),if_neg (by decide +kernel)]
theorem zib (c:Array Value) (w:World):(callFunc 167 c).run Tryz.prog w=.ok (.enter 167 c) w:=by
 simp[callFunc,go_sem,Tryz.func167];rw[if_neg (by decide +kernel),if_neg (by decide +kernel)]
theorem zjj (c:Array Value) (w:World):(callFunc 134 c).run Tryz.prog w=.ok (.enter 134 c) w:=by
 simp[callFunc,go_sem,Tryz.func134];rw[if_neg (by decide +kernel),if_neg (by decide +kernel)]
theorem zdq (s:ByteArray) (hs:s.size≤140737488355328) (w:World):Calls Tryz.prog 78 #[.string s] w fun e w'=>e=.returned (.bool (zdy s))∧Below w.heap.size w w':=by
 have CM:=zaa (fun w=>zg3 s 64 135 zfk zk2 (fun c w=>zlp c w) hs w);unfold zdy;generalize ze3 s 64 zfk=b at *;go_enter Tryz.func78,Tryz.ntmps78
 go_wp2_with (go_at_call 133;refine(za CM _).mono ?_;rintro e w' ⟨rfl,hb⟩)
 go_ret
 exact⟨rfl,hb⟩
theorem ze1 (s:ByteArray) (hs:s.size≤140737488355328) (w:World):Calls Tryz.prog 136 #[.string s] w fun e w'=>e=.returned (.bool (zcf s))∧Below w.heap.size w w':=by
 have CM:=zaa (fun w=>zg3 s 64 167 zcv zib (fun c w=>ze5 c w) hs w);unfold zcf;generalize ze3 s 64 zcv=b at *;go_enter Tryz.func136,Tryz.ntmps136
 go_wp2_with (go_at_call 133;refine(za CM _).mono ?_;rintro e w' ⟨rfl,hb⟩)
 go_ret
 exact⟨rfl,hb⟩
theorem zfq (s:ByteArray) (hs:s.size≤140737488355328) (w:World):Calls Tryz.prog 77 #[.string s] w fun e w'=>e=.returned (.bool (zc5 s))∧Below w.heap.size w w':=by
 have CM:=zaa (fun w=>zg3 s 128 134 znh zjj (fun c w=>zjm c w) hs w);cases hm:ze3 s 128 znh
 ·have E:=zaa (show zc5 s=false by unfold zc5;rw[hm];rfl);rw[hm] at CM;clear hm;go_enter Tryz.func77,Tryz.ntmps77
  go_wp2_with (go_at_call 133;refine(za CM _).mono ?_;rintro e w' ⟨rfl,hb⟩)
  go_ret
  exact⟨by rw[za E];rfl,hb⟩
 ·have h1:1≤s.size:=by
   unfold ze3 at hm;simp only[Bool.and_eq_true,decide_eq_true_eq] at hm;exact hm.1.1
  have hl:0<s.data.toList.length:=by rw[Array.length_toList];exact h1
  have hx:(0:Int)<(s.size:Int):=by omega
  have hh:s.data.toList.head? = some (s[0]'h1):=by
   rw[List.head?_eq_getElem?,List.getElem?_eq_getElem hl];rfl
  have E:=zaa (show zc5 s=(((s[0]'h1).toNat:Int)==47) by
   unfold zc5;rw[hm,hh,Bool.true_and,Bool.eq_iff_iff];simp only[beq_iff_eq,Option.some.injEq];rw[← UInt8.toNat_inj];have:(47:UInt8).toNat=47:=rfl
   omega)
  rw[hm] at CM;clear hm hh hl;generalize hy:(s[0]'h1)=x at *;have hx2:∀ hh,(s[0]'hh)=x:=fun _=>hy;have hz:(s.toList)[0]? = some x:=by rw[ByteArray.toList_eq,List.getElem?_eq_getElem (by rw[Array.length_toList];exact h1)];exact congrArg some hy
  go_enter Tryz.func77,Tryz.ntmps77
  go_wp2_with (go_at_call 133;refine(za CM _).mono ?_;rintro e w' ⟨rfl,hb⟩)
  go_ret
  exact⟨by rw[za E];rfl,hb⟩
theorem zla (w:World):Calls Tryz.prog 137 #[.int .i64 1] w fun e w'=>e=.returned (.float .f64 9218868437227405312)∧w'=w:=by
 have hf:∀ w,(callFunc 122 #[.int .u64 9218868437227405312]).run Tryz.prog w=.ok (.value (.float .f64 9218868437227405312)) w:=fun w=>zgu 9218868437227405312 w;go_enter Tryz.func137,Tryz.ntmps137
 go_wp2
 go_ret
 exact⟨rfl,rfl⟩
theorem zfr (x:Nat) (w:World):Calls Tryz.prog 80 #[.float .f64 x] w fun e w'=>e=.returned (.bool (wtB x))∧Below w.heap.size w w':=by
 have hb:=zd4 x;have hb2:∀ w,(callFunc 91 #[.float .f64 9218868437227405312]).run Tryz.prog w=.ok (.value (.int .u64 9218868437227405312)) w:=fun w=>zd4 9218868437227405312 w;have B0:=zaa (Below.refl w.heap.size w);unfold wtB;by_cases h:x<9218868437227405312
 ·have hi:(x:Int)<9218868437227405312:=by omega
  have e:decide (x<9218868437227405312)=true:=decide_eq_true h;rw[e];go_enter Tryz.func80,Tryz.ntmps80
  go_wp2_with (go_at_call 137;refine(zla _).mono ?_;rintro e w1 ⟨rfl,rfl⟩)
  go_ret
  exact⟨by rfl,by first|exact za B0|exact(za B0).drew⟩
 ·have hi:¬ (x:Int)<9218868437227405312:=by omega
  have e:decide (x<9218868437227405312)=false:=decide_eq_false h;have dI:decide ((x:Int)<9218868437227405312)=false:=decide_eq_false hi;rw[e];go_enter Tryz.func80,Tryz.ntmps80
  go_wp2_with (go_at_call 137;refine(zla _).mono ?_;rintro e w1 ⟨rfl,rfl⟩)
  go_ret
  exact⟨rfl,by first|exact za B0|exact(za B0).drew⟩
theorem zj5 {α:Type} (l:List α) (f:α→Bool) (j:Nat) (h:j<l.length):(l.drop j).all f=(f l[j]&&(l.drop (j+1)).all f):=by
 rw[List.drop_eq_getElem_cons h];rfl
theorem zdu {w:World} {a:Option Addr} {l:List Tgt} (h:TgsAt w a l) (n c:Nat) (hn:l.length=n) (hx:n≤maxLen) :
  Calls Tryz.prog 39 #[.slice a n c] w fun e w'=>e=.returned (.bool (zdk l))∧Below w.heap.size w w':=by
 have H1:=zaa h;have HN:=zaa hn;have E0:=zaa (show zdk l=(l.drop 0).all (fun t=>wtB t.2) from rfl);simp only[maxLen] at hx;have hsF:=zda .plain;clear h hn;go_enter Tryz.func39,Tryz.ntmps39
 go_wp2_with fail
 go_loopw [7] (fun i wr=>∃ j:Nat,j≤n∧i=.int .i64 (j:Int)∧Hid (zdk l=(l.drop j).all (fun t=>wtB t.2))∧Hid (Below w.heap.size w wr)) (fun i _=>n - (intOf i).toNat)
 case atStart=>exact⟨0,by omega,rfl,E0,zaa (Below.refl _ _)⟩
 case round =>
  obtain⟨j,hj,rfl,HE,B⟩:=hrel;by_cases hjn:j<n
  ·have y0:(0:Int)≤(j:Int):=by omega
   have y1:(j:Int)<(n:Int):=by omega
   have hjl:j<l.length:=by rw[za HN];exact hjn
   obtain⟨b1,o1,rfl,q0,q1⟩:=(za H1).cell j hjl;have p0:=cell_later (za B) q0;have p1:=cell_later (za B) q1;have HD:=zaa (show zdk l=(wtB l[j].2&&(l.drop (j+1)).all (fun t=>wtB t.2)) by rw[za HE,zj5 l _ j hjl]);clear HE q0 q1;generalize l[j]=t at *;obtain⟨s,x⟩:=t;simp only at p0 p1 HD;have X1:=zad wr (.cells #[.string s,.float .f64 x] 70);have c1:=zae X1 1 (.float .f64 x) rfl;have BX:=zaa (show Below w.heap.size w (wr.alloc (.cells #[.string s,.float .f64 x] 70)) from(za B).alloc (za B).size _);clear X1;cases hw:wtB x
   ·rw[hw] at HD
    go_wp2_with (go_at_call 80;refine(zfr x _).mono ?_;rintro e w1 ⟨rfl,hb⟩;rw[hw])
    go_ret
    exact⟨by rw[za HD];rfl,(za BX).trans (hb.mono (za BX).size)⟩
   ·rw[hw] at HD
    go_wp2_with (go_at_call 80;refine(zfr x _).mono ?_;rintro e w1 ⟨rfl,hb⟩;rw[hw];have B3:=zaa ((za BX).trans (hb.mono (za BX).size));clear hb)
    exact⟨⟨j+1,by omega,by go_num,zaa (by rw[za HD];rfl),B3⟩,by simp[intOf];omega⟩
  ·have hjj:¬ (j:Int)<(n:Int):=by omega
   have E3:=zaa (show zdk l=true by rw[za HE,List.drop_of_length_le (by rw[za HN];omega)];rfl)
   go_wp2
   go_ret
   exact⟨by rw[za E3];rfl,za B⟩
theorem zc2 {w:World} {a:Option Addr} {l:List Tgt} (h:TgsAt w a l) (hz:∀ t∈l,t.1.size≤140737488355328) (n c:Nat) (hn:l.length=n) (hx:n≤maxLen) :
  Calls Tryz.prog 79 #[.slice a n c] w fun e w'=>e=.returned (.bool (l.all (fun t=>zcf t.1)))∧Below w.heap.size w w':=by
 have H1:=zaa h;have HN:=zaa hn;have HZ:=zaa hz;have E0:=zaa (show l.all (fun t=>zcf t.1)=(l.drop 0).all (fun t=>zcf t.1) from rfl);simp only[maxLen] at hx;have hsF:=zda .plain;generalize hR:l.all (fun t=>zcf t.1)=R at *;clear h hn hz hR;go_enter Tryz.func79,Tryz.ntmps79
 go_wp2_with fail
 go_loopw [7] (fun i wr=>∃ j:Nat,j≤n∧i=.int .i64 (j:Int)∧Hid (R=(l.drop j).all (fun t=>zcf t.1))∧Hid (Below w.heap.size w wr)) (fun i _=>n - (intOf i).toNat)
 case atStart=>exact⟨0,by omega,rfl,E0,zaa (Below.refl _ _)⟩
 case round =>
  obtain⟨j,hj,rfl,HE,B⟩:=hrel;by_cases hjn:j<n
  ·have y0:(0:Int)≤(j:Int):=by omega
   have y1:(j:Int)<(n:Int):=by omega
   have hjl:j<l.length:=by rw[za HN];exact hjn
   obtain⟨b1,o1,rfl,q0,q1⟩:=(za H1).cell j hjl;have p0:=cell_later (za B) q0;have p1:=cell_later (za B) q1;have HD:=zaa (show R=(zcf l[j].1&&(l.drop (j+1)).all (fun t=>zcf t.1)) by rw[za HE,zj5 l _ j hjl]);have HS:=zaa (za HZ l[j] (List.getElem_mem hjl));clear HE q0 q1;generalize l[j]=t at *;obtain⟨s,x⟩:=t;simp only at p0 p1 HD HS;have X1:=zad wr (.cells #[.string s,.float .f64 x] 70);have c1:=zae X1 0 (.string s) rfl;have BX:=zaa (show Below w.heap.size w (wr.alloc (.cells #[.string s,.float .f64 x] 70)) from(za B).alloc (za B).size _);clear X1;cases hw:zcf s
   ·rw[hw] at HD
    go_wp2_with (go_at_call 136;refine(ze1 s (za HS) _).mono ?_;rintro e w1 ⟨rfl,hb⟩;rw[hw])
    go_ret
    exact⟨by rw[za HD];rfl,(za BX).trans (hb.mono (za BX).size)⟩
   ·rw[hw] at HD
    go_wp2_with (go_at_call 136;refine(ze1 s (za HS) _).mono ?_;rintro e w1 ⟨rfl,hb⟩;rw[hw];have B3:=zaa ((za BX).trans (hb.mono (za BX).size));clear hb)
    exact⟨⟨j+1,by omega,by go_num,zaa (by rw[za HD];rfl),B3⟩,by simp[intOf];omega⟩
  ·have hjj:¬ (j:Int)<(n:Int):=by omega
   have E3:=zaa (show R=true by rw[za HE,List.drop_of_length_le (by rw[za HN];omega)];rfl)
   go_wp2
   go_ret
   exact⟨by rw[za E3];rfl,za B⟩
def Mx (w:World):Prop:=∃ m,w.cell? ⟨Tryz.laysM146_ren.g 1,0,none⟩=some (.int .i64 m)
theorem Mx.later {w w':World} (h:Mx w) (hb:Below w.heap.size w w'):Mx w':=let ⟨m,hm⟩:=h;⟨m,cell_later hb hm⟩
theorem znx (s:ByteArray) (w:World) (hm:Mx w) (hs:s.size≤64):Calls Tryz.prog 132 #[.string s,.string ⟨#[46]⟩] w fun e w' =>
  e=.returned (.slice (some ⟨w.heap.size,0,none⟩) (Lib.splitB zhe 0 (Lib.countB s zhe) s).length (Lib.splitB zhe 0 (Lib.countB s zhe) s).length)∧w'=w.alloc (.cells ((Lib.splitB zhe 0 (Lib.countB s zhe) s).map Value.string).toArray 9):=by
 obtain⟨m,hm⟩:=hm;have h1:1≤zhe.size:=by decide
 have hlen:=Lib.splitB_all zhe h1 0 _ s rfl;have:=Any.strings_Split { Tryz.laysM146 with } Tryz.laysM146.i9 s zhe m w (by omega) hm h1;rw[hlen];exact this
theorem zhf (s:ByteArray) (hs:s.size≤140737488355328) (w:World) (hm:Mx w):Calls Tryz.prog 76 #[.string s] w fun e w'=>e=.returned (.bool (zbw s))∧Below w.heap.size w w':=by
 by_cases h64:s.size≤64
 ·have SC:=zaa (znx s w hm h64);have E0:=zaa (show zbw s=((Lib.splitB zhe 0 (Lib.countB s zhe) s).drop 0).all zdy by rw[List.drop_zero,zpt _ s rfl h64];unfold zbw;rw[decide_eq_true h64];rfl);have HZ:=zaa (show ∀ p∈Lib.splitB zhe 0 (Lib.countB s zhe) s,p.size≤140737488355328 from fun p hp=>Nat.le_trans (zsh _ _ _ hp) hs)
  have HC:=zaa (show(Lib.splitB zhe 0 (Lib.countB s zhe) s).length≤65 by
   rw[Lib.splitB_all zhe (by decide) 0 _ s rfl];have:=Lib.countB_le zhe (by decide) s.size s (Nat.le_refl _)
   omega)
  have hi:¬ (64:Int)<(s.size:Int):=by omega
  generalize Lib.splitB zhe 0 (Lib.countB s zhe) s=l at *;have X1:=zad w (.cells (l.map Value.string).toArray 9);have HX:=zaa X1;have B0:=zaa (show Below w.heap.size w (w.alloc (.cells (l.map Value.string).toArray 9)) from(Below.refl _ _).alloc (Nat.le_refl _) _)
  have KC:=zaa (show ∀ j x W,l[j]? = some x→Below (w.heap.size+1) (w.alloc (.cells (l.map Value.string).toArray 9)) W→W.cell? ⟨w.heap.size,j,none⟩=some (.string x) from fun j x W hx hb=>by
   have hg:=(hb.block w.heap.size (by omega)).trans (za HX);rw[cell_of_row _ _ _ _ _ _ hg]
   simp[hx])
  have hc:=za HC;clear X1 HX HC hm h64;generalize hn:l.length=n at *;have HN:=zaa hn;clear hn;go_enter Tryz.func76,Tryz.ntmps76
  go_wp2_with (go_at_call 132;refine(za SC).mono ?_;rintro e w1 ⟨rfl,rfl⟩)
  go_loopw [11] (fun i wr=>∃ j:Nat,j≤n∧i=.int .i64 (j:Int)∧Hid (zbw s=(l.drop j).all zdy)∧Hid (Below (w.heap.size+1) (w.alloc (.cells (l.map Value.string).toArray 9)) wr)) (fun i _=>n - (intOf i).toNat)
  case atStart=>exact⟨0,by omega,rfl,E0,zaa (Below.refl _ _)⟩
  case round =>
   obtain⟨j,hj,rfl,HE,B⟩:=hrel;by_cases hjn:j<n
   ·have y0:(0:Int)≤(j:Int):=by omega
    have y1:(j:Int)<(n:Int):=by omega
    have hjl:j<l.length:=by rw[za HN];exact hjn
    have p0:=za KC j _ wr (List.getElem?_eq_getElem hjl) (za B);have HD:=zaa (show zbw s=(zdy l[j]&&(l.drop (j+1)).all zdy) by rw[za HE,zj5 l _ j hjl]);have HS:=zaa (za HZ l[j] (List.getElem_mem hjl));clear HE;generalize l[j]=t at *;cases hw:zdy t
    ·rw[hw] at HD
     go_wp2_with (go_at_call 78;refine(zdq t (za HS) _).mono ?_;rintro e w1 ⟨rfl,hb⟩;rw[hw])
     go_ret
     exact⟨by rw[za HD];rfl,(za B0).trans (((za B).trans (hb.mono (by have:=(za B).size;simp at this;omega))).mono (by simp))⟩
    ·rw[hw] at HD
     go_wp2_with (go_at_call 78;refine(zdq t (za HS) _).mono ?_;rintro e w1 ⟨rfl,hb⟩;rw[hw];have B3:=zaa ((za B).trans (hb.mono (by have:=(za B).size;simp at this;omega)));clear hb)
     exact⟨⟨j+1,by omega,by go_num,zaa (by rw[za HD];rfl),B3⟩,by simp[intOf];omega⟩
   ·have hjj:¬ (j:Int)<(n:Int):=by omega
    have E3:=zaa (show zbw s=true by rw[za HE,List.drop_of_length_le (by rw[za HN];omega)];rfl)
    go_wp2
    go_ret
    exact⟨by rw[za E3];rfl,(za B0).trans ((za B).mono (by simp))⟩
 ·have hi:(64:Int)<(s.size:Int):=by omega
  have E:=zaa (show zbw s=false by unfold zbw;rw[decide_eq_false h64];rfl);go_enter Tryz.func76,Tryz.ntmps76
  go_wp2
  go_ret
  exact⟨by rw[za E];rfl,Below.refl _ _⟩
end
end Go.Proofs.YtjcjleaicjhpeaaGreatDoor
