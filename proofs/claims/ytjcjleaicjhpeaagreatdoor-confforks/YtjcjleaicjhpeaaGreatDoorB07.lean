/- The contracts of wire.within, addNumber and Number. -/
import Derived.Test.YtjcjleaicjhpeaaGreatDoorB01
import Derived.Test.YtjcjleaicjhpeaaGreatDoorB06
import Derived.Laws.Bits128
import Derived.Deep.RegionHeld3
import Derived.Test.YtjcjleaicjhpeaaGreatDoorB05
import Derived.Lib.Split
import Derived.Shelf.Small.Bits
import Derived.Shelf.Small.Wraps
import Derived.Shelf.Strconv.Itoa0
import Derived.Shelf.Strings.Search1
import Derived.Shelf.Strings.Search2
import Derived.Shelf.Strings.Search3
import Derived.Shelf.Strings.Count
import Derived.Shelf.LaysM
import Derived.Shelf.Strings.Shaped
import Derived.Shelf.Strings.Split
import Derived.Shelf.Strings.SplitShaped
import Derived.Shelf.Unicode.DecodeSlow
import Derived.Shelf.Unicode.DecodeAny
import Derived.Ground.SlgmProg
import Derived.Shelf.SortM.Plain
import Derived.Shelf.SortM.SortNone
import Derived.Test.YtjcjleaicjhpeaaGreatDoorProg
set_option linter.unusedVariables false
set_option maxRecDepth 20000
set_option maxHeartbeats 16000000
namespace Go.Proofs.YtjcjleaicjhpeaaGreatDoor
section
open Go.ChangeShapes Go.WideShapes Go.ChangeAt Go.RowKit
theorem zli (n a b:Int) (w:World) (h:a≤n∧n≤b):Calls Tryz.prog 150 #[.int .i64 n,.int .i64 a,.int .i64 b] w fun e w'=>e=.returned (.bool true)∧w'=w:=by
 obtain⟨h1,h2⟩:=h;go_enter Tryz.func150,Tryz.ntmps150
 go_wp2
 go_ret
 exact⟨by simp,rfl⟩
theorem zn3 (n:Int) (h₀:0≤n) (h₁:n<2 ^ 63):IntKind.i64.wrap n=n:=by rw[IntKind.wrap_i64];omega
theorem zmu (m:Nat):bits .or .i64 (bits .and .i64 (m:Int) 127) 128 % 256=((m % 128+128:Nat):Int):=by
 rw[i64_and127];have h0:(0:Int)≤(m:Int) % 128:=by omega
 have h1:(m:Int) % 128<128:=by omega
 generalize hy:(m:Int) % 128=y at *;have hc:bits .or .i64 y 128=bits .or .i64 128 y:=by simp only[bits,BitVec.or_comm]
 rw[hc,bits_join .i64 63 (by decide) zn3 7 128 y (by decide) (by decide) (by decide) h0 h1 (by omega)];omega
theorem zg8 (base:Nat) (sp:Option Addr) (n0 c:Nat) (l:List Nat) (n:Nat) (w:World) (hn0:l.length=n0) (hown:OwnB base w sp c l) (hl:l.length≤1099511627776) (hn:n≤1099511627776) (hbase:base≤w.heap.size) :
  Calls Tryz.prog 151 #[.slice sp n0 c,.int .i64 (n:Int)] w fun e w'=>∃ sp' n' c',e=.returned (.slice sp' n' c')∧Hid ((l++zap n).length=n')∧OwnB base w' sp' c' (l++zap n)∧Grew w sp w' sp':=by
 have HO:=zaa hown;have HN:=zaa hn0;have HLen:=zaa (show(l++zap n).length≤2199023255553 by rw[List.length_append];have:=(zb1 n).2;omega);clear hown hn0;go_enter Tryz.func151,Tryz.ntmps151
 go_wp2
 go_loopw [0,1] (fun v i wr=>∃ (sp':Option Addr) (n' c':Nat) (l':List Nat) (m:Nat),m≤1099511627776∧v=.slice sp' n' c'∧i=.int .i64 (m:Int)∧Hid (l'.length=n')∧Hid (OwnB base wr sp' c' l')∧Hid (l'++zap m=l++zap n)∧Hid (Grew w sp wr sp')) (fun _ i _=>(intOf i).toNat)
 case atStart=>exact⟨sp,n0,c,l,n,hn,rfl,rfl,za HN,za HO,rfl,Grew.refl _ _⟩
 case round =>
  obtain⟨sp',n',c',l',m,hm,rfl,rfl,hl',ho',heq,hbw⟩:=hrel
  have hlen':=zaa (show l'.length+1≤140737488355328 by
   have h1:=za HLen;rw[← za heq,List.length_append] at h1;have:=(zb1 m).1
   omega)
  have hbr:base≤wr.heap.size:=Nat.le_trans hbase (za hbw).grown.size;by_cases h128:m<128
  ·have hlit:=zaa (zbr (l:=[m]) (zad wr (.cells #[.int .u8 (m:Int)] 5)) (by intro c hc;simp only[List.mem_cons,List.not_mem_nil,or_false] at hc;omega));have bA:=zaa (show Below wr.heap.size wr (wr.alloc (.cells #[.int .u8 (m:Int)] 5)) from(Below.refl _ _).alloc (Nat.le_refl _) _);have heq':=zaa (show l'++[m]=l++zap n by rw[← za heq,zdi h128]);have hm0:(m:Int)<128:=by omega
   go_wp2_with (at_builtin;refine zbc rfl (.tmp 16) (.tmp 19) rfl base sp' n' c' l' rfl (za hl') (by exact(za ho').later (za bA)) (some ⟨wr.heap.size,0,none⟩) 1 1 rfl [m] rfl (by exact za hlit) (fun h=>by cases h) (za hlen') (Nat.le_trans hbr (za bA).size) ?_;intro sp2 n2 c2 W2 hn2 ho2 hg2 hb2)
   rw[za heq'] at hn2 ho2;go_ret
   exact⟨sp2,n2,c2,rfl,hn2,ho2,(za hbw).trans (Grew.aside (za bA) ⟨hg2,hb2⟩)⟩
  ·have hlit:=zaa (zbr (l:=[m % 128+128]) (zad wr (.cells #[.int .u8 ((m % 128+128:Nat):Int)] 5)) (by intro c hc;simp only[List.mem_cons,List.not_mem_nil,or_false] at hc;omega));have bA:=zaa (show Below wr.heap.size wr (wr.alloc (.cells #[.int .u8 ((m % 128+128:Nat):Int)] 5)) from(Below.refl _ _).alloc (Nat.le_refl _) _);have heq':=zaa (show l'++[m % 128+128]++zap (m / 128)=l++zap n by rw[← za heq,zeo h128,List.append_assoc];rfl);have hm0:¬ (m:Int)<128:=by omega
   have hlow:=zmu m;generalize hq:m % 128+128=q at *
   go_wp2_with (at_builtin;refine zbc rfl (.tmp 7) (.tmp 12) rfl base sp' n' c' l' rfl (za hl') (by exact(za ho').later (za bA)) (some ⟨wr.heap.size,0,none⟩) 1 1 rfl [q] rfl (by exact za hlit) (fun h=>by cases h) (za hlen') (Nat.le_trans hbr (za bA).size) ?_;intro sp2 n2 c2 W2 hn2 ho2 hg2 hb2)
   have hbn:=(za hbw).trans (Grew.aside (za bA) ⟨hg2,hb2⟩);exact⟨⟨sp2,n2,c2,l'++[q],m / 128,by omega,rfl,by go_num,hn2,ho2,za heq',hbn⟩,by simp[intOf];omega⟩
theorem zgm (base:Nat) (sp:Option Addr) (n0 c:Nat) (l:List Nat) (n:Nat) (w:World) (hn0:l.length=n0) (hown:OwnB base w sp c l) (hl:l.length≤1099511627776) (hn:n≤1099511627776) (hbase:base≤w.heap.size) :
  Calls Tryz.prog 151 #[.slice sp n0 c,.int .i64 (n:Int)] w fun e w'=>∃ sp' n' c',e=.returned (.slice sp' n' c')∧Hid ((l++zap n).length=n')∧OwnB base w' sp' c' (l++zap n)∧Below base w w':=by
 refine(zg8 base sp n0 c l n w hn0 hown hl hn hbase).mono ?_;rintro e w' ⟨sp',n',c',he,h1,h2,h3⟩;exact⟨sp',n',c',he,h1,h2,h3.below hown hbase⟩
theorem zk8 (n:Nat) (w:World) (h:n≤1099511627776) :
  Calls Tryz.prog 94 #[.int .i64 (n:Int)] w fun e w'=>∃ sp n' c',e=.returned (.tuple #[.slice sp n' c',.int .i64 0])∧Hid ((zap n).length=n')∧OwnB w.heap.size w' sp c' (zap n)∧Below w.heap.size w w':=by
 go_enter Tryz.func94,Tryz.ntmps94
 go_wp2_with fail
 refine(zli n 0 1099511627776 _ ⟨by omega,by omega⟩).mono ?_;rintro e w1 ⟨rfl,rfl⟩
 go_wp2_with fail
 refine(zgm w1.heap.size none 0 0 [] n _ rfl (OwnB.ofNil _ _) (by simp) h (Nat.le_refl _)).mono ?_;rintro e w' ⟨sp,n',c',rfl,hn,ho,hb⟩;rw[List.nil_append] at hn ho
 go_wp2
 go_ret2
 exact⟨sp,n',c',rfl,hn,ho,hb⟩
theorem zg0:∀ (f n:Nat),n<128 ^ (f+1)→(zap n).length≤f+1
 |0,n,h=>by
  rw[zdi (show n<128 from by omega)];simp
 |f+1,n,h=>by
  by_cases h1:n<128
  ·rw[zdi h1];simp
  ·rw[zeo h1,List.length_cons];have:=zg0 f (n / 128) (by rw[Nat.pow_succ] at h;omega);omega
theorem zan (n:Nat) (h:n≤1099511627776):(zap n).length≤6 :=
 zg0 5 n (by have:(128:Nat) ^ (5+1)=4398046511104:=rfl;omega)
def zg1 (ns:List Nat):List Nat:=ns.flatMap zap
def txB (s:ByteArray):List Nat:=zap s.size++bsT s
def zn2 (ts:List ByteArray):List Nat:=ts.flatMap txB
theorem zby {α:Type} (f:α→List Nat) (l:List α) (j:Nat) (h:j<l.length):(l.take (j+1)).flatMap f=(l.take j).flatMap f++f l[j]:=by
 rw[List.take_succ_eq_append_getElem h,List.flatMap_append];simp
theorem zb6 {α:Type} (f:α→List Nat) (k:Nat):∀ (l:List α),(∀ x∈l,(f x).length≤k)→(l.flatMap f).length≤k*l.length
 |[],_=>by simp
 |x::r,h=>by
  rw[List.flatMap_cons,List.length_append,List.length_cons];have h1:=h x List.mem_cons_self;have h2:=zb6 f k r (fun y hy=>h y (List.mem_cons_of_mem _ hy));rw[Nat.mul_add,Nat.mul_one];omega
theorem zcf (s:ByteArray) (h:s.size≤1099511627776):(txB s).length≤s.size+6:=by
 unfold txB;rw[List.length_append,zhv];have:=zan s.size h;omega
def zcc (ns:List Nat):Array Value:=(ns.map (fun (n:Nat)=>Value.int .i64 (n:Int))).toArray
theorem zmv (ns:List Nat) (j:Nat) (h:j<ns.length):(zcc ns)[j]? = some (.int .i64 (ns[j]:Int)):=by
 unfold zcc;simp[h]
theorem OwnB.ne {base:Nat} {w:World} {sp:Option Addr} {c:Nat} {l:List Nat} (h:OwnB base w sp c l) {B:Nat} {cs:Array Value} {T:TypeId} {fr:Nat×Nat} (hB:w.heap[B]? = some (.cells cs T fr)) (hT:T≠5):blk sp≠some B:=by
 intro e;rcases h.owns.2 with⟨hv,h0⟩|⟨g,cap,cur,hv,_,hg,_⟩
 ·simp only[Value.slice.injEq] at hv;rw[hv.1] at e;cases e
 ·simp only[Value.slice.injEq] at hv;rw[hv.1] at e;simp only[blk,Option.map_some,Option.some.injEq] at e;rw[e,hB] at hg;simp only[Option.some.injEq,Obj.cells.injEq] at hg;exact hT hg.2.1
theorem OwnB.cap0 {base:Nat} {w:World} {sp:Option Addr} {c:Nat} {l:List Nat} (h:OwnB base w sp c l):sp=none→c=0:=by
 intro e;rcases h.owns.2 with⟨hv,h0⟩|⟨g,cap,cur,hv,_⟩
 ·simp only[Value.slice.injEq] at hv;exact hv.2.2
 ·simp only[Value.slice.injEq] at hv;rw[hv.1] at e;cases e
theorem OwnB.some_ {base:Nat} {w:World} {sp:Option Addr} {c:Nat} {l:List Nat} (h:OwnB base w sp c l) (hl:0<l.length):sp≠none:=by
 rcases h.owns.2 with⟨hv,h0⟩|⟨g,cap,cur,hv,_⟩
 ·omega
 ·simp only[Value.slice.injEq] at hv;rw[hv.1];simp
theorem tyne:(3:TypeId)≠5∧(9:TypeId)≠5:=by decide
theorem za2 (base:Nat) {w:World} {sp:Option Addr} {n0 c:Nat} {l:List Nat} (hn0:l.length=n0) (hown:OwnB base w sp c l) (B m mc:Nat) (ns:List Nat) (hm:ns.length=m) (hB:w.heap[B]? = some (.cells (zcc ns) 3 (0,0)))
  (hns:∀ n∈ns,n≤1099511627776) (hsz:l.length+6*m≤140737488355328) (hm2:m≤1000) (hbase:base≤w.heap.size) :
  Calls Tryz.prog 49 #[.slice sp n0 c,.slice (some ⟨B,0,none⟩) m mc] w fun e w'=>∃ sp' n' c',e=.returned (.slice sp' n' c')∧Hid ((l++zg1 ns).length=n')∧OwnB base w' sp' c' (l++zg1 ns)∧Grew w sp w' sp':=by
 have HO:=zaa hown;have HN:=zaa hn0;have HM:=zaa hm;have HB:=zaa hB;have HNE:=zaa (hown.ne hB tyne.1);have HNS:=zaa hns
 have LE:=zaa (show ∀ j,((ns.take j).flatMap zap).length≤6*m from fun j=>by
  have h1:=zb6 zap 6 (ns.take j) (fun x hx=>zan x (hns x (List.mem_of_mem_take hx)));have h2:(ns.take j).length≤m:=by rw[← hm,List.length_take];omega
  omega)
 clear hown hn0 hm hB hns;go_enter Tryz.func49,Tryz.ntmps49
 go_wp2
 go_loopw [0,11] (fun v i wr=>∃ (j:Nat) (sp':Option Addr) (n' c':Nat),j≤m∧v=.slice sp' n' c'∧i=.int .i64 (j:Int)∧Hid ((l++(ns.take j).flatMap zap).length=n')∧Hid (OwnB base wr sp' c' (l++(ns.take j).flatMap zap))∧Hid (Grew w sp wr sp')) (fun _ i _=>m - (intOf i).toNat)
 case atStart=>exact⟨0,sp,n0,c,by omega,rfl,rfl,zaa (by simpa using za HN),zaa (by simpa using za HO),Grew.refl _ _⟩
 case round =>
  obtain⟨j,sp',n',c',hj,rfl,rfl,hl',ho',hg'⟩:=hrel;by_cases hjm:j<m
  ·have y0:(0:Int)≤(j:Int):=by omega
   have y1:(j:Int)<(m:Int):=by omega
   have hjl:j<ns.length:=by rw[za HM];exact hjm
   have hBr:=Grew.block (za hg') (za HB) (za HNE);have p0:=zah hBr j _ (zmv ns j hjl);have hx:=za HNS ns[j] (List.getElem_mem hjl);have FT:=zaa (zby zap ns j hjl);generalize ns[j]=x at *
   have hs1:=zaa (show(l++(ns.take j).flatMap zap).length+(zap x).length≤140737488355328 by
    have:=za LE (j+1);rw[za FT,List.length_append] at this
    rw[List.length_append];omega)
   have hbr:base≤wr.heap.size:=Nat.le_trans hbase (za hg').grown.size;clear hBr
   go_wp2_with fail
   refine(zk8 x wr hx).mono ?_;rintro e V ⟨xp,xn,xc,rfl,hxn,hxo,hxb⟩;have ho2:=zaa ((za ho').later hxb);have HV:=zaa hxb;have XB:=zaa hxo.bytes;have X0:=zaa hxo.cap0;have hvs:base≤V.heap.size:=Nat.le_trans hbr hxb.size;have hs2:=zaa (show(l++(ns.take j).flatMap zap).length+xn≤140737488355328 by rw[← za hxn];exact za hs1);clear hxb hxo hx
   go_wp2_with (at_builtin;refine zbc rfl (.tmp 20) (.tmp 21) rfl base sp' n' c' _ rfl (za hl') (za ho2) xp xn xc rfl (zap x) (za hxn) (za XB) (za X0) (za hs2) hvs ?_;intro sp2 n2 c2 W2 hn2 ho3 hg2 hb2;rw[List.append_assoc,← za FT] at hn2 ho3;have HO3:=zaa ho3;clear ho3)
   have hbn:=zaa ((za hg').trans (Grew.aside (za HV) ⟨hg2,hb2⟩));exact⟨⟨j+1,sp2,n2,c2,by omega,rfl,by go_num,by first|exact hn2|exact zaa (by rw[List.length_append];exact za hn2),za HO3,za hbn⟩,by simp[intOf];omega⟩
  ·have hjj:¬ (j:Int)<(m:Int):=by omega
   have E:=zaa (show(ns.take j).flatMap zap=zg1 ns by rw[List.take_of_length_le (by rw[za HM];omega)];rfl)
   go_wp2
   go_ret
   exact⟨sp',n',c',rfl,zaa (by rw[← za E];simpa using za hl'),by rw[← za E];exact za ho',za hg'⟩
def zet (c:UInt8):Bool:=(decide (97≤c.toNat)&&decide (c.toNat≤122))||((decide (48≤c.toNat)&&decide (c.toNat≤57))||decide (c.toNat=45))
def zch (c:UInt8):Bool:=decide (33≤c.toNat)&&decide (c.toNat≤126)
def zjz (c:UInt8):Bool:=zch c&&(!decide (c.toNat=63) && !decide (c.toNat=35))
def zea (s:ByteArray) (most:Nat) (f:UInt8→Bool):Bool:=decide (1≤s.size)&&decide (s.size≤most)&&s.data.toList.all f
def zcq (s:ByteArray):Bool:=zea s 64 zet
def zdb (s:ByteArray):Bool:=zea s 64 zch
def zc7 (s:ByteArray):Bool:=zea s 128 zjz&&(s.data.toList.head? == some 47)
def zff:Bool→List UInt8→Bool
 |b,[]=>b
 |b,c::r=>if c=46 then b&&zff false r else zet c&&zff true r
def zbs (s:ByteArray):Bool:=decide (s.size≤64)&&zff false s.data.toList
def wtB (n:Nat):Bool:=decide (n<9218868437227405312)
abbrev Tgt:=ByteArray×Nat
structure Cmd where
 act:Int
 cli:Int
 seq:Int
 exp:Int
 host:ByteArray
 pre:ByteArray
 pool:ByteArray
 ts:List Tgt
def zbe (c:Cmd):Bool:=decide (1≤c.act∧c.act≤4)&&decide (0≤c.cli∧c.cli≤32)&&(if c.cli=0 then decide (c.seq=0) else decide (1≤c.seq∧c.seq≤1099511627776))&&decide (-1≤c.exp∧c.exp≤1099511627775)
def zbk (a:Int):Bool:=decide (a=3)||decide (a=4)
def zbi (c:Cmd):Bool:=(zbk c.act||(decide (c.host.size=0)&&decide (c.pre.size=0)))&&(!decide (c.act=4)||decide (c.pool.size=0))&&(decide (c.act=1)||decide (c.ts.length=0))
def zb8 (c:Cmd):Bool:=(!zbk c.act||(zbs c.host&&zc7 c.pre))&&(decide (c.act=4)||zcq c.pool)&&c.ts.all (fun t=>zdb t.1)
def zfw (l:List Tgt):Bool:=l.all (fun t=>wtB t.2)
def zam (c:Cmd):Nat:=if zbe c&&zbi c then (if zb8 c then (if zfw c.ts then (if 16<c.ts.length then 6 else 0) else 15) else 14) else 2
theorem zn0 (s:ByteArray):s.size=0↔s.data.toList=[]:=by
 rw[← List.length_eq_zero_iff,Array.length_toList];rfl
theorem zio:∀ (l:List UInt8),(Lib.index l [46]=-1∧(46:UInt8) ∉ l)∨(∃ i:Nat,Lib.index l [46]=i∧i<l.length∧l=l.take i++46::l.drop (i+1)∧(46:UInt8) ∉ l.take i)
 |[]=>.inl ⟨rfl,by simp⟩
 |b::t=>by
  have hp:[46].isPrefixOf (b::t)=(b==46):=by
   rw[List.isPrefixOf,List.isPrefixOf,Bool.and_true,Bool.eq_iff_iff,beq_iff_eq,beq_iff_eq,eq_comm]
  by_cases hb:b=46
  ·subst hb;refine .inr ⟨0,?_,by simp,by simp,by simp⟩;unfold Lib.index;rw[hp,if_pos (by simp)];rfl
  ·have hb2:¬ (b==46)=true:=by simpa using hb
   rcases zio t with⟨h1,h2⟩|⟨i,h1,h2,h3,h4⟩
   ·refine .inl ⟨?_,?_⟩
    ·unfold Lib.index;rw[hp,if_neg hb2,h1];rfl
    ·intro hm;rcases List.mem_cons.1 hm with e|e
     ·exact hb e.symm
     ·exact h2 e
   ·refine .inr ⟨i+1,?_,by simp;omega,?_,?_⟩
    ·unfold Lib.index;rw[hp,if_neg hb2,if_neg (by rw[beq_iff_eq,h1];omega),h1];omega
    ·rw[List.take_succ_cons,List.drop_succ_cons,List.cons_append,← h3]
    ·rw[List.take_succ_cons];intro hm;rcases List.mem_cons.1 hm with e|e
     ·exact hb e.symm
     ·exact h4 e
theorem zis:∀ (a:List UInt8) (b:Bool),(46:UInt8) ∉ a→zff b a=(a.all zet&&(b || !a.isEmpty))
 |[],b,_=>by simp[zff]
 |c::r,b,h=>by
  have hc:c≠46:=fun e=>h (e ▸ List.mem_cons_self);unfold zff;rw[if_neg hc,zis r true (fun e=>h (List.mem_cons_of_mem _ e))];simp
theorem zit:∀ (a:List UInt8) (b:Bool) (r:List UInt8),(46:UInt8) ∉ a→zff b (a++46::r)=((a.all zet&&(b || !a.isEmpty))&&zff false r)
 |[],b,r,_=>by simp[zff]
 |c::t,b,r,h=>by
  have hc:c≠46:=fun e=>h (e ▸ List.mem_cons_self);rw[List.cons_append]
  conv=>lhs;unfold zff
  rw[if_neg hc,zit t true r (fun e=>h (List.mem_cons_of_mem _ e))];simp[Bool.and_assoc]
theorem zkq (s:ByteArray) (h:s.size≤64):zcq s=(s.data.toList.all zet && !s.data.toList.isEmpty):=by
 unfold zcq zea;rw[decide_eq_true h,Bool.and_true];have:decide (1≤s.size) = !s.data.toList.isEmpty:=by
  rw[Bool.eq_iff_iff,decide_eq_true_eq];simp only[Bool.not_eq_true',List.isEmpty_eq_false_iff];have:=zn0 s;constructor
  ·intro h1 h2;have:=this.2 h2;omega
  ·intro h1;have:s.size≠0:=fun e=>h1 (this.1 e);omega
 rw[this,Bool.and_comm]
def zf7:ByteArray:=⟨#[46]⟩
theorem zlh:∀ (n:Nat) (s:ByteArray),s.size=n→s.size≤64→(Lib.splitB zf7 0 (Lib.countB s zf7) s).all zcq=zff false s.data.toList:=by
 intro n;induction n using Nat.strongRecOn with
 |ind n ih =>
  intro s hn h64;rcases zio s.data.toList with⟨h1,h2⟩|⟨i,h1,h2,h3,h4⟩
  ·rw[Lib.splitB_miss _ _ _ _ h1,zis _ _ h2];simp[zkq s h64]
  ·have hc:Lib.countB s zf7=1+Lib.countB (s.extract (i+1) s.size) zf7:=by
    have:=Lib.count_hit (s:=s.data.toList) (sub:=[46]) (by simp) h1;have e:(s.extract (i+1) s.size).data.toList=s.data.toList.drop (i+1):=Lib.extract_to_end s (i+1);show Lib.count _ _=1+Lib.count _ _
    rw[e];exact this
   have hi:i<s.size:=by simpa using h2
   have hs:(s.extract (i+1) s.size).size=s.size - (i+1):=by simp
   rw[hc,Nat.add_comm,Lib.splitB_hit zf7 0 _ s i h1,List.all_cons,show zf7.size=1 from rfl,ih (s.size - (i+1)) (by omega) _ hs (by omega)];have e0:(s.extract 0 (i+0)).data.toList=s.data.toList.take i:=Lib.extract_from_zero s i;have e1:(s.extract (i+1) s.size).data.toList=s.data.toList.drop (i+1):=Lib.extract_to_end s (i+1);rw[zkq _ (by simp;omega),e0,e1]
   conv=>rhs;rw[h3,zit _ _ _ h4]
   simp
theorem zm5 (k:Nat):∀ (s p:ByteArray),p∈Lib.splitB zf7 0 k s→p.size≤s.size:=by
 induction k with
 |zero=>intro s p hp;rw[Lib.splitB_zero] at hp;simp at hp;rw[hp];exact Nat.le_refl _
 |succ k ih =>
  intro s p hp;unfold Lib.splitB at hp;split at hp
  ·simp at hp;rw[hp];exact Nat.le_refl _
  ·rcases List.mem_cons.1 hp with rfl|hp
   ·simp;omega
   ·refine Nat.le_trans (ih _ _ hp) ?_;simp
end
end Go.Proofs.YtjcjleaicjhpeaaGreatDoor
section
namespace Go.Proofs
open Go.Shelf
def Tryz.laysM146_ren:Go.Shelf.Ren:=⟨fun|146=>132|221=>166|268=>201|138=>202|143=>203|195=>215|197=>216|218=>217|219=>218|260=>222|217=>223|225=>224|224=>225|267=>226|266=>227|314=>228|n=>n,fun|9=>9|31=>80|3=>3|4=>4|0=>0|105=>248|21=>21|5=>5|46=>191|119=>256|139=>259|138=>258|146=>260|51=>218|n=>n,fun|1=>1|3=>2|4=>3|n=>n⟩
theorem Tryz.laysM146:Go.Proofs.LaysM.n146 Tryz.prog Tryz.laysM146_ren:={
 mixed:=by kernel_rfl
 f138:=Tryz.func202.trans (congrArg some (by kernel_rfl))
 f143:=Tryz.func203.trans (congrArg some (by kernel_rfl))
 f146:=Tryz.func132.trans (congrArg some (by kernel_rfl))
 f195:=Tryz.func215.trans (congrArg some (by kernel_rfl))
 f197:=Tryz.func216.trans (congrArg some (by kernel_rfl))
 f217:=Tryz.func223.trans (congrArg some (by kernel_rfl))
 f218:=Tryz.func217.trans (congrArg some (by kernel_rfl))
 f219:=Tryz.func218.trans (congrArg some (by kernel_rfl))
 f221:=Tryz.func166.trans (congrArg some (by kernel_rfl))
 f224:=Tryz.func225.trans (congrArg some (by kernel_rfl))
 f225:=Tryz.func224.trans (congrArg some (by kernel_rfl))
 f260:=Tryz.func222.trans (congrArg some (by kernel_rfl))
 f266:=Tryz.func227.trans (congrArg some (by kernel_rfl))
 f267:=Tryz.func226.trans (congrArg some (by kernel_rfl))
 f268:=Tryz.func201.trans (congrArg some (by kernel_rfl))
 f314:=Tryz.func228.trans (congrArg some (by kernel_rfl))
 t0:=Tryz.underlying0
 a0:=Tryz.isAgg0
 z0:=Tryz.sizeOf0
 v0:=Tryz.zeroValue0
 t3:=Tryz.underlying3
 a3:=Tryz.isAgg3
 z3:=Tryz.sizeOf3
 v3:=Tryz.zeroValue3
 t4:=Tryz.underlying4
 a4:=Tryz.isAgg4
 z4:=Tryz.sizeOf4
 v4:=Tryz.zeroValue4
 t5:=Tryz.underlying5
 a5:=Tryz.isAgg5
 z5:=Tryz.sizeOf5
 v5:=Tryz.zeroValue5
 t9:=Tryz.underlying9
 a9:=Tryz.isAgg9
 z9:=Tryz.sizeOf9
 v9:=Tryz.zeroValue9
 t21:=Tryz.underlying21
 a21:=Tryz.isAgg21
 z21:=Tryz.sizeOf21
 v21:=Tryz.zeroValue21
 t31:=Tryz.underlying80
 a31:=Tryz.isAgg80
 z31:=Tryz.sizeOf80
 v31:=Tryz.zeroValue80
 t46:=Tryz.underlying191
 a46:=Tryz.isAgg191
 z46:=Tryz.sizeOf191
 v46:=Tryz.zeroValue191
 t51:=Tryz.underlying218
 a51:=Tryz.isAgg218
 z51:=Tryz.sizeOf218
 v51:=Tryz.zeroValue218
 t105:=Tryz.underlying248
 a105:=Tryz.isAgg248
 z105:=Tryz.sizeOf248
 v105:=Tryz.zeroValue248
 t119:=Tryz.underlying256
 a119:=Tryz.isAgg256
 z119:=Tryz.sizeOf256
 t138:=Tryz.underlying258
 a138:=Tryz.isAgg258
 z138:=Tryz.sizeOf258
 v138:=Tryz.zeroValue258
 t139:=Tryz.underlying259
 a139:=Tryz.isAgg259
 z139:=Tryz.sizeOf259
 v139:=Tryz.zeroValue259
 t146:=Tryz.underlying260
 a146:=Tryz.isAgg260
 z146:=Tryz.sizeOf260
 v146:=Tryz.zeroValue260
 g1:=by kernel_rfl
 g3:=by kernel_rfl
 g4:=by kernel_rfl
 i0:=by kernel_rfl
 i3:=by kernel_rfl
 i4:=by kernel_rfl
 i5:=by kernel_rfl
 i9:=by kernel_rfl
 i21:=by kernel_rfl
 i31:=by kernel_rfl
 i46:=by kernel_rfl
 i51:=by kernel_rfl
 i105:=by kernel_rfl
 i138:=by kernel_rfl
 i139:=by kernel_rfl
 i146:=by kernel_rfl
 m1:=by kernel_rfl
 s1_3:=fun w h=>Go.Proofs.cell_of_shapedOpen_int (zero:=#[.int .i64 0]) (t:=3) h (of_decide_eq_true (by kernel_rfl)) (by kernel_rfl) rfl (by kernel_rfl) (by kernel_rfl) Tryz.underlying3
 m3:=by kernel_rfl
 m4:=by kernel_rfl }
end Go.Proofs
end
namespace Go.Proofs.YtjcjleaicjhpeaaGreatDoor
section
open Go.ChangeShapes Go.WideShapes Go.ChangeAt Go.RowKit
theorem za3 (n a b:Int) (w:World):Calls Tryz.prog 74 #[.int .i64 n,.int .i64 a,.int .i64 b] w fun e w'=>e=.returned (.bool (decide (a≤n∧n≤b)))∧w'=w:=by
 by_cases h1:a≤n
 ·by_cases h2:n≤b
  ·have e:decide (a≤n∧n≤b)=true:=decide_eq_true ⟨h1,h2⟩;rw[e];go_enter Tryz.func74,Tryz.ntmps74
   go_wp2
   go_ret
   exact⟨by simp,rfl⟩
  ·have e:decide (a≤n∧n≤b)=false:=decide_eq_false fun h=>h2 h.2;rw[e];go_enter Tryz.func74,Tryz.ntmps74
   go_wp2
   go_ret
   exact⟨by simp,rfl⟩
 ·have e:decide (a≤n∧n≤b)=false:=decide_eq_false fun h=>h1 h.1;rw[e];go_enter Tryz.func74,Tryz.ntmps74
  go_wp2
  go_ret
  exact⟨by simp,rfl⟩
theorem zfl (a:Int) (w:World):Calls Tryz.prog 75 #[.int .i64 a] w fun e w'=>e=.returned (.bool (zbk a))∧w'=w:=by
 by_cases h1:a=3
 ·subst h1;go_enter Tryz.func75,Tryz.ntmps75
  go_wp2
  go_ret
  exact⟨rfl,rfl⟩
 ·by_cases h2:a=4
  ·subst h2;go_enter Tryz.func75,Tryz.ntmps75
   go_wp2
   go_ret
   exact⟨by first|rfl|(simp;omega)|(simp;done)|(congr 2;rw[Bool.eq_iff_iff];simp;omega),rfl⟩
  ·have e:zbk a=false:=by simp[zbk,h1,h2]
   rw[e];go_enter Tryz.func75,Tryz.ntmps75
   go_wp2
   go_ret
   exact⟨by first|rfl|(simp;omega)|(simp;done)|(congr 2;rw[Bool.eq_iff_iff];simp;omega),rfl⟩
theorem zeb (c:UInt8) (w:World):Calls Tryz.prog 167 #[.int .u8 (c.toNat:Int)] w fun e w'=>e=.returned (.bool (zch c))∧w'=w:=by
 unfold zch;generalize c.toNat=n;by_cases h1:33≤n
 ·by_cases h2:n≤126
  ·have i1:(33:Int)≤(n:Int):=by omega
   have i2:(n:Int)≤126:=by omega
   go_enter Tryz.func167,Tryz.ntmps167
   go_wp2
   go_ret
   exact⟨by first|rfl|(simp;omega)|(simp;done)|(congr 2;rw[Bool.eq_iff_iff];simp;omega),rfl⟩
  ·have i1:(33:Int)≤(n:Int):=by omega
   have i2:¬ (n:Int)≤126:=by omega
   go_enter Tryz.func167,Tryz.ntmps167
   go_wp2
   go_ret
   exact⟨by first|rfl|(simp;omega)|(simp;done)|(congr 2;rw[Bool.eq_iff_iff];simp;omega),rfl⟩
 ·have i1:¬ (33:Int)≤(n:Int):=by omega
  go_enter Tryz.func167,Tryz.ntmps167
  go_wp2
  go_ret
  exact⟨by first|rfl|(simp;omega)|(simp;done)|(congr 2;rw[Bool.eq_iff_iff];simp;omega),rfl⟩
theorem zhb (c:UInt8) (w:World):Calls Tryz.prog 134 #[.int .u8 (c.toNat:Int)] w fun e w'=>e=.returned (.bool (zjz c))∧w'=w:=by
 have HA:=zaa (fun w=>zeb c w);unfold zjz;generalize zch c=b at *;generalize c.toNat=n at *;cases b
 ·go_enter Tryz.func134,Tryz.ntmps134
  go_wp2_with (go_at_call 167;refine(za HA _).mono ?_;rintro e w' ⟨rfl,rfl⟩)
  go_ret
  exact⟨rfl,rfl⟩
 ·by_cases h1:n=63
  ·subst h1;go_enter Tryz.func134,Tryz.ntmps134
   go_wp2_with (go_at_call 167;refine(za HA _).mono ?_;rintro e w' ⟨rfl,rfl⟩)
   go_ret
   exact⟨by first|rfl|(simp;omega)|(simp;done)|(congr 2;rw[Bool.eq_iff_iff];simp;omega),rfl⟩
  ·have i1:¬ (n:Int)=63:=by omega
   by_cases h2:n=35
   ·subst h2;go_enter Tryz.func134,Tryz.ntmps134
    go_wp2_with (go_at_call 167;refine(za HA _).mono ?_;rintro e w' ⟨rfl,rfl⟩)
    go_ret
    exact⟨rfl,rfl⟩
   ·have i2:¬ (n:Int)=35:=by omega
    have j1:((n:Int) != 63)=true:=by simp;omega
    have j2:((n:Int) != 35)=true:=by simp;omega
    go_enter Tryz.func134,Tryz.ntmps134
    go_wp2_with (go_at_call 167;refine(za HA _).mono ?_;rintro e w' ⟨rfl,rfl⟩)
    go_ret
    exact⟨by first|rfl|(simp;omega)|(simp;done)|(congr 2;rw[Bool.eq_iff_iff];simp;omega),rfl⟩
theorem zi2 (c:UInt8) (w:World):Calls Tryz.prog 135 #[.int .u8 (c.toNat:Int)] w fun e w'=>e=.returned (.bool (zet c))∧w'=w:=by
 unfold zet;generalize c.toNat=n;by_cases h1:97≤n
 ·have i1:(97:Int)≤(n:Int):=by omega
  have i3:(48:Int)≤(n:Int):=by omega
  have i4:¬ (n:Int)≤57:=by omega
  have i5:¬ (n:Int)=45:=by omega
  have h5:¬ n=45:=by omega
  have h4:¬ n≤57:=by omega
  by_cases h2:n≤122
  ·have i2:(n:Int)≤122:=by omega
   clear i3 i4 i5;go_enter Tryz.func135,Tryz.ntmps135
   go_wp2
   go_ret
   exact⟨by first|rfl|(simp;omega)|(simp;done)|(congr 2;rw[Bool.eq_iff_iff];simp;omega),rfl⟩
  ·have i2:¬ (n:Int)≤122:=by omega
   go_enter Tryz.func135,Tryz.ntmps135
   go_wp2
   go_ret
   exact⟨by first|rfl|(simp;omega)|(simp;done)|(congr 2;rw[Bool.eq_iff_iff];simp;omega),rfl⟩
 ·have i1:¬ (97:Int)≤(n:Int):=by omega
  by_cases h3:48≤n
  ·have i3:(48:Int)≤(n:Int):=by omega
   have i5:¬ (n:Int)=45:=by omega
   have h5:¬ n=45:=by omega
   by_cases h4:n≤57
   ·have i4:(n:Int)≤57:=by omega
    clear i5;go_enter Tryz.func135,Tryz.ntmps135
    go_wp2
    go_ret
    exact⟨by first|rfl|(simp;omega)|(simp;done)|(congr 2;rw[Bool.eq_iff_iff];simp;omega),rfl⟩
   ·have i4:¬ (n:Int)≤57:=by omega
    go_enter Tryz.func135,Tryz.ntmps135
    go_wp2
    go_ret
    exact⟨by first|rfl|(simp;omega)|(simp;done)|(congr 2;rw[Bool.eq_iff_iff];simp;omega),rfl⟩
  ·have i3:¬ (48:Int)≤(n:Int):=by omega
   by_cases h5:n=45
   ·subst h5;go_enter Tryz.func135,Tryz.ntmps135
    go_wp2
    go_ret
    exact⟨rfl,rfl⟩
   ·have i5:¬ (n:Int)=45:=by omega
    go_enter Tryz.func135,Tryz.ntmps135
    go_wp2
    go_ret
    exact⟨by first|rfl|(simp;omega)|(simp;done)|(congr 2;rw[Bool.eq_iff_iff];simp;omega),rfl⟩
theorem zn4 (s:ByteArray) (j:Nat) (h:j<s.size):(bsT s).getD j 0=(s.data.toList[j]'(by simpa using h)).toNat:=by
 rw[List.getD_eq_getElem?_getD];unfold bsT;rw[List.getElem?_map,List.getElem?_eq_getElem (by simpa using h)];rfl
theorem zf1 (s:ByteArray) (most K:Nat) (f:UInt8→Bool) (hK:∀ (c:Array Value) (w:World),(callFunc K c).run Tryz.prog w=.ok (.enter K c) w)
  (hf:∀ (c:UInt8) (w:World),Calls Tryz.prog K (#[.int .u8 (c.toNat:Int)]++#[]) w fun e w'=>e=.returned (.bool (f c))∧w'=w) (hs:s.size≤140737488355328) (w:World) :
  Calls Tryz.prog 133 #[.string s,.int .i64 (most:Int),.func (.func K) #[] #[]] w fun e w'=>e=.returned (.bool (zea s most f))∧Below w.heap.size w w':=by
 have CW:=zaa (fun w=>za3 (s.size:Int) 1 (most:Int) w);have HF:=zaa hf;have E0:=zaa (show zea s most f=(decide (1≤s.size)&&decide (s.size≤most)&&s.data.toList.all f) from rfl);clear hf;by_cases h1:1≤s.size∧s.size≤most
 ·have e1:decide ((1:Int)≤(s.size:Int)∧(s.size:Int)≤(most:Int))=true:=decide_eq_true ⟨by omega,by omega⟩;have E:=zaa (show zea s most f=s.data.toList.all f by rw[za E0,decide_eq_true h1.1,decide_eq_true h1.2];rfl);rw[e1] at CW;clear e1 E0 h1;obtain⟨c,W1,hcv,hc,hb,hB⟩:=znm w s;have HB:=zaa hb;have B1:=zaa hB;have hn:=zhv s;clear hb hB;go_enter Tryz.func133,Tryz.ntmps133
  go_wp2_with (go_at_call 74;refine(za CW _).mono ?_;rintro e w' ⟨rfl,rfl⟩)
  go_loopw [17] (fun i wr=>∃ j:Nat,i=.int .i64 (j:Int)∧j≤s.size∧Hid (s.data.toList.all f=(s.data.toList.drop j).all f)∧Hid (wr=W1)) (fun i _=>s.size - (intOf i).toNat)
  case atStart=>exact⟨0,rfl,by omega,zaa rfl,zaa rfl⟩
  case round =>
   obtain⟨j,rfl,hj,hE,HW⟩:=hrel;have hw:=za HW;subst hw;by_cases h:j<s.size
   ·have hlt:(j:Int)<(s.size:Int):=by omega
    have hj0:(0:Int)≤(j:Int):=by omega
    have hjl:j<s.data.toList.length:=by simpa using h
    obtain⟨b,off,hbe,hcell⟩:=(za HB).cell j (by rw[hn];exact h);simp only[Option.some.injEq,Addr.mk.injEq,and_true] at hbe;obtain⟨rfl,rfl⟩:=hbe;rw[zn4 s j h,Nat.zero_add] at hcell;have hd:s.data.toList.drop j=s.data.toList[j]::s.data.toList.drop (j+1):=List.drop_eq_getElem_cons hjl;have HD:=zaa (show s.data.toList.all f=(f s.data.toList[j]&&(s.data.toList.drop (j+1)).all f) by rw[za hE,hd];rfl);have CF:=zaa (za HF s.data.toList[j]);generalize s.data.toList[j]=x at *;clear hd hE HF;cases hx:f x
    ·rw[hx] at HD CF;have E3:=zaa (show zea s most f=false by rw[za E,za HD];rfl);clear hx
     go_wp2_with fail
     refine(za CF _).mono ?_;rintro e w' ⟨rfl,rfl⟩
     go_wp2
     go_ret
     exact⟨by rw[za E3];rfl,za B1⟩
    ·rw[hx] at HD CF;clear hx
     go_wp2_with fail
     refine(za CF _).mono ?_;rintro e w' ⟨rfl,rfl⟩
     go_wp2
     exact⟨⟨j+1,by go_num,by omega,zaa (by rw[za HD];rfl),HW⟩,by simp[intOf];omega⟩
   ·have hlt:¬ (j:Int)<(s.size:Int):=by omega
    have E3:=zaa (show zea s most f=true by rw[za E,za hE,List.drop_of_length_le (by rw[Array.length_toList];show s.size≤j;omega)];rfl)
    go_wp2
    go_ret
    exact⟨by rw[za E3];rfl,za B1⟩
 ·have e1:decide ((1:Int)≤(s.size:Int)∧(s.size:Int)≤(most:Int))=false:=decide_eq_false fun h=>h1 ⟨by omega,by omega⟩
  have E:=zaa (show zea s most f=false by
   rw[za E0];by_cases h2:1≤s.size
   ·have h3:¬ s.size≤most:=fun h=>h1 ⟨h2,h⟩;simp[h3]
   ·simp[h2])
  rw[e1] at CW;clear e1 E0 h1;go_enter Tryz.func133,Tryz.ntmps133
  go_wp2_with (go_at_call 74;refine(za CW _).mono ?_;rintro e w' ⟨rfl,rfl⟩)
  go_ret
  exact⟨by rw[za E];rfl,Below.refl _ _⟩
theorem zip (c:Array Value) (w:World):(callFunc 135 c).run Tryz.prog w=.ok (.enter 135 c) w:=by
 simp[callFunc,go_sem,Tryz.func135];rw[if_neg (by decide +kernel),if_neg (by decide +kernel)]
theorem zgs (c:Array Value) (w:World):(callFunc 167 c).run Tryz.prog w=.ok (.enter 167 c) w:=by
 simp[callFunc,go_sem,Tryz.func167];rw[if_neg (by decide +kernel),if_neg (by decide +kernel)]
theorem zh (c:Array Value) (w:World):(callFunc 134 c).run Tryz.prog w=.ok (.enter 134 c) w:=by
 simp[callFunc,go_sem,Tryz.func134];rw[if_neg (by decide +kernel),if_neg (by decide +kernel)]
theorem ze (s:ByteArray) (hs:s.size≤140737488355328) (w:World):Calls Tryz.prog 78 #[.string s] w fun e w'=>e=.returned (.bool (zcq s))∧Below w.heap.size w w':=by
 have CM:=zaa (fun w=>zf1 s 64 135 zet zip (fun c w=>zi2 c w) hs w);unfold zcq;generalize zea s 64 zet=b at *;go_enter Tryz.func78,Tryz.ntmps78
 go_wp2_with (go_at_call 133;refine(za CM _).mono ?_;rintro e w' ⟨rfl,hb⟩)
 go_ret
 exact⟨rfl,hb⟩
theorem zd9 (s:ByteArray) (hs:s.size≤140737488355328) (w:World):Calls Tryz.prog 136 #[.string s] w fun e w'=>e=.returned (.bool (zdb s))∧Below w.heap.size w w':=by
 have CM:=zaa (fun w=>zf1 s 64 167 zch zgs (fun c w=>zeb c w) hs w);unfold zdb;generalize zea s 64 zch=b at *;go_enter Tryz.func136,Tryz.ntmps136
 go_wp2_with (go_at_call 133;refine(za CM _).mono ?_;rintro e w' ⟨rfl,hb⟩)
 go_ret
 exact⟨rfl,hb⟩
theorem zha (s:ByteArray) (hs:s.size≤140737488355328) (w:World):Calls Tryz.prog 77 #[.string s] w fun e w'=>e=.returned (.bool (zc7 s))∧Below w.heap.size w w':=by
 have CM:=zaa (fun w=>zf1 s 128 134 zjz zh (fun c w=>zhb c w) hs w);cases hm:zea s 128 zjz
 ·have E:=zaa (show zc7 s=false by unfold zc7;rw[hm];rfl);rw[hm] at CM;clear hm;go_enter Tryz.func77,Tryz.ntmps77
  go_wp2_with (go_at_call 133;refine(za CM _).mono ?_;rintro e w' ⟨rfl,hb⟩)
  go_ret
  exact⟨by rw[za E];rfl,hb⟩
 ·have h1:1≤s.size:=by
   unfold zea at hm;simp only[Bool.and_eq_true,decide_eq_true_eq] at hm;exact hm.1.1
  have hl:0<s.data.toList.length:=by rw[Array.length_toList];exact h1
  have hx:(0:Int)<(s.size:Int):=by omega
  have hh:s.data.toList.head? = some (s[0]'h1):=by
   rw[List.head?_eq_getElem?,List.getElem?_eq_getElem hl];rfl
  have E:=zaa (show zc7 s=(((s[0]'h1).toNat:Int)==47) by
   unfold zc7;rw[hm,hh,Bool.true_and,Bool.eq_iff_iff];simp only[beq_iff_eq,Option.some.injEq];rw[← UInt8.toNat_inj];have:(47:UInt8).toNat=47:=rfl
   omega)
  rw[hm] at CM;clear hm hh hl;generalize hy:(s[0]'h1)=x at *;have hx2:∀ hh,(s[0]'hh)=x:=fun _=>hy;have hz:(s.toList)[0]? = some x:=by rw[ByteArray.toList_eq,List.getElem?_eq_getElem (by rw[Array.length_toList];exact h1)];exact congrArg some hy
  go_enter Tryz.func77,Tryz.ntmps77
  go_wp2_with (go_at_call 133;refine(za CM _).mono ?_;rintro e w' ⟨rfl,hb⟩)
  go_ret
  exact⟨by rw[za E];rfl,hb⟩
theorem zdc (x:Nat) (w:World):(callFunc 91 #[.float .f64 x]).run Tryz.prog w=.ok (.value (.int .u64 (x:Int))) w:=by
 rw[run_callFunc_extern Tryz.func91 (by kernel_rfl) (by kernel_rfl) (by kernel_rfl) (e:=Extern.MathFloatBits.float64bits) (by kernel_rfl)];rfl
theorem zk0 (x:Nat) (w:World):(callFunc 122 #[.int .u64 (x:Int)]).run Tryz.prog w=.ok (.value (.float .f64 x)) w:=by
 rw[run_callFunc_extern Tryz.func122 (by kernel_rfl) (by kernel_rfl) (by kernel_rfl) (e:=Extern.MathFloatBits.float64frombits) (by kernel_rfl)];rfl
end
end Go.Proofs.YtjcjleaicjhpeaaGreatDoor
