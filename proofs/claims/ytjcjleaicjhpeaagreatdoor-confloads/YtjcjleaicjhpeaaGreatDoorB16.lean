/- Conf: the program's reader: pools. -/
import Derived.Test.YtjcjleaicjhpeaaGreatDoorB09
import Derived.Test.YtjcjleaicjhpeaaGreatDoorB13
import Derived.Test.YtjcjleaicjhpeaaGreatDoorB04
import Derived.Test.YtjcjleaicjhpeaaGreatDoorB12
set_option linter.unusedVariables false
set_option maxRecDepth 20000
set_option maxHeartbeats 16000000
namespace Go.Proofs.YtjcjleaicjhpeaaGreatDoor
section
open Go.ChangeShapes Go.WideShapes Go.ChangeAt Go.RowKit
def zg4 (h:List Nat) (k e:Nat):Po×Nat×Nat :=
 let a:=zbp h k e
 let b:=zjf h a.2.1 a.2.2
 (⟨zaj a.1,b.1⟩,b.2.1,b.2.2)
def zje (h:List Nat):Nat→Nat→Nat→List Po×Nat×Nat
 |0,k,e=>([],k,e)
 |n+1,k,e =>
  let a:=zg4 h k e
  let r:=zje h n a.2.1 a.2.2
  (a.1::r.1,r.2.1,r.2.2)
def znf (h:List Nat) (k e:Nat):List Po×Nat×Nat :=
 let a:=zbo h k e 32
 zje h a.1 a.2.1 a.2.2
theorem zkj {h:List Nat} {k e k2 e2 k3 e3:Nat} {tb:List Nat} {ts:List Tg} (h1:zbp h k e=(tb,k2,e2)) (h2:zjf h k2 e2=(ts,k3,e3)):zg4 h k e=(⟨zaj tb,ts⟩,k3,e3):=by
 simp only[zg4,h1,h2]
theorem zdg (h:List Nat) (n k e:Nat):zje h (n+1) k e=((zg4 h k e).1::(zje h n (zg4 h k e).2.1 (zg4 h k e).2.2).1,(zje h n (zg4 h k e).2.1 (zg4 h k e).2.2).2):=rfl
theorem zot (h:List Nat):∀ n k e,(zgq h n k e).1.length=n
 |0,_,_=>rfl
 |n+1,k,e=>by
  rw[zc0,List.length_cons,zot h n]
theorem zou (h:List Nat) (k e:Nat):(zjf h k e).1.length≤16:=by
 have h1:=zot h (zbo h k e 16).1 (zbo h k e 16).2.1 (zbo h k e 16).2.2;have h2:=zdx h k e 16;have h3:zjf h k e=zgq h (zbo h k e 16).1 (zbo h k e 16).2.1 (zbo h k e 16).2.2:=rfl;rw[h3];omega
theorem zjb {w:World} {ops:Array Oper} {rest:List Oper} {o:Oper} {a:Act} {Q:Exit→Act→World→Prop} (hgd:o.guard=none) (s x:Operand)
  (ho:o.op=.call { callee:=.builtin .append,args:=#[s,x],argTypes:=#[43,43] }) (base:Nat) (sp:Option Addr) (n c:Nat) (l:List Pr) (hs:a.eval s=.slice sp n c) (hn:l.length=n) (hown:zeq base w sp c l)
  (B:Nat) (y:Pr) (hx:a.eval x=.slice (some ⟨B,0,none⟩) 1 1) (hB:w.heap[B]? = some (.cells (zfm y).toArray 54 (0,0))) (hsz:n≤100000) (hbase:base≤w.heap.size)
  (h:∀ sp' c' w',zeq base w' sp' c' (l++[y])→w.grownBy w' (blk sp)→wpList Tryz.prog ops Q rest (a.put o.dst (.slice sp' (n+1) c')) w') :
  wpList Tryz.prog ops Q (o::rest) a w:=by
 subst hn;refine zd2 hgd s x _ _ ho zqp Tryz.underlying43 rfl (by omega) base sp l.length c (zdh l) hs hown B (zfm y) hx hB rfl (fun u hu=>zjw [y] u (by simpa [zdh] using hu)) (by omega) (by omega) hbase ?_;intro sp' c' w' h1 hg;refine h sp' c' w' ?_ hg;unfold zeq;rw[List.length_append,show zdh (l++[y])=zdh l++zfm y from by simp[zdh]];exact h1
section
variable {R:Nat} {w w':World} {p:Option Addr} {c:Nat} {h:List Nat} {k e:Nat}
theorem OwnPq.farK {base:Nat} {sp:Option Addr} {cc:Nat} {l:List Pq} (x:OwnPq base w sp cc l) (g:w.grownBy w' (some R)) (hR:R<base):OwnPq base w' sp cc l :=
 ⟨zar x.row g hR,fun y hy=>zar (x.dat y hy) g hR⟩
def zs0 (R:Nat) (w:World) (p:Option Addr) (c:Nat) (h:List Nat) (r:List Po×Nat×Nat) (en:Ending) (w':World):Prop:=∃ sp cc lq,en=.returned (.slice sp lq.length cc)∧lq.map Pq.po=r.1∧OwnPq w.heap.size w' sp cc lq∧(∀ x∈lq,(∀ t∈x.po.ts,t.2<18446744073709551616)∧x.po.ts.length≤16)∧KR R w' p c h r.2.1 r.2.2∧w.grownBy w' (some R)
theorem zlb (z:KR R w p c h k e):Calls Tryz.prog 55 #[.pointer (some ⟨R,0,none⟩)] w (zs0 R w p c h (znf h k e)):=by
 have NC:=zaa (zcy z 32 (by omega));unfold zep at NC;have NL:=zaa (zdx h k e 32);have EQ:=zaa (show znf h k e=zje h (zbo h k e 32).1 (zbo h k e 32).2.1 (zbo h k e 32).2.2 from rfl);generalize zbo h k e 32=q at *;obtain⟨n,k1,e1⟩:=q;dsimp only at NC EQ NL;rw[show((32:Nat):Int)=32 from rfl] at NC;have Z0:=zaa z;have hR:=z.lt;have hn16:n≤32:=za NL;clear z;go_enter Tryz.func55,Tryz.ntmps55
 go_wp2_with fail
 go_at_call 100
 refine(za NC).mono ?_;rintro en V1 ⟨rfl,z1,g1⟩;have Z1:=zaa z1;have G1:=zaa g1;clear z1 g1 NC
 go_wp2_with fail
 go_loopw [3,4,7] (fun v s i wr=>∃ (j:Nat) (sp:Option Addr) (m cc:Nat) (lq:List Pq) (kj ej:Nat),j≤n∧v=.slice sp m cc∧i=.int .i64 (j:Int)∧Hid (lq.length=m)∧m=j∧Hid (OwnPq w.heap.size wr sp cc lq)∧Hid (∀ x∈lq,(∀ t∈x.po.ts,t.2<18446744073709551616)∧x.po.ts.length≤16)∧Hid (KR R wr p c h kj ej)∧Hid (w.grownBy wr (some R))∧Hid (zje h n k1 e1=(lq.map Pq.po++(zje h (n - j) kj ej).1,(zje h (n - j) kj ej).2))) (fun _ _ i _=>n - (intOf i).toNat)
 case atStart=>exact⟨0,none,0,0,[],k1,e1,by omega,rfl,rfl,zaa rfl,rfl,zaa (OwnPq.ofNil _ _),zaa (by simp),Z1,G1,zaa rfl⟩
 case round =>
  obtain⟨j,sp,m,cc,lq,kj,ej,hj,rfl,rfl,hl,rfl,O,LT,Z,G,E⟩:=hrel;by_cases hjm:m<n
  ·as_aux_lemma =>
   have y1:(m:Int)<(n:Int):=by omega
   have hj1:m+1≤n:=by omega
   have E2:=zaa (show zje h n k1 e1=(lq.map Pq.po++[(zg4 h kj ej).1]++(zje h (n - (m+1)) (zg4 h kj ej).2.1 (zg4 h kj ej).2.2).1,(zje h (n - (m+1)) (zg4 h kj ej).2.1 (zg4 h kj ej).2.2).2) by
    rw[za E,show n - m=(n - (m+1))+1 by omega,zdg]
    simp)
   have TC:=zaa (zdc (za Z));unfold zmn at TC;have CE:=zaa (fun k2 e2 k3 e3 tb ts=>@zkj h kj ej k2 e2 k3 e3 tb ts);generalize zg4 h kj ej=q9 at *;generalize hq1:zbp h kj ej=q1 at *;obtain⟨tb,k2,e2⟩:=q1;dsimp only at TC;clear hq1
   go_wp2_with fail
   go_at_call 101
   refine(za TC).mono ?_;rintro en V2 ⟨rfl,z2,g2⟩;have G2:=zaa (zaf (za G) g2);have O2:=zaa ((za O).farK g2 hR);have WC:=zaa (zjl z2);unfold zsy at WC;have TL:=zaa (zou h k2 e2);generalize hq1:zjf h k2 e2=q1 at *;obtain⟨ts,k3,e3⟩:=q1;have EQ9:=za CE _ _ _ _ _ _ rfl hq1;subst EQ9;dsimp only at WC E2 TL;clear z2 g2 TC O G Z E CE hq1;generalize zaj tb=s at *
   go_wp2_with fail
   go_at_call 102
   refine(za WC).mono ?_;rintro en V3 ⟨ta,tn,tc,rfl,htn,ot,lt3,z3,g3⟩;have G3:=zaa (zaf (za G2) g3);have O3:=zaa ((za O2).farK g3 hR);have OT:=zaa (ot.monoK (za G2).size);subst htn;have bA:=zaa (show Below V3.heap.size V3 (V3.alloc (.cells #[.string s,.slice ta ts.length tc] 54)) from(Below.refl _ _).alloc (Nat.le_refl _) _);have XA:=zaa (show(V3.alloc (.cells #[.string s,.slice ta ts.length tc] 54)).heap[V3.heap.size]? = some (.cells (zfm (Pq.pr ⟨⟨s,ts⟩,ta,tc⟩)).toArray 54 (0,0)) from zad V3 _);have OA:=zaa ((za O3).later (za bA));have OTA:=zaa (zay (za OT) (za bA));have L3:=zaa lt3;have G4:=zaa (zaf (za G3) (zao (za bA) (some R)));have Z4:=zaa (z3.later (za bA));have SZ:=zaa (Nat.le_trans (za G3).size (za bA).size);clear z3 g3 WC O2 G2 ot lt3 OT O3
   go_wp2_with (at_builtin;refine zjb rfl (.tmp 11) (.tmp 16) rfl w.heap.size sp m cc (lq.map Pq.pr) rfl (by rw[List.length_map];exact za hl) (by exact(za OA).row) V3.heap.size (Pq.pr ⟨⟨s,ts⟩,ta,tc⟩) rfl (by exact za XA) (by omega) (za SZ) ?_;intro sp2 c2 W2 ho2 hb2;have O6:=zaa ((za OA).push ⟨⟨s,ts⟩,ta,tc⟩ (za OTA) ho2 hb2);have B6:=zaa ((za OA).below hb2 (za SZ));clear ho2 hb2)
   have Z6:=zaa ((za Z0).kept (za G4) (za Z4) (za B6));have G6:=zaa (zam (za G4) (za B6));refine⟨⟨m+1,sp2,m+1,c2,lq++[⟨⟨s,ts⟩,ta,tc⟩],k3,e3,hj1,rfl,by go_num,zaa (by rw[List.length_append,za hl];rfl),rfl,O6,zaa (fun x hx=>?_),Z6,G6,zaa (by rw[List.map_append];exact za E2)⟩,by simp[intOf];omega⟩;rcases List.mem_append.1 hx with hx|hx
   ·exact za LT x hx
   ·rw[List.mem_singleton.1 hx];exact⟨za L3,za TL⟩
  ·as_aux_lemma =>
   have y1:¬ (m:Int)<(n:Int):=by omega
   have FF:=zaa (show zs0 R w p c h (znf h k e) (.returned (.slice sp m cc)) wr from by
    have h0:n - m=0:=by omega
    have e5:=za E;rw[h0] at e5;simp only[zje,List.append_nil] at e5;rw[za EQ,e5]
    exact⟨sp,cc,lq,by rw[za hl],rfl,za O,za LT,za Z,za G⟩)
   clear E O Z G
   go_wp2
   go_ret
   exact za FF
end
def ltR (a b:Rt):Bool:=decide (Kord.lt (a.h,a.p) (b.h,b.p))
theorem zbg (a b:Rt) (w:World):Calls Tryz.prog 125 #[.agg #[.string a.h,.string a.p,.string a.l],.agg #[.string b.h,.string b.p,.string b.l]] w fun e w'=>e=.returned (.bool (ltR a b))∧Below w.heap.size w w':=by
 obtain⟨ah,ap,al⟩:=a;obtain⟨bh,bp,bl⟩:=b;dsimp only;have b1:Below w.heap.size w (w.alloc (.cells #[.string ah,.string ap,.string al] 56)):=(Below.refl _ _).alloc (Nat.le_refl _) _;have B2:=zaa (b1.alloc b1.size (.cells #[.string bh,.string bp,.string bl] 56));have s1:(w.alloc (.cells #[.string ah,.string ap,.string al] 56)).heap.size=w.heap.size+1:=by simp
 have X1:((w.alloc (.cells #[.string ah,.string ap,.string al] 56)).alloc (.cells #[.string bh,.string bp,.string bl] 56)).heap[w.heap.size]? = some (.cells #[.string ah,.string ap,.string al] 56 (0,0)):=by rw[Below.heap_alloc _ _ _ (by simp)];exact zad _ _
 have X2:((w.alloc (.cells #[.string ah,.string ap,.string al] 56)).alloc (.cells #[.string bh,.string bp,.string bl] 56)).heap[w.heap.size+1]? = some (.cells #[.string bh,.string bp,.string bl] 56 (0,0)):=by rw[← s1];exact zad _ _
 have a0:=zab X1 0 _ rfl;have a1:=zab X1 1 _ rfl;have d0:=zab X2 0 _ rfl;have d1:=zab X2 1 _ rfl;clear b1 s1 X1 X2;by_cases h1:Kord.lt ah bh
 ·have hr:ltR ⟨ah,ap,al⟩ ⟨bh,bp,bl⟩=true:=decide_eq_true (.inl h1);have t1:Op.bytesLess ah.toList bh.toList=true:=by rw[zqs];exact decide_eq_true h1
  rw[hr];clear hr h1;go_enter Tryz.func125,Tryz.ntmps125
  go_wp2
  go_ret
  exact⟨rfl,za B2⟩
 ·have t1:Op.bytesLess ah.toList bh.toList=false:=by rw[zqs];exact decide_eq_false h1
  by_cases h2:ah=bh
  ·have t2:(ah.toList==bh.toList)=true:=by rw[zrh];exact decide_eq_true h2
   by_cases h3:Kord.lt ap bp
   ·have t3:Op.bytesLess ap.toList bp.toList=true:=by rw[zqs];exact decide_eq_true h3
    have hr:ltR ⟨ah,ap,al⟩ ⟨bh,bp,bl⟩=true:=decide_eq_true (.inr ⟨h2,h3⟩);rw[hr];clear hr h1 h2 h3;go_enter Tryz.func125,Tryz.ntmps125
    go_wp2
    go_ret
    exact⟨rfl,za B2⟩
   ·have t3:Op.bytesLess ap.toList bp.toList=false:=by rw[zqs];exact decide_eq_false h3
    have hr:ltR ⟨ah,ap,al⟩ ⟨bh,bp,bl⟩=false:=decide_eq_false (fun e=>e.elim h1 (fun k=>h3 k.2));rw[hr];clear hr h1 h2 h3;go_enter Tryz.func125,Tryz.ntmps125
    go_wp2
    go_ret
    exact⟨rfl,za B2⟩
  ·have t2:(ah.toList==bh.toList)=false:=by rw[zrh];exact decide_eq_false h2
   have hr:ltR ⟨ah,ap,al⟩ ⟨bh,bp,bl⟩=false:=decide_eq_false (fun e=>e.elim h1 (fun k=>h2 k.1));rw[hr];clear hr h1 h2;go_enter Tryz.func125,Tryz.ntmps125
   go_wp2
   go_ret
   exact⟨rfl,za B2⟩
def zf6 (base:Nat) (w:World) (sp:Option Addr) (l:List Nat) (e:Ending) (w':World):Prop:=∃ sp' n' c',e=.returned (.slice sp' n' c')∧Hid (l.length=n')∧OwnB base w' sp' c' l∧Grew w sp w' sp'
theorem za2 (base:Nat) {w:World} {sp:Option Addr} {n0 c:Nat} {l:List Nat} (hn0:l.length=n0) (hown:OwnB base w sp c l) (x:Nat) (hx:x≤1099511627776) (hsz:l.length+6≤140737488355328) (hbase:base≤w.heap.size) :
  Calls Tryz.prog 72 #[.slice sp n0 c,.int .i64 (x:Int)] w (zf6 base w sp (l++zal x)):=by
 have HO:=zaa hown;have HN:=zaa hn0;have NC:=zaa (zkl x w hx);have L6:=zaa (zap x hx);unfold zf6;clear hown hn0;go_enter Tryz.func72,Tryz.ntmps72
 go_wp2_with fail
 refine(za NC).mono ?_;rintro e V ⟨xp,xn,xc,rfl,hxn,hxo,hxb⟩;have ho2:=zaa ((za HO).later hxb);have HV:=zaa hxb;have XB:=zaa hxo.bytes;have X0:=zaa hxo.cap0;have hvs:base≤V.heap.size:=Nat.le_trans hbase hxb.size;have hs2:=zaa (show l.length+xn≤140737488355328 by rw[← za hxn];have:=za L6;omega);clear hxb hxo hx
 go_wp2_with (at_builtin;refine zbm rfl (.tmp 12) (.tmp 13) rfl base sp n0 c _ rfl (za HN) (za ho2) xp xn xc rfl (zal x) (za hxn) (za XB) (za X0) (za hs2) hvs ?_;intro sp2 n2 c2 W2 hn2 ho3 hg2 hb2;have HO3:=zaa ho3;clear ho3)
 have hbn:=zaa (Grew.aside (za HV) ⟨hg2,hb2⟩);go_ret
 exact⟨sp2,n2,c2,rfl,by first|exact hn2|exact zaa (by simpa using za hn2),za HO3,za hbn⟩
theorem zbj (base:Nat) {w:World} {sp:Option Addr} {n0 c:Nat} {l:List Nat} (hn0:l.length=n0) (hown:OwnB base w sp c l) (s:ByteArray) (hx:s.size≤1000000) (hsz:l.length+1000006≤140737488355328) (hbase:base≤w.heap.size) :
  Calls Tryz.prog 131 #[.slice sp n0 c,.string s] w (zf6 base w sp (l++txB s)):=by
 have NC:=zaa (za2 base hn0 hown s.size (by omega) (by omega) hbase);have HO:=zaa hown;unfold zf6 at NC ⊢;clear hown;go_enter Tryz.func131,Tryz.ntmps131
 go_wp2_with fail
 refine(za NC).mono ?_;rintro e V ⟨s1,m1,c1,rfl,hn1,ho1,hg1⟩;have hV:=zaa hg1;have hvs:base≤V.heap.size:=Nat.le_trans hbase hg1.grown.size;have HO1:=zaa ho1;have hne1:=zaa (ho1.some_ (by rw[List.length_append];have:=(zcm s.size).1;omega))
 have hs2:=zaa (show m1+s.size≤140737488355328 by
  rw[← za hn1,List.length_append];have h2:=zap s.size (by omega)
  omega)
 clear ho1 hg1 NC
 go_wp2_with (at_builtin;refine zfd rfl (.tmp 9) (.tmp 10) rfl s1 m1 c1 _ rfl (za hn1) (za HO1) (za hne1) s rfl (za hs2) hvs ?_;intro sp2 n2 c2 W2 hn2 ho3 hg2 hnn;rw[List.append_assoc,show zal s.size++bsT s=txB s from rfl] at hn2 ho3;have HO3:=zaa ho3;clear ho3)
 have hbn:=zaa ((za hV).trans hg2);go_ret
 exact⟨sp2,n2,c2,rfl,by first|exact hn2|exact zaa (by simpa using za hn2),za HO3,za hbn⟩
theorem ze9 (base:Nat) {w0 w:World} {a:Option Addr} {ts:List Tgt} (hT:TgsAt w0 a ts) (h0:Below w0.heap.size w0 w) (hb0:w0.heap.size≤base) {sp:Option Addr} {n0 c:Nat} {l:List Nat} (hn0:l.length=n0) (hown:OwnB base w sp c l) (m mc:Nat) (hm:ts.length=m)
  (hts:∀ t∈ts,t.1.size≤1000000) (hsz:l.length+6+1000014*m≤140737488355328) (hm2:m≤1000) (hbase:base≤w.heap.size) :
  Calls Tryz.prog 130 #[.slice sp n0 c,.slice a m mc] w (zf6 base w sp (l++zl8 ts)):=by
 have HTT:=zaa hT;have HM:=zaa hm;have H0:=zaa h0;have HNS:=zaa hts;have hsF:=zda .plain;have hbits:=zd4;have L0:=zaa (zap m (by omega));have E0:=zaa (show zal m++ts.flatMap tgB=zl8 ts by unfold zl8;rw[hm]);have CN:=zaa (za2 base hn0 hown m (by omega) (by omega) hbase);have HO:=zaa hown;unfold zf6 at CN ⊢;clear hn0 hm hts hT h0 hown;go_enter Tryz.func130,Tryz.ntmps130
 go_wp2_with fail
 refine(za CN).mono ?_;rintro e V0 ⟨s0,m0,c0,rfl,hn1,ho1,hg1⟩;have hV:=zaa hg1;have HW0:=zaa (zai hb0 (za HO) (za hV) hbase (za H0));have HO1:=zaa ho1;have hvs:base≤V0.heap.size:=Nat.le_trans hbase (za hV).grown.size;clear ho1 hg1 CN
 go_wp2_with fail
 go_loopw [0,5,6,7] (fun v i _ _ wr=>∃ (j:Nat) (sp':Option Addr) (n' c':Nat),j≤m∧v=.slice sp' n' c'∧i=.int .i64 (j:Int)∧Hid ((l++zal m++(ts.take j).flatMap tgB).length=n')∧Hid (OwnB base wr sp' c' (l++zal m++(ts.take j).flatMap tgB))∧Hid (Grew w sp wr sp')∧Hid (Below w0.heap.size w0 wr)) (fun _ i _ _ _=>m - (intOf i).toNat)
 case atStart=>exact⟨0,s0,m0,c0,by omega,rfl,rfl,zaa (by simpa using za hn1),zaa (by simpa using za HO1),hV,HW0⟩
 case round =>
  obtain⟨j,sp',n',c',hj,rfl,rfl,hl',ho',hg',hw'⟩:=hrel;by_cases hjm:j<m
  ·as_aux_lemma =>
   have y0:(0:Int)≤(j:Int):=by omega
   have y1:(j:Int)<(m:Int):=by omega
   have hj1:j+1≤m:=by omega
   have hjl:j<ts.length:=by rw[za HM];exact hjm
   obtain⟨b1,o1,rfl,q0,q1⟩:=(za HTT).cell j hjl;have hlt:=(za HTT).lt _ (List.getElem_mem hjl);have hx:=za HNS ts[j] (List.getElem_mem hjl);have FT:=zaa (zb5 tgB ts j hjl)
   have LJ:=zaa (show(l++zal m++(ts.take j).flatMap tgB).length+1000014≤140737488355328 by
    have h3:=zcg tgB 1000014 (ts.take j) (fun x hx=>zn5 x (za HNS x (List.mem_of_mem_take hx)));have h4:(ts.take j).length≤j:=by rw[List.length_take];omega
    have h5:1000014*(j+1)≤1000014*m:=Nat.mul_le_mul_left _ (by omega);have h6:=za L0;have h7:1000014*(ts.take j).length≤1000014*j:=Nat.mul_le_mul_left _ h4
    rw[List.length_append,List.length_append];omega)
   generalize ts[j]=t at *;obtain⟨s,x⟩:=t;dsimp only at q0 q1 hx hlt FT;generalize (ts.take j).flatMap tgB=done at *;have p0:=cell_later (za hw') q0;have CT:=zaa (zbj base (za hl') (za ho') s hx (by have:=za LJ;omega) (Nat.le_trans hbase (za hg').grown.size));unfold zf6 at CT;have Q1:=zaa q1;have hbw:=zaa (show base≤wr.heap.size from Nat.le_trans hbase (za hg').grown.size);clear q0 q1
   go_wp2_with fail
   refine(za CT).mono ?_;rintro e V2 ⟨s2,m2,c2,rfl,hn2,ho2,hg2⟩;have hw2:=zaa (zai hb0 (za ho') hg2 (za hbw) (za hw'));have hG2:=zaa ((za hg').trans hg2);have HO2:=zaa ho2;have p1:=cell_later (za hw2) (za Q1)
   have S8:=zaa (show(l++zal m++done++txB s).length+8≤140737488355328 by
    rw[List.length_append];have:=zcs s (by omega);have:=za LJ
    omega)
   have FT2:=zaa (show l++zal m++done++txB s++zhc x=l++zal m++(ts.take (j+1)).flatMap tgB by
    rw[za FT]
    simp[tgB,List.append_assoc])
   generalize l++zal m++done++txB s=L at *;obtain⟨wp,hwp⟩:∃ wp,wp=wr:=⟨_,rfl⟩
   subst hwp;clear ho2 hg2 CT p0 hl' ho' hg' hw' LJ FT
   go_wp2_with fail
   go_loopw [0,7] (fun v i wr=>∃ (k:Nat) (sp':Option Addr) (n' c':Nat),k≤8∧v=.slice sp' n' c'∧i=.int .i64 (k:Int)∧Hid ((L++(zhc x).take k).length=n')∧Hid (OwnB base wr sp' c' (L++(zhc x).take k))∧Hid (Grew w sp wr sp')∧Hid (Below w0.heap.size w0 wr)) (fun _ i _=>8 - (intOf i).toNat)
   case atStart=>exact⟨0,s2,m2,c2,by omega,rfl,rfl,zaa (by simpa using za hn2),zaa (by simpa using za HO2),hG2,hw2⟩
   case round =>
    obtain⟨k,sp',n',c',hk,rfl,rfl,hl',ho',hg',hw'⟩:=hrel;by_cases hk8:k<8
    ·obtain⟨sh,hs⟩:∃ sh:Nat,sh=56 - 8*k:=⟨_,rfl⟩
     have z1:(k:Int)<8:=by omega
     have hmul:IntKind.i64.wrap (8*(k:Int))=8*(k:Int):=by rw[IntKind.wrap_i64];omega
     have hsub:IntKind.i64.wrap (56 - 8*(k:Int))=(sh:Int):=by rw[IntKind.wrap_i64];omega
     have hcv:IntKind.u64.wrap (sh:Int)=(sh:Int):=by rw[IntKind.wrap_u64];omega
     have y2:sh≤64:=by omega
     have hmin:min sh 64=sh:=by omega
     have hby:=zoo x sh;have FK:=zaa (zmi x k hk8);rw[← hs] at FK;have hw8:IntKind.u8.wrap ((x:Int) / 2 ^ sh)=((x / 2 ^ sh % 256:Nat):Int):=by rw[← hby,IntKind.wrap_u8]
     have hq2:x / 2 ^ sh % 256<256:=Nat.mod_lt _ (by decide);generalize hq:x / 2 ^ sh % 256=q at *;have hlit:=zaa (zbx (l:=[q]) (zad wr (.cells #[.int .u8 (q:Int)] 5)) (by intro c hc;simp only[List.mem_cons,List.not_mem_nil,or_false] at hc;omega));have bA:=zaa (show Below wr.heap.size wr (wr.alloc (.cells #[.int .u8 (q:Int)] 5)) from(Below.refl _ _).alloc (Nat.le_refl _) _);have hbr:base≤wr.heap.size:=Nat.le_trans hbase (za hg').grown.size
     have hs2:=zaa (show(L++(zhc x).take k).length+1≤140737488355328 by
      rw[List.length_append];have:((zhc x).take k).length≤7:=by rw[List.length_take];omega
      have:=za S8
      omega)
     have hk1:k+1≤8:=by omega
     clear hs hq hk8 hby
     go_wp2_with (at_builtin;refine zbm rfl (.tmp 35) (.tmp 43) rfl base sp' n' c' _ rfl (za hl') (by exact(za ho').later (za bA)) (some ⟨wr.heap.size,0,none⟩) 1 1 rfl [q] rfl (by exact za hlit) (fun h=>by cases h) (za hs2) (Nat.le_trans hbr (za bA).size) ?_;intro sp2 n2 c2 W2 hn2 ho2 hg2 hb2;rw[List.append_assoc,← za FK] at hn2 ho2;have HO2:=zaa ho2;have HG2:=zaa hg2;have HB2:=zaa hb2;clear ho2 hg2 hb2)
     have hga:=zaa (Grew.aside (za bA) ⟨za HG2,za HB2⟩);have hbn:=zaa ((za hg').trans (za hga));have hw3:=zaa (zai hb0 (za ho') (za hga) hbr (za hw'));exact⟨⟨k+1,sp2,n2,c2,hk1,rfl,by go_num,by first|exact hn2|exact zaa (by rw[List.length_append];exact za hn2),HO2,hbn,hw3⟩,by simp[intOf];omega⟩
    ·have z1:¬ (k:Int)<8:=by omega
     have E:=zaa (show(zhc x).take k=zhc x from List.take_of_length_le (by rw[zgs];omega));rw[za E,za FT2] at hl' ho';clear FT2 hn2 HO2 hG2 hw2
     go_wp2
     exact⟨⟨j+1,sp',n',c',hj1,rfl,by go_num,by first|exact hl'|exact zaa (by simpa using za hl'),ho',hg',hw'⟩,by simp[intOf];omega⟩
  ·as_aux_lemma =>
   have hjj:¬ (j:Int)<(m:Int):=by omega
   have E:=zaa (show zal m++(ts.take j).flatMap tgB=zl8 ts by rw[List.take_of_length_le (by rw[za HM];omega)];exact za E0);rw[List.append_assoc,za E] at hl' ho'
   go_wp2
   go_ret
   exact⟨sp',n',c',rfl,by first|exact hl'|exact zaa (by simpa using za hl'),za ho',za hg'⟩
end
end Go.Proofs.YtjcjleaicjhpeaaGreatDoor
