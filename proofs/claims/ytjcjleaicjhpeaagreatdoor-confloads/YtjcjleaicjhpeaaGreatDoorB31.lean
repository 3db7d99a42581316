/- Plane: configurations that are the same. -/
import Derived.Test.YtjcjleaicjhpeaaGreatDoorB07
import Derived.Test.YtjcjleaicjhpeaaGreatDoorB02
import Derived.Test.YtjcjleaicjhpeaaGreatDoorB24
import Derived.Test.YtjcjleaicjhpeaaGreatDoorB15
import Derived.Test.YtjcjleaicjhpeaaGreatDoorB30
import Derived.Test.YtjcjleaicjhpeaaGreatDoorB17
import Derived.Test.YtjcjleaicjhpeaaGreatDoorB08
import Derived.Test.YtjcjleaicjhpeaaGreatDoorB03
import Derived.Test.YtjcjleaicjhpeaaGreatDoorB29
import Derived.Test.YtjcjleaicjhpeaaGreatDoorB27
set_option linter.unusedVariables false
set_option maxRecDepth 20000
set_option maxHeartbeats 16000000
namespace Go.Proofs.YtjcjleaicjhpeaaGreatDoor
section
open Go.ChangeShapes Go.WideShapes Go.ChangeAt Go.RowKit
theorem zp9 (x:Nat) (w:World):(callFunc 91 #[.float .f64 x]).run Tryz.prog w=.ok (.value (.int .u64 (x:Int))) w:=by
 rw[run_callFunc_extern Tryz.func91 (by kernel_rfl) (by kernel_rfl) (by kernel_rfl) (e:=Extern.MathFloatBits.float64bits) (by kernel_rfl)];rfl
theorem znu {w:World} {a b:Option Addr} {l:List Tg} (h1:TgsAt w a l) (h2:TgsAt w b l) (n c1 c2:Nat) (hn:l.length=n) (hx:n≤maxLen) :
  Calls Tryz.prog 47 #[.slice a n c1,.slice b n c2] w fun e w'=>e=.returned (.bool true)∧Below w.heap.size w w':=by
 have H1:=zaa h1;have H2:=zaa h2;have HN:=zaa hn;simp only[maxLen] at hx;clear h1 h2 hn;have hbits:=zp9;go_enter Tryz.func47,Tryz.ntmps47
 go_wp2_with fail
 go_loopw [5] (fun i wr=>∃ j:Nat,j≤n∧i=.int .i64 (j:Int)∧Hid (Below w.heap.size w wr)) (fun i _=>n - (intOf i).toNat)
 case atStart=>exact⟨0,by omega,rfl,zaa (Below.refl _ _)⟩
 case round =>
  obtain⟨j,hj,rfl,B⟩:=hrel;by_cases hjn:j<n
  ·have y0:(0:Int)≤(j:Int):=by omega
   have y1:(j:Int)<(n:Int):=by omega
   have hjl:j<l.length:=by rw[za HN];exact hjn
   obtain⟨b1,o1,rfl,q0,q1⟩:=(za H1).cell j hjl;obtain⟨b2,o2,rfl,r0,r1⟩:=(za H2).cell j hjl;have p0:=cell_later (za B) q0;have p1:=cell_later (za B) q1;have s0:=cell_later (za B) r0;have s1:=cell_later (za B) r1;generalize l[j]=t at *;obtain⟨s,x⟩:=t;simp only at p0 p1 s0 s1;have hss:(s.toList==s.toList)=true:=by simp
   have BD:=zaa (show ∀ k,Below w.heap.size w (wr.drewN k) from fun k=>⟨(za B).os,(za B).tape,(za B).output,(za B).size,(za B).block⟩);clear q0 q1 r0 r1
   go_wp2_with fail
   go_quiet (fail)
   go_wp2
   exact⟨⟨j+1,by omega,by go_num,za BD _⟩,by simp[intOf];omega⟩
  ·have hjj:¬ (j:Int)<(n:Int):=by omega
   obtain rfl:j=n:=by omega
   go_wp2
   go_ret
   exact⟨rfl,za B⟩
theorem znt {w:World} {e:Cf} {h1 h2:CfH} (hc1:CfAt w e h1) (hc2:CfAt w e h2) :
  Calls Tryz.prog 21 #[zcw e h1,zcw e h2] w fun r w'=>r=.returned (.bool true)∧Below w.heap.size w w':=by
 unfold zcw;have b1:Below w.heap.size w (w.alloc (.cells #[.int .i64 e.ver,.slice h1.ra e.rs.length h1.rc,.slice h1.pa e.ps.length h1.pc] 45)):=(Below.refl _ _).alloc (Nat.le_refl _) _;have b2:=b1.alloc b1.size (.cells #[.int .i64 e.ver,.slice h2.ra e.rs.length h2.rc,.slice h2.pa e.ps.length h2.pc] 45);have s1:(w.alloc (.cells #[.int .i64 e.ver,.slice h1.ra e.rs.length h1.rc,.slice h1.pa e.ps.length h1.pc] 45)).heap.size=w.heap.size+1:=by simp
 have X1:=zaa (show((w.alloc (.cells #[.int .i64 e.ver,.slice h1.ra e.rs.length h1.rc,.slice h1.pa e.ps.length h1.pc] 45)).alloc (.cells #[.int .i64 e.ver,.slice h2.ra e.rs.length h2.rc,.slice h2.pa e.ps.length h2.pc] 45)).heap[w.heap.size]? = some (.cells #[.int .i64 e.ver,.slice h1.ra e.rs.length h1.rc,.slice h1.pa e.ps.length h1.pc] 45 (0,0)) by rw[Below.heap_alloc _ _ _ (by simp)];exact zad _ _);have X2:=zaa (show((w.alloc (.cells #[.int .i64 e.ver,.slice h1.ra e.rs.length h1.rc,.slice h1.pa e.ps.length h1.pc] 45)).alloc (.cells #[.int .i64 e.ver,.slice h2.ra e.rs.length h2.rc,.slice h2.pa e.ps.length h2.pc] 45)).heap[w.heap.size+1]? = some (.cells #[.int .i64 e.ver,.slice h2.ra e.rs.length h2.rc,.slice h2.pa e.ps.length h2.pc] 45 (0,0)) by rw[← s1];exact zad _ _);have B2:=zaa b2;have R1:=zaa hc1.rts;have R2:=zaa hc2.rts;have P1:=zaa hc1.pos;have P2:=zaa hc2.pos;have hrl:=hc1.rl.1;have hpl:=hc1.pl.1;obtain⟨ver,rs,ps⟩:=e;obtain⟨ra1,rc1,pa1,pc1⟩:=h1;obtain⟨ra2,rc2,pa2,pc2⟩:=h2;simp only at *;simp only[maxLen] at hrl hpl;generalize hn:rs.length=n at *;generalize hm:ps.length=m at *;have HN:=zaa hn;have HM:=zaa hm;clear hc1 hc2 b1 b2 s1 hn hm;have k10:=zab (za X1) 0 _ rfl;have k11:=zab (za X1) 1 _ rfl;have k12:=zab (za X1) 2 _ rfl;have k20:=zab (za X2) 0 _ rfl;have k21:=zab (za X2) 1 _ rfl;have k22:=zab (za X2) 2 _ rfl;go_enter Tryz.func21,Tryz.ntmps21
 go_wp2_with fail
 generalize ((w.alloc (.cells #[.int .i64 ver,.slice ra1 n rc1,.slice pa1 m pc1] 45)).alloc (.cells #[.int .i64 ver,.slice ra2 n rc2,.slice pa2 m pc2] 45))=W2 at *;go_loopw [5] (fun i wr=>∃ j:Nat,j≤m∧i=.int .i64 (j:Int)∧Hid (Below W2.heap.size W2 wr)) (fun i _=>m - (intOf i).toNat)
 case atStart=>exact⟨0,by omega,rfl,zaa (Below.refl _ _)⟩
 case round =>
  obtain⟨j,hj,rfl,B⟩:=hrel;have F:=zaa ((za B2).trans ((za B).mono (za B2).size));by_cases hjn:j<m
  ·have y0:(0:Int)≤(j:Int):=by omega
   have y1:(j:Int)<(m:Int):=by omega
   have hjl:j<ps.length:=by rw[za HM];exact hjn
   obtain⟨g1,o1,ta1,tc1,rfl,q0,q1,T1,hl1,_⟩:=(za P1).cell j hjl;obtain⟨g2,o2,ta2,tc2,rfl,r0,r1,T2,hl2,_⟩:=(za P2).cell j hjl;have p12:=cell_later (za B) k12;have p22:=cell_later (za B) k22;have p0:=cell_later (za F) q0;have p1:=cell_later (za F) q1;have s0:=cell_later (za F) r0;have s1:=cell_later (za F) r1;have BD:=zaa (show Below w.heap.size w wr.drew from(za F).drew);have BW:=zaa (show Below W2.heap.size W2 wr.drew from(za B).drew);have ST:=zaa (fun W (hb:Below w.heap.size w W)=>znu (T1.later hb) (T2.later hb) ps[j].ts.length tc1 tc2 rfl hl1.1);generalize ps[j].ts.length=tl at *;generalize ps[j].nm=nm at *;have hss:(nm.toList==nm.toList)=true:=by simp
   have KP:=zaa (show ∀ W:World,Below wr.heap.size wr W→W.cell? ⟨w.heap.size,2,none⟩=some (.slice (some ⟨g1,o1,none⟩) m pc1)∧W.cell? ⟨w.heap.size+1,2,none⟩=some (.slice (some ⟨g2,o2,none⟩) m pc2)∧W.cell? ⟨g1,o1+j*2,none⟩=some (.string nm)∧W.cell? ⟨g2,o2+j*2,none⟩=some (.string nm)∧W.cell? ⟨g1,o1+j*2+1,none⟩=some (.slice ta1 tl tc1)∧W.cell? ⟨g2,o2+j*2+1,none⟩=some (.slice ta2 tl tc2) from fun W hb=>⟨cell_later hb p12,cell_later hb p22,cell_later hb p0,cell_later hb s0,cell_later hb p1,cell_later hb s1⟩);clear q0 q1 r0 r1 T1 T2 hl1 hl2
   go_wp2_with fail
   refine wp_region_held_drew (S:=fun w'=>w'.cell? ⟨w.heap.size,2,none⟩=some (.slice (some ⟨g1,o1,none⟩) m pc1)∧w'.cell? ⟨w.heap.size+1,2,none⟩=some (.slice (some ⟨g2,o2,none⟩) m pc2)∧w'.cell? ⟨g1,o1+j*2,none⟩=some (.string nm)∧w'.cell? ⟨g2,o2+j*2,none⟩=some (.string nm)∧w'.cell? ⟨g1,o1+j*2+1,none⟩=some (.slice ta1 tl tc1)∧w'.cell? ⟨g2,o2+j*2+1,none⟩=some (.slice ta2 tl tc2)) (by kernel_rfl) ?_ (fun hHeld=>?_)
   ·try dsimp only
    first|(have hV:B7=B7:=rfl;clear hV;exact za KP _ (za B7))|exact⟨p12,p22,p0,s0,p1,s1⟩
   refine hT 0 ?_;refine hT 1 ?_;refine hT 2 ?_;refine hT 3 ?_;refine hT 4 ?_;refine hT 5 ?_;refine hT 6 ?_;refine hT 7 ?_;refine hT 8 ?_;refine hT 9 ?_;refine hT 10 ?_;refine hT 11 ?_;refine hT 12 ?_;refine hT 13 ?_;refine hT 14 ?_;refine hT 15 ?_;refine hT 16 ?_;refine hT 17 ?_;refine hT 18 ?_;refine hT 19 ?_;refine hT 20 ?_;refine hT 21 ?_;refine hT 22 ?_;refine hT 23 ?_;refine hT 24 ?_;refine hT 25 ?_;refine hO 26 (fun K hK=>?_);go_simp
   first
    |(go_at_call 47
      refine(za ST _ (za BD)).mono ?_;rintro e V1 ⟨rfl,v1⟩;have B7:=zaa (show Below wr.heap.size wr V1 from⟨v1.os,v1.tape,v1.output,v1.size,v1.block⟩);have B8:=zaa ((za B).trans ((za B7).mono (za B).size))
      clear v1)
   go_wp2_with fail
   refine hK.out _ _ ?_ (fun hHeld=>?_)
   ·try dsimp only
    first|(have hV:B7=B7:=rfl;clear hV;exact za KP _ (za B7))|exact⟨p12,p22,p0,s0,p1,s1⟩
   clear hK K;refine hP ?_;refine hT 27 ?_;refine hT 28 ?_;refine wpAnyH_done (by kernel_rfl) ?_ _
   go_wp2
   exact⟨⟨j+1,by omega,by go_num,za B8⟩,by simp[intOf];omega⟩
  ·have hjj:¬ (j:Int)<(m:Int):=by omega
   obtain rfl:j=m:=by omega
   have p12:=cell_later (za B) k12
   go_wp2_with fail
   go_loopw [6] (fun i wr=>∃ j2:Nat,j2≤n∧i=.int .i64 (j2:Int)∧Hid (Below W2.heap.size W2 wr)) (fun i _=>n - (intOf i).toNat)
   case atStart=>exact⟨0,by omega,rfl,B⟩
   case round =>
    obtain⟨j2,hj2,rfl,B'⟩:=hrel;have F':=zaa ((za B2).trans ((za B').mono (za B2).size));have p11:=cell_later (za B') k11;have p21:=cell_later (za B') k21;by_cases hjn2:j2<n
    ·have y0:(0:Int)≤(j2:Int):=by omega
     have y1:(j2:Int)<(n:Int):=by omega
     have hjl:j2<rs.length:=by rw[za HN];exact hjn2
     obtain⟨g1,o1,rfl,q0,q1,q2⟩:=(za R1).cell j2 hjl;obtain⟨g2,o2,rfl,r0,r1,r2⟩:=(za R2).cell j2 hjl;have a0:=cell_later (za F') q0;have a1:=cell_later (za F') q1;have a2:=cell_later (za F') q2;have d0:=cell_later (za F') r0;have d1:=cell_later (za F') r1;have d2:=cell_later (za F') r2;generalize rs[j2]=r at *;obtain⟨rh,rp,rl⟩:=r;simp only at a0 a1 a2 d0 d1 d2;have BD:=zaa (show ∀ k,Below W2.heap.size W2 (wr.drewN k) from fun k=>⟨(za B').os,(za B').tape,(za B').output,(za B').size,(za B').block⟩);clear q0 q1 q2 r0 r1 r2
     go_wp2_with fail
     go_quiet (fail)
     go_wp2
     exact⟨⟨j2+1,by omega,by go_num,za BD _⟩,by simp[intOf];omega⟩
    ·have hjj2:¬ (j2:Int)<(n:Int):=by omega
     obtain rfl:j2=n:=by omega
     go_wp2
     go_ret
     exact⟨rfl,za F'⟩
theorem zq3 {base:Nat} {w:World} {T:TypeId} {k n c:Nat} {sp:Option Addr} {xs:List Value} (h:w.ownsRow base T k (.slice sp n c) n xs):n≤c∧(sp=none→c=0):=by
 rcases h.2 with⟨hv,h0⟩|⟨g,cap,cur,hv,hb,hh,hle,_⟩
 ·simp only[Value.slice.injEq] at hv;exact⟨by omega,fun _=>hv.2.2⟩
 ·simp only[Value.slice.injEq] at hv;refine⟨by rw[hv.2.2];exact hle,fun e=>?_⟩;rw[hv.1] at e;cases e
structure SmB (x:Sm):Prop where
 pn:x.ps.length≤900
 rn:x.rs.length≤900
 cn:x.cl.length≤900
 vr:0≤x.ver∧x.ver≤1099511627776
 rs:∀ r∈x.rs,r.h.size≤128∧r.p.size≤128∧r.l.size≤128
 ps:∀ p∈x.ps,p.po.nm.size≤128∧p.po.ts.length≤16∧∀ t∈p.po.ts,t.1.size≤128
theorem SmB.ok {x:Sm} (h:SmB x):SmOk x:=by
 have hv:=h.vr;refine⟨⟨?_,?_,?_,?_⟩,by omega,by have:=h.cn;omega⟩
 ·have:=h.rn;show x.rs.length≤1000;omega
 ·have:=h.pn;show(x.ps.map Pq.po).length≤1000;rw[List.length_map];omega
 ·intro r hr;obtain⟨h1,h2,h3⟩:=h.rs r hr;omega
 ·intro p hp;obtain⟨q,hq,rfl⟩:=List.mem_map.1 hp;obtain⟨h1,h2,h3⟩:=h.ps q hq;exact⟨by omega,by omega,fun t ht=>Nat.le_trans (h3 t ht) (by omega)⟩
theorem RtAt.cfB {w:World} {r:Nat} {k:RfH} {y:Sm} (t:RtAt w r k y) (hs:SmB y):CfAt w y.cf ⟨k.ra,k.rc,k.pa,k.pc⟩:=by
 have hn:=hs.pn;have hm:=hs.rn;obtain⟨hr,hz⟩:=zq3 t.rw_;obtain⟨hp,_⟩:=zq3 t.pw;rw[List.length_map] at hp;refine⟨hs.ok.ver,⟨fun q hq=>?_,fun i hi=>?_⟩,⟨fun i hi=>?_⟩,⟨by show y.rs.length≤maxLen;simp only[maxLen];omega,hr⟩,⟨by show(y.ps.map Pq.po).length≤maxLen;rw[List.length_map];simp only[maxLen];omega,by show(y.ps.map Pq.po).length≤k.pc;rw[List.length_map];exact hp⟩,hz⟩
 ·have:=hs.rs q hq;simp only[maxLen];omega
 ·obtain⟨g,h1,h2,h3,h4,h5⟩:=t.rw_.cell i hi;exact⟨g,0,h1,by rw[Nat.zero_add];exact h3,by rw[Nat.zero_add];exact h4,by rw[Nat.zero_add];exact h5⟩
 ·have hi':i<y.ps.length:=by simpa [Sm.cf] using hi
  obtain⟨g,h1,h2,h3,h4⟩:=t.pw.cell i (by rw[List.length_map];exact hi');obtain⟨d1,d2,d3⟩:=t.dt y.ps[i] (List.getElem_mem hi');have hts:=(hs.ps y.ps[i] (List.getElem_mem hi')).2.1;have e:y.cf.ps[i]=y.ps[i].po:=by simp[Sm.cf]
  rw[e];refine⟨g,0,y.ps[i].ta,y.ps[i].tc,h1,?_,?_,d1,⟨by simp only[maxLen];omega,d2⟩,d3⟩
  ·simpa [Pq.pr] using h3
  ·simpa [Pq.pr] using h4
theorem zs4 {w:World} {b k r:Nat} {t:ByteArray} {cs:Array Value} {T:TypeId} (hc:w.cell? ⟨b,k,none⟩=some (.string t)) (hr:w.heap[r]? = some (.cells cs T (0,0))) (hcs:∀ (k:Nat) (t:ByteArray),cs[k]?≠some (Value.string t)):b≠r:=fun e=>by
 subst e;rw[cell_of_row _ _ _ _ _ _ hr] at hc;exact hcs _ _ hc
theorem CfAt.aside {w w':World} {e:Cf} {k:CfH} (f:CfAt w e k) {r:Nat} {cs:Array Value} {T:TypeId} (hg:w.grownBy w' (some r)) (hr:w.heap[r]? = some (.cells cs T (0,0))) (hcs:∀ (k:Nat) (t:ByteArray),cs[k]?≠some (Value.string t)):CfAt w' e k:=by
 have keep:∀ {b k:Nat} {t:ByteArray},w.cell? ⟨b,k,none⟩=some (.string t)→w'.heap[b]? = w.heap[b]?:=fun {b k t} hc=>hg.block b (zq hc) (fun e=>zs4 hc hr hcs (Option.some.inj e));refine⟨f.wv,⟨f.rts.sz,fun i hi=>?_⟩,⟨fun i hi=>?_⟩,f.rl,f.pl,f.rz⟩
 ·obtain⟨b,off,e1,h1,h2,h3⟩:=f.rts.cell i hi;have hb:=keep h1;exact⟨b,off,e1,(World.cell?_of_block hb).trans h1,(World.cell?_of_block hb).trans h2,(World.cell?_of_block hb).trans h3⟩
 ·obtain⟨b,off,ta,tc,e1,h1,h2,h3,h4⟩:=f.pos.cell i hi;have hb:=keep h1;refine⟨b,off,ta,tc,e1,(World.cell?_of_block hb).trans h1,(World.cell?_of_block hb).trans h2,⟨h3.lt,fun q hq=>?_⟩,h4⟩;obtain⟨b2,o2,e2,g1,g2⟩:=h3.cell q hq;have hb2:=keep g1;exact⟨b2,o2,e2,(World.cell?_of_block hb2).trans g1,(World.cell?_of_block hb2).trans g2⟩
theorem SmB.small {y:Sm} (hs:SmB y):zp4 y.cf:=by
 have hn:=hs.pn;have hm:=hs.rn;refine⟨by show y.rs.length≤1000;omega,by show(y.ps.map Pq.po).length≤1000;rw[List.length_map];omega,fun p hp=>?_⟩;obtain⟨q,hq,rfl⟩:=List.mem_map.1 hp;have:=(hs.ps q hq).2.1;omega
theorem zlt {w:World} {r:Nat} {k:RfH} {y:Sm} (t:RtAt w r k y) (hs:SmB y) :
  Calls Tryz.prog 33 #[.pointer (some ⟨r,0,none⟩)] w fun e w'=>∃ h',e=.returned (zcw y.cf h')∧CfAt w' y.cf h'∧Below w.heap.size w w':=by
 have b1:Below w.heap.size w (w.alloc (.cells #[.int .i64 0,.slice none 0 0,.slice none 0 0] 45)):=(Below.refl _ _).alloc (Nat.le_refl _) _;have X1:=zad w (.cells #[.int .i64 0,.slice none 0 0,.slice none 0 0] 45);have t1:=t.later b1;have c0:=zab t1.hd 0 _ rfl;have c1:=zab t1.hd 1 _ rfl;have c2:=zab t1.hd 2 _ rfl;have CC:=zaa (zmx (t1.cfB hs) hs.small);have s1:w.heap.size<(w.alloc (.cells #[.int .i64 0,.slice none 0 0,.slice none 0 0] 45)).heap.size:=(Array.getElem?_eq_some_iff.1 X1).1;have EC:=zaa (show ∀ h',zcw y.cf h'=.agg #[.int .i64 y.ver,.slice h'.ra y.rs.length h'.rc,.slice h'.pa y.ps.length h'.pc] from fun h'=>by simp[zcw,Sm.cf]);have NC:=zaa (show ∀ h',zcw y.cf h'=zcw y.cf h' from fun _=>rfl);rw[za EC] at CC;generalize y.cf=cf at *;dsimp only[ztr] at c0 c1 c2;clear t t1 hs;go_enter Tryz.func33,Tryz.ntmps33
 go_wp2_with fail
 refine(za CC).mono ?_;rintro e V ⟨h',rfl,sv,bv,_⟩;rw[za EC];have row:=zac bv X1;have y0:=zae row 0 _ rfl;have y1:=zae row 1 _ rfl;have y2:=zae row 2 _ rfl;have f0:=zbf row 0;have f1:=zbf row 1;have f2:=zbf row 2;have VR:=zaa row;have SV:=zaa sv;have BV:=zaa bv;clear row sv bv
 go_wp2_with fail
 clear y0 y1 y2 f0 f1 f2;have Z:=heap_setCell_same _ w.heap.size 2 _ _ (.slice h'.pa y.ps.length h'.pc) (heap_setCell_same _ w.heap.size 1 _ _ (.slice h'.ra y.rs.length h'.rc) (heap_setCell_same V w.heap.size 0 _ _ (.int .i64 y.ver) (za VR)));have k0:=zae Z 0 (.int .i64 y.ver) rfl;have k1:=zae Z 1 (.slice h'.ra y.rs.length h'.rc) rfl;have k2:=zae Z 2 (.slice h'.pa y.ps.length h'.pc) rfl;have VB:=(((b1.trans ((za BV).mono b1.size)).setCell (p:=⟨w.heap.size,0,none⟩) (by simp) (.int .i64 y.ver)).setCell (p:=⟨w.heap.size,1,none⟩) (by simp) (.slice h'.ra y.rs.length h'.rc)).setCell (p:=⟨w.heap.size,2,none⟩) (by simp) (.slice h'.pa y.ps.length h'.pc);have VO:=(za SV).aside (zaf (zaf (zax V w.heap.size 0 (.int .i64 y.ver)) (zax _ w.heap.size 1 (.slice h'.ra y.rs.length h'.rc))) (zax _ w.heap.size 2 (.slice h'.pa y.ps.length h'.pc))) (za VR) (zrz _ _ _ _ _ _ _);generalize ((V.setCell ⟨w.heap.size,0,none⟩ (.int .i64 y.ver)).setCell ⟨w.heap.size,1,none⟩ (.slice h'.ra y.rs.length h'.rc)).setCell ⟨w.heap.size,2,none⟩ (.slice h'.pa y.ps.length h'.pc)=VV at *;refine bodyPost_ret (v:=.agg #[.int .i64 y.ver,.slice h'.ra y.rs.length h'.rc,.slice h'.pa y.ps.length h'.pc]) (by simp[results,Tryz.results33,go_sem,k0,k1,k2]) rfl ⟨h',by rw[za EC],VO,VB⟩
theorem zek {w:World} {ops:Array Oper} {o:Oper} {a:Act} {K:Act→World→Prop} {Q:Exit→Act→World→Prop} {E0:Prop} (hgd:o.guard=none) (s x:Operand)
  (ho:o.op=.call { callee:=.builtin .append,args:=#[s,x],argTypes:=#[117,117] }) (base:Nat) (sp:Option Addr) (n c:Nat) (l:List Ls) (hs:a.eval s=.slice sp n c) (hn:l.length=n) (hown:zoz base w sp c l)
  (B:Nat) (y:Ls) (hx:a.eval x=.slice (some ⟨B,0,none⟩) 1 1) (hB:w.heap[B]? = some (.cells (ze2 y).toArray 123 (0,0))) (hsz:(n+1)*32≤140737488355328) (hbase:base≤w.heap.size)
  (h:∀ sp' c' w',zoz base w' sp' c' (l++[y])→w.grownBy w' (blk sp)→K (a.put o.dst (.slice sp' (n+1) c')) w') :
  if Region.wanted o (yielded ops a.tmps)=true then Oper.wp Tryz.prog o a w K Q else E0:=by
 subst hn;have hw:Region.wanted o (yielded ops a.tmps)=true:=by simp[Region.wanted,hgd]
 rw[if_pos hw];obtain⟨i0,hi,hz0,hz1,hz2⟩:=info_parts zuf;obtain⟨v',w',hrun,h1,h2,h3⟩:=run_append_own (P:=Tryz.prog) w base 117 o.type 123 i0 _ 4 32 Tryz.underlying117 hi hz0 hz1 hz2 rfl (by omega) _ _ _ hown ⟨B,0,none⟩ 1 1 (ze2 y) rfl
  (fun j u hu=>by
   rw[Addr.add_lit,Nat.zero_add,cell_of_row _ _ _ _ _ _ hB]
   rw[← hu,← Array.getElem?_toList]) (zjs y) (by simp only[maxLen];omega) (by omega) hbase
 have hv:∃ sp' c',v'=.slice sp' (l.length+1) c':=by
  rcases h1.2 with⟨hv,h0⟩|⟨g,cap,cur,hv,_⟩
  ·omega
  ·exact⟨_,_,hv⟩
 obtain⟨sp',c',rfl⟩:=hv;unfold Oper.wp;simp[execOp,ho,resolve,invoke,builtin,hs,hx,hrun,Result.andThen];refine h sp' c' w' ?_ (by rw[← zbd sp l.length c];exact h2);unfold zoz;rw[List.length_append,show zgl (l++[y])=zgl l++ze2 y from by simp[zgl]];exact h1
theorem zf1 {w:World} {ops:Array Oper} {o:Oper} {a:Act} {K:Act→World→Prop} {Q:Exit→Act→World→Prop} {E0:Prop} (hgd:o.guard=none) (k:Nat) (ho:o.op=.buildSlice 117 1 #[(0,.tmp k)]) (y:Ls) (hv:a.eval (.tmp k)=zul y)
  (h:∀ E w',w.heap.size=E→w'.heap[E]? = some (.cells (ze2 y).toArray 123 (0,0))→Below w.heap.size w w'→K (a.put o.dst (.slice (some ⟨E,0,none⟩) 1 1)) w') :
  if Region.wanted o (yielded ops a.tmps)=true then Oper.wp Tryz.prog o a w K Q else E0:=by
 have hw:Region.wanted o (yielded ops a.tmps)=true:=by simp[Region.wanted,hgd]
 rw[if_pos hw];obtain⟨hh,pp,ll,vv⟩:=y;have hs':a.tmps[k]?.getD undef=.agg #[.int .i64 hh,.int .i64 pp,.int .i64 ll,.int .i64 vv]:=by simpa [zul,go_sem] using hv
 have h1:=h w.heap.size _ rfl (zad w (.cells (ze2 ⟨hh,pp,ll,vv⟩).toArray 123)) ((Below.refl _ _).alloc (Nat.le_refl _) _);unfold Oper.wp;simp[execOp,ho,go_sem,hs'];exact h1
theorem zcc {base base':Nat} {W W':World} {T T':TypeId} {k k' n n' m c:Nat} {v:Value} {xs ys:List Value} {sp:Option Addr} (h:W.ownsRow base T k v n xs) (hp:W.ownsRow base' T' k' (.slice sp m c) n' ys) (hg:W.grownBy W' (blk sp)) (hT:T'≠T):W'.ownsRow base T k v n xs:=by
 cases hb:blk sp with
 |none =>
  rw[hb] at hg;exact zay h ⟨hg.os,hg.tape,hg.output,hg.size,fun g hgl=>hg.block g hgl (by simp)⟩
 |some r =>
  rw[hb] at hg;obtain⟨_,cur,hr⟩:=zdf hp hb;exact zcq h hg hr hT
structure DSt (R r base:Nat) (w0 W:World) (p:Option Addr) (c:Nat) (h:List Nat) (k e:Nat) (ver:Int) (kk:RfH) (rs:List Rt) (lq:List Pq) (cl:List Ls):Prop where
 cb:W.heap[r]? = some (.cells #[.int .i64 ver,.slice kk.ra rs.length kk.rc,.slice kk.pa lq.length kk.pc,.slice kk.la cl.length kk.lc] 119 (0,0))
 z:ZR R W p c h k e
 rw_:zku base W kk.ra kk.rc rs
 pw:OwnPq base W kk.pa kk.pc lq
 lw:zoz base W kk.la kk.lc cl
 g:w0.grownBy W (some R)
 lt:R<w0.heap.size∧w0.heap.size≤r∧r<base∧base≤W.heap.size
 bits:∀ q∈lq,∀ t∈q.po.ts,t.2<18446744073709551616
section
variable {R r base:Nat} {w0 W W':World} {p:Option Addr} {c:Nat} {h:List Nat} {k e k0 e0:Nat} {ver:Int} {kk:RfH} {rs:List Rt} {lq:List Pq} {cl:List Ls}
theorem DSt.num (s:DSt R r base w0 W p c h k e ver kk rs lq cl) {k' e':Nat} (z:ZR R W' p c h k' e') (g:W.grownBy W' (some R)):DSt R r base w0 W' p c h k' e' ver kk rs lq cl:=by
 obtain⟨l1,l2,l3,l4⟩:=s.lt;exact⟨(g.block r (Array.getElem?_eq_some_iff.1 s.cb).1 (fun e=>by have:=Option.some.inj e;omega)).trans s.cb,z,zar s.rw_ g (by omega),s.pw.farK g (by omega),zar s.lw g (by omega),zaf s.g g,⟨l1,l2,l3,Nat.le_trans l4 g.size⟩,s.bits⟩
theorem DSt.later (s:DSt R r base w0 W p c h k e ver kk rs lq cl) (hb:Below W.heap.size W W'):DSt R r base w0 W' p c h k e ver kk rs lq cl:=by
 obtain⟨l1,l2,l3,l4⟩:=s.lt;exact⟨zac hb s.cb,s.z.later hb,zay s.rw_ hb,s.pw.later hb,zay s.lw hb,zaf s.g (zao hb _),⟨l1,l2,l3,Nat.le_trans l4 hb.size⟩,s.bits⟩
theorem DSt.setV (s:DSt R r base w0 W p c h k e ver kk rs lq cl) (z0:ZR R w0 p c h k0 e0) (v:Int):DSt R r base w0 (W.setCell ⟨r,0,none⟩ (.int .i64 v)) p c h k e v kk rs lq cl:=by
 obtain⟨l1,l2,l3,l4⟩:=s.lt;have g:=zak W r 0 (.int .i64 v);have hb:Below w0.heap.size W (W.setCell ⟨r,0,none⟩ (.int .i64 v)):=zcb (Below.refl _ _) g (by omega) s.g.size;exact⟨heap_setCell_same W r 0 _ _ _ s.cb,z0.kept s.g s.z hb,zar s.rw_ g l3,s.pw.farK g l3,zar s.lw g l3,zam s.g hb,⟨l1,l2,l3,Nat.le_trans l4 g.size⟩,s.bits⟩
theorem DSt.pushP (s:DSt R r base w0 W p c h k e ver kk rs lq cl) (z0:ZR R w0 p c h k0 e0) (x:Pq) (hx:zbq base W x.ta x.tc x.po.ts) (hbits:∀ t∈x.po.ts,t.2<18446744073709551616) {sp':Option Addr} {c':Nat} (hn:zeq base W' sp' c' (lq.map Pq.pr++[x.pr])) (hg:W.grownBy W' (blk kk.pa)):DSt R r base w0 (W'.setCell ⟨r,2,none⟩ (.slice sp' (lq.length+1) c')) p c h k e ver { kk with pa:=sp',pc:=c' } rs (lq++[x]) cl:=by
 obtain⟨l1,l2,l3,l4⟩:=s.lt;have hb:=s.pw.below hg l4;have hP:=s.pw.push x hx hn hg;have hR:=zcc s.rw_ s.pw.row hg (by decide);have hL:=zcc s.lw s.pw.row hg (by decide);have hz:=z0.kept s.g s.z (hb.mono (by omega:w0.heap.size≤base));have hg0:=zam s.g (hb.mono (by omega:w0.heap.size≤base));have hcb:=(hb.block r l3).trans s.cb;have g:=zak W' r 2 (.slice sp' (lq.length+1) c');have hb2:Below w0.heap.size W' (W'.setCell ⟨r,2,none⟩ (.slice sp' (lq.length+1) c')):=zcb (Below.refl _ _) g (by omega) hg0.size;refine⟨?_,z0.kept hg0 hz hb2,zar hR g l3,hP.farK g l3,zar hL g l3,zam hg0 hb2,⟨l1,l2,l3,Nat.le_trans l4 (Nat.le_trans hb.size g.size)⟩,fun q hq=>?_⟩
 ·rw[List.length_append];exact heap_setCell_same W' r 2 _ _ _ hcb
 ·rcases List.mem_append.1 hq with hq|hq
  ·exact s.bits q hq
  ·rw[List.mem_singleton.1 hq];exact hbits
theorem DSt.pushR (s:DSt R r base w0 W p c h k e ver kk rs lq cl) (z0:ZR R w0 p c h k0 e0) (x:Rt) {sp':Option Addr} {c':Nat} (hn:zer base W' sp' c' (rs++[x])) (hg:W.grownBy W' (blk kk.ra)):DSt R r base w0 (W'.setCell ⟨r,1,none⟩ (.slice sp' (rs.length+1) c')) p c h k e ver { kk with ra:=sp',rc:=c' } (rs++[x]) lq cl:=by
 obtain⟨l1,l2,l3,l4⟩:=s.lt;have hb:=zbt s.rw_ hg l4;have hP:OwnPq base W' kk.pa kk.pc lq:=⟨zcc s.pw.row s.rw_ hg (by decide),fun y hy=>zcc (s.pw.dat y hy) s.rw_ hg (by decide)⟩
 have hL:=zcc s.lw s.rw_ hg (by decide);have hz:=z0.kept s.g s.z (hb.mono (by omega:w0.heap.size≤base));have hg0:=zam s.g (hb.mono (by omega:w0.heap.size≤base));have hcb:=(hb.block r l3).trans s.cb;have g:=zak W' r 1 (.slice sp' (rs.length+1) c');have hb2:Below w0.heap.size W' (W'.setCell ⟨r,1,none⟩ (.slice sp' (rs.length+1) c')):=zcb (Below.refl _ _) g (by omega) hg0.size;refine⟨?_,z0.kept hg0 hz hb2,zar hn g l3,hP.farK g l3,zar hL g l3,zam hg0 hb2,⟨l1,l2,l3,Nat.le_trans l4 (Nat.le_trans hb.size g.size)⟩,s.bits⟩;rw[List.length_append];exact heap_setCell_same W' r 1 _ _ _ hcb
theorem DSt.pushL (s:DSt R r base w0 W p c h k e ver kk rs lq cl) (z0:ZR R w0 p c h k0 e0) (x:Ls) {sp':Option Addr} {c':Nat} (hn:zoz base W' sp' c' (cl++[x])) (hg:W.grownBy W' (blk kk.la)):DSt R r base w0 (W'.setCell ⟨r,3,none⟩ (.slice sp' (cl.length+1) c')) p c h k e ver { kk with la:=sp',lc:=c' } rs lq (cl++[x]):=by
 obtain⟨l1,l2,l3,l4⟩:=s.lt;have hb:=zbt s.lw hg l4;have hP:OwnPq base W' kk.pa kk.pc lq:=⟨zcc s.pw.row s.lw hg (by decide),fun y hy=>zcc (s.pw.dat y hy) s.lw hg (by decide)⟩
 have hR:=zcc s.rw_ s.lw hg (by decide);have hz:=z0.kept s.g s.z (hb.mono (by omega:w0.heap.size≤base));have hg0:=zam s.g (hb.mono (by omega:w0.heap.size≤base));have hcb:=(hb.block r l3).trans s.cb;have g:=zak W' r 3 (.slice sp' (cl.length+1) c');have hb2:Below w0.heap.size W' (W'.setCell ⟨r,3,none⟩ (.slice sp' (cl.length+1) c')):=zcb (Below.refl _ _) g (by omega) hg0.size;refine⟨?_,z0.kept hg0 hz hb2,zar hR g l3,hP.farK g l3,zar hn g l3,zam hg0 hb2,⟨l1,l2,l3,Nat.le_trans l4 (Nat.le_trans hb.size g.size)⟩,s.bits⟩;rw[List.length_append];exact heap_setCell_same W' r 3 _ _ _ hcb
theorem DSt.at_ (s:DSt R r base w0 W p c h k e ver kk rs lq cl):RtAt W r kk ⟨ver,lq,rs,cl⟩:=by
 refine⟨?_,zhv s.rw_ (Nat.zero_le _),(s.pw.low (Nat.zero_le _)).row,zhv s.lw (Nat.zero_le _),fun q hq=>?_⟩
 ·exact s.cb
 ·have ho:=s.pw.dat q hq;exact⟨ho.at_ (s.bits q hq),ho.cap.1,ho.cap.2⟩
end
end
end Go.Proofs.YtjcjleaicjhpeaaGreatDoor
