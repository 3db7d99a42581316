/- Plane: configurations that are the same. -/
import Derived.Test.YtjcjleaicjhpeaaGreatDoorB05
import Derived.Test.YtjcjleaicjhpeaaGreatDoorB02
import Derived.Test.YtjcjleaicjhpeaaGreatDoorB06
import Derived.Test.YtjcjleaicjhpeaaGreatDoorB23
import Derived.Test.YtjcjleaicjhpeaaGreatDoorB12
import Derived.Test.YtjcjleaicjhpeaaGreatDoorB32
import Derived.Test.YtjcjleaicjhpeaaGreatDoorB33
import Derived.Test.YtjcjleaicjhpeaaGreatDoorB24
import Derived.Test.YtjcjleaicjhpeaaGreatDoorB25
import Derived.Shelf.SlIterI.Nil
import Derived.Shelf.SortM.Plain
import Derived.Shelf.SortM.SortNone
import Derived.Ground.GgzProg
import Derived.Ground.SlgmProg
import Derived.Test.YtjcjleaicjhpeaaGreatDoorProg
import Derived.Test.YtjcjleaicjhpeaaGreatDoorB08
set_option linter.unusedVariables false
set_option maxRecDepth 20000
set_option maxHeartbeats 16000000
namespace Go.Proofs.YtjcjleaicjhpeaaGreatDoor
section
open Go.ChangeShapes Go.WideShapes Go.ChangeAt Go.RowKit
theorem zpi (x:Nat) (w:World):(callFunc 91 #[.float .f64 x]).run Tryz.prog w=.ok (.value (.int .u64 (x:Int))) w:=by
 rw[run_callFunc_extern Tryz.func91 (by kernel_rfl) (by kernel_rfl) (by kernel_rfl) (e:=Extern.MathFloatBits.float64bits) (by kernel_rfl)];rfl
theorem zmv {w:World} {a b:Option Addr} {l:List Tg} (h1:TgsAt w a l) (h2:TgsAt w b l) (n c1 c2:Nat) (hn:l.length=n) (hx:n≤maxLen) :
  Calls Tryz.prog 47 #[.slice a n c1,.slice b n c2] w fun e w'=>e=.returned (.bool true)∧Below w.heap.size w w':=by
 have H1:=zaa h1;have H2:=zaa h2;have HN:=zaa hn;simp only[maxLen] at hx;clear h1 h2 hn;have hbits:=zpi;go_enter Tryz.func47,Tryz.ntmps47
 go_wp2_with fail
 go_loopw [5] (fun i wr=>∃ j:Nat,j≤n∧i=.int .i64 (j:Int)∧Hid (Below w.heap.size w wr)) (fun i _=>n - (intOf i).toNat)
 case atStart=>exact⟨0,by omega,rfl,zaa (Below.refl _ _)⟩
 case round =>
  obtain⟨j,hj,rfl,B⟩:=hrel;by_cases hjn:j<n
  ·have y0:(0:Int)≤(j:Int):=by omega
   have y1:(j:Int)<(n:Int):=by omega
   have hjl:j<l.length:=by rw[za HN];exact hjn
   obtain⟨b1,o1,rfl,q0,q1⟩:=(za H1).cell j hjl;obtain⟨b2,o2,rfl,r0,r1⟩:=(za H2).cell j hjl;have p0:=cell_later (za B) q0;have p1:=cell_later (za B) q1;have s0:=cell_later (za B) r0;have s1:=cell_later (za B) r1;generalize l[j]=t at *;obtain⟨s,x⟩:=t;simp only at p0 p1 s0 s1;have hss:(s.toList==s.toList)=true:=by simp
   have BD:=zaa (show ∀ k,Below w.heap.size w (wr.drewN k) from fun k=>⟨(za B).os,(za B).tape,(za B).output,(za B).size,(za B).block⟩);clear q0 q1 r0 r1
   go_wp2_with fail
   go_quiet (fail)
   go_wp2
   exact⟨⟨j+1,by omega,by go_num,za BD _⟩,by simp[intOf];omega⟩
  ·have hjj:¬ (j:Int)<(n:Int):=by omega
   obtain rfl:j=n:=by omega
   go_wp2
   go_ret
   exact⟨rfl,za B⟩
theorem zim {w:World} {e:Cf} {h1 h2:CfH} (hc1:CfAt w e h1) (hc2:CfAt w e h2) :
  Calls Tryz.prog 21 #[zgv e h1,zgv e h2] w fun r w'=>r=.returned (.bool true)∧Below w.heap.size w w':=by
 unfold zgv;have b1:Below w.heap.size w (w.alloc (.cells #[.int .i64 e.ver,.slice h1.ra e.rs.length h1.rc,.slice h1.pa e.ps.length h1.pc] 45)):=(Below.refl _ _).alloc (Nat.le_refl _) _;have b2:=b1.alloc b1.size (.cells #[.int .i64 e.ver,.slice h2.ra e.rs.length h2.rc,.slice h2.pa e.ps.length h2.pc] 45);have s1:(w.alloc (.cells #[.int .i64 e.ver,.slice h1.ra e.rs.length h1.rc,.slice h1.pa e.ps.length h1.pc] 45)).heap.size=w.heap.size+1:=by simp
 have X1:=zaa (show((w.alloc (.cells #[.int .i64 e.ver,.slice h1.ra e.rs.length h1.rc,.slice h1.pa e.ps.length h1.pc] 45)).alloc (.cells #[.int .i64 e.ver,.slice h2.ra e.rs.length h2.rc,.slice h2.pa e.ps.length h2.pc] 45)).heap[w.heap.size]? = some (.cells #[.int .i64 e.ver,.slice h1.ra e.rs.length h1.rc,.slice h1.pa e.ps.length h1.pc] 45 (0,0)) by rw[Below.heap_alloc _ _ _ (by simp)];exact zac _ _);have X2:=zaa (show((w.alloc (.cells #[.int .i64 e.ver,.slice h1.ra e.rs.length h1.rc,.slice h1.pa e.ps.length h1.pc] 45)).alloc (.cells #[.int .i64 e.ver,.slice h2.ra e.rs.length h2.rc,.slice h2.pa e.ps.length h2.pc] 45)).heap[w.heap.size+1]? = some (.cells #[.int .i64 e.ver,.slice h2.ra e.rs.length h2.rc,.slice h2.pa e.ps.length h2.pc] 45 (0,0)) by rw[← s1];exact zac _ _);have B2:=zaa b2;have R1:=zaa hc1.rts;have R2:=zaa hc2.rts;have P1:=zaa hc1.pos;have P2:=zaa hc2.pos;have hrl:=hc1.rl.1;have hpl:=hc1.pl.1;obtain⟨ver,rs,ps⟩:=e;obtain⟨ra1,rc1,pa1,pc1⟩:=h1;obtain⟨ra2,rc2,pa2,pc2⟩:=h2;simp only at *;simp only[maxLen] at hrl hpl;generalize hn:rs.length=n at *;generalize hm:ps.length=m at *;have HN:=zaa hn;have HM:=zaa hm;clear hc1 hc2 b1 b2 s1 hn hm;have k10:=zab (za X1) 0 _ rfl;have k11:=zab (za X1) 1 _ rfl;have k12:=zab (za X1) 2 _ rfl;have k20:=zab (za X2) 0 _ rfl;have k21:=zab (za X2) 1 _ rfl;have k22:=zab (za X2) 2 _ rfl;go_enter Tryz.func21,Tryz.ntmps21
 go_wp2_with fail
 generalize ((w.alloc (.cells #[.int .i64 ver,.slice ra1 n rc1,.slice pa1 m pc1] 45)).alloc (.cells #[.int .i64 ver,.slice ra2 n rc2,.slice pa2 m pc2] 45))=W2 at *;go_loopw [5] (fun i wr=>∃ j:Nat,j≤m∧i=.int .i64 (j:Int)∧Hid (Below W2.heap.size W2 wr)) (fun i _=>m - (intOf i).toNat)
 case atStart=>exact⟨0,by omega,rfl,zaa (Below.refl _ _)⟩
 case round =>
  obtain⟨j,hj,rfl,B⟩:=hrel;have F:=zaa ((za B2).trans ((za B).mono (za B2).size));by_cases hjn:j<m
  ·have y0:(0:Int)≤(j:Int):=by omega
   have y1:(j:Int)<(m:Int):=by omega
   have hjl:j<ps.length:=by rw[za HM];exact hjn
   obtain⟨g1,o1,ta1,tc1,rfl,q0,q1,T1,hl1,_⟩:=(za P1).cell j hjl;obtain⟨g2,o2,ta2,tc2,rfl,r0,r1,T2,hl2,_⟩:=(za P2).cell j hjl;have p12:=cell_later (za B) k12;have p22:=cell_later (za B) k22;have p0:=cell_later (za F) q0;have p1:=cell_later (za F) q1;have s0:=cell_later (za F) r0;have s1:=cell_later (za F) r1;have BD:=zaa (show Below w.heap.size w wr.drew from(za F).drew);have BW:=zaa (show Below W2.heap.size W2 wr.drew from(za B).drew);have ST:=zaa (fun W (hb:Below w.heap.size w W)=>zmv (T1.later hb) (T2.later hb) ps[j].ts.length tc1 tc2 rfl hl1.1);generalize ps[j].ts.length=tl at *;generalize ps[j].nm=nm at *;have hss:(nm.toList==nm.toList)=true:=by simp
   have KP:=zaa (show ∀ W:World,Below wr.heap.size wr W→W.cell? ⟨w.heap.size,2,none⟩=some (.slice (some ⟨g1,o1,none⟩) m pc1)∧W.cell? ⟨w.heap.size+1,2,none⟩=some (.slice (some ⟨g2,o2,none⟩) m pc2)∧W.cell? ⟨g1,o1+j*2,none⟩=some (.string nm)∧W.cell? ⟨g2,o2+j*2,none⟩=some (.string nm)∧W.cell? ⟨g1,o1+j*2+1,none⟩=some (.slice ta1 tl tc1)∧W.cell? ⟨g2,o2+j*2+1,none⟩=some (.slice ta2 tl tc2) from fun W hb=>⟨cell_later hb p12,cell_later hb p22,cell_later hb p0,cell_later hb s0,cell_later hb p1,cell_later hb s1⟩);clear q0 q1 r0 r1 T1 T2 hl1 hl2
   go_wp2_with fail
   refine wp_region_held_drew (S:=fun w'=>w'.cell? ⟨w.heap.size,2,none⟩=some (.slice (some ⟨g1,o1,none⟩) m pc1)∧w'.cell? ⟨w.heap.size+1,2,none⟩=some (.slice (some ⟨g2,o2,none⟩) m pc2)∧w'.cell? ⟨g1,o1+j*2,none⟩=some (.string nm)∧w'.cell? ⟨g2,o2+j*2,none⟩=some (.string nm)∧w'.cell? ⟨g1,o1+j*2+1,none⟩=some (.slice ta1 tl tc1)∧w'.cell? ⟨g2,o2+j*2+1,none⟩=some (.slice ta2 tl tc2)) (by kernel_rfl) ?_ (fun hHeld=>?_)
   ·try dsimp only
    first|(have hV:B7=B7:=rfl;clear hV;exact za KP _ (za B7))|exact⟨p12,p22,p0,s0,p1,s1⟩
   refine hT 0 ?_;refine hT 1 ?_;refine hT 2 ?_;refine hT 3 ?_;refine hT 4 ?_;refine hT 5 ?_;refine hT 6 ?_;refine hT 7 ?_;refine hT 8 ?_;refine hT 9 ?_;refine hT 10 ?_;refine hT 11 ?_;refine hT 12 ?_;refine hT 13 ?_;refine hT 14 ?_;refine hT 15 ?_;refine hT 16 ?_;refine hT 17 ?_;refine hT 18 ?_;refine hT 19 ?_;refine hT 20 ?_;refine hT 21 ?_;refine hT 22 ?_;refine hT 23 ?_;refine hT 24 ?_;refine hT 25 ?_;refine hO 26 (fun K hK=>?_);go_simp
   first
    |(go_at_call 47
      refine(za ST _ (za BD)).mono ?_;rintro e V1 ⟨rfl,v1⟩;have B7:=zaa (show Below wr.heap.size wr V1 from⟨v1.os,v1.tape,v1.output,v1.size,v1.block⟩);have B8:=zaa ((za B).trans ((za B7).mono (za B).size))
      clear v1)
   go_wp2_with fail
   refine hK.out _ _ ?_ (fun hHeld=>?_)
   ·try dsimp only
    first|(have hV:B7=B7:=rfl;clear hV;exact za KP _ (za B7))|exact⟨p12,p22,p0,s0,p1,s1⟩
   clear hK K;refine hP ?_;refine hT 27 ?_;refine hT 28 ?_;refine wpAnyH_done (by kernel_rfl) ?_ _
   go_wp2
   exact⟨⟨j+1,by omega,by go_num,za B8⟩,by simp[intOf];omega⟩
  ·have hjj:¬ (j:Int)<(m:Int):=by omega
   obtain rfl:j=m:=by omega
   have p12:=cell_later (za B) k12
   go_wp2_with fail
   go_loopw [6] (fun i wr=>∃ j2:Nat,j2≤n∧i=.int .i64 (j2:Int)∧Hid (Below W2.heap.size W2 wr)) (fun i _=>n - (intOf i).toNat)
   case atStart=>exact⟨0,by omega,rfl,B⟩
   case round =>
    obtain⟨j2,hj2,rfl,B'⟩:=hrel;have F':=zaa ((za B2).trans ((za B').mono (za B2).size));have p11:=cell_later (za B') k11;have p21:=cell_later (za B') k21;by_cases hjn2:j2<n
    ·have y0:(0:Int)≤(j2:Int):=by omega
     have y1:(j2:Int)<(n:Int):=by omega
     have hjl:j2<rs.length:=by rw[za HN];exact hjn2
     obtain⟨g1,o1,rfl,q0,q1,q2⟩:=(za R1).cell j2 hjl;obtain⟨g2,o2,rfl,r0,r1,r2⟩:=(za R2).cell j2 hjl;have a0:=cell_later (za F') q0;have a1:=cell_later (za F') q1;have a2:=cell_later (za F') q2;have d0:=cell_later (za F') r0;have d1:=cell_later (za F') r1;have d2:=cell_later (za F') r2;generalize rs[j2]=r at *;obtain⟨rh,rp,rl⟩:=r;simp only at a0 a1 a2 d0 d1 d2;have BD:=zaa (show ∀ k,Below W2.heap.size W2 (wr.drewN k) from fun k=>⟨(za B').os,(za B').tape,(za B').output,(za B').size,(za B').block⟩);clear q0 q1 q2 r0 r1 r2
     go_wp2_with fail
     go_quiet (fail)
     go_wp2
     exact⟨⟨j2+1,by omega,by go_num,za BD _⟩,by simp[intOf];omega⟩
    ·have hjj2:¬ (j2:Int)<(n:Int):=by omega
     obtain rfl:j2=n:=by omega
     go_wp2
     go_ret
     exact⟨rfl,za F'⟩
theorem StAt.notCells {w:World} {h:StH} {x:Sm} (s:StAt w h x) {g:Nat} {cur:Array Value} {T:TypeId} {fr:Nat×Nat} (hT:T≠79) (hg:w.heap[g]? = some (.cells cur T fr)):g<w.heap.size∧g≠h.S∧g≠h.P∧g≠h.R∧g≠h.C:=by
 obtain⟨e1,k1,m1⟩:=s.pm.isMap;obtain⟨e2,k2,m2⟩:=s.rm.isMap;obtain⟨e3,k3,m3⟩:=s.cm.isMap;refine⟨(Array.getElem?_eq_some_iff.1 hg).1,fun e=>?_,fun e=>?_,fun e=>?_,fun e=>?_⟩
 ·subst e;rw[s.hd] at hg;simp only[Option.some.injEq,Obj.cells.injEq] at hg;exact hT hg.2.1.symm
 ·subst e;rw[m1] at hg;cases hg
 ·subst e;rw[m2] at hg;cases hg
 ·subst e;rw[m3] at hg;cases hg
theorem zk {base:Nat} {w w':World} {h:StH} {x:Sm} (s:StAt w h x) (c:Chg h w w') {T:TypeId} {k n:Nat} {v:Value} {xs:List Value} (hT:T≠79) (r:w.ownsRow base T k v n xs):w'.ownsRow base T k v n xs:=by
 refine⟨r.1,?_⟩;rcases r.2 with hv|⟨g,cap,cur,hv,hb,hh,q⟩
 ·exact .inl hv
 ·obtain⟨g0,g1,g2,g3,g4⟩:=s.notCells hT hh;exact .inr ⟨g,cap,cur,hv,hb,(c.block g g0 g1 g2 g3 g4).trans hh,q⟩
theorem RtAt.chg {w w':World} {h:StH} {x y:Sm} {r:Nat} {k:RfH} (s:StAt w h x) (c:Chg h w w') (t:RtAt w r k y):RtAt w' r k y:=by
 obtain⟨g0,g1,g2,g3,g4⟩:=s.notCells (by decide) t.hd;exact⟨(c.block r g0 g1 g2 g3 g4).trans t.hd,zk s c (by decide) t.rw_,zk s c (by decide) t.pw,zk s c (by decide) t.lw,fun p hp=>⟨s.tgsC c (t.dt p hp).1,(t.dt p hp).2⟩⟩
theorem StAt.besideR {w w':World} {h:StH} {x y:Sm} {r:Nat} {k:RfH} (s:StAt w h x) (t:RtAt w r k y) (hg:w.grownBy w' (some r)):StAt w' h x :=
 s.aside hg t.hd (zj9 _ _) (Ne.symm (s.notCells (by decide) t.hd).2.1)
theorem SmE.symm {x y:Sm} (h:SmE x y):SmE y x:=⟨h.ver.symm,h.rs.symm,h.cl.symm,h.ps.symm⟩
structure Po8 (j b:Nat) (w:World) (h:StH) (z:Sm):Prop where
 ex:∃ x,StAt w h x∧SmE x z∧SmI x∧Smi j x∧SmL x
 nw:b≤h.S∧b≤h.P∧b≤h.R∧b≤h.C
structure Ro8 (j b:Nat) (w:World) (r:Nat) (z:Sm):Prop where
 ex:∃ x k,RtAt w r k x∧SmE x z∧SmI x∧Smi j x∧SmL x
 nw:b≤r
theorem Po8.later {j b:Nat} {w w':World} {h:StH} {z:Sm} (p:Po8 j b w h z) (hb:Below w.heap.size w w'):Po8 j b w' h z:=by
 obtain⟨x,h1,h2⟩:=p.ex;exact⟨⟨x,h1.later hb,h2⟩,p.nw⟩
theorem Ro8.later {j b:Nat} {w w':World} {r:Nat} {z:Sm} (p:Ro8 j b w r z) (hb:Below w.heap.size w w'):Ro8 j b w' r z:=by
 obtain⟨x,k,h1,h2⟩:=p.ex;exact⟨⟨x,k,h1.later hb,h2⟩,p.nw⟩
theorem Po8.mono {i j b:Nat} {w:World} {h:StH} {z:Sm} (p:Po8 i b w h z) (hij:i≤j):Po8 j b w h z:=by
 obtain⟨x,h1,h2,h3,h4,h5⟩:=p.ex;exact⟨⟨x,h1,h2,h3,h4.mono hij,h5⟩,p.nw⟩
theorem Ro8.mono {i j b:Nat} {w:World} {r:Nat} {z:Sm} (p:Ro8 i b w r z) (hij:i≤j):Ro8 j b w r z:=by
 obtain⟨x,k,h1,h2,h3,h4,h5⟩:=p.ex;exact⟨⟨x,k,h1,h2,h3,h4.mono hij,h5⟩,p.nw⟩
theorem Po8.lt {j b:Nat} {w:World} {h:StH} {z:Sm} (p:Po8 j b w h z):b<w.heap.size:=by
 obtain⟨x,h1,_⟩:=p.ex;have:=(Array.getElem?_eq_some_iff.1 h1.hd).1;have:=p.nw.1;omega
theorem Chg.toB {h:StH} {w w':World} {b:Nat} (c:Chg h w w') (hn:b≤h.S∧b≤h.P∧b≤h.R∧b≤h.C) (hb:b≤w.heap.size):Below b w w' :=
 ⟨c.os,c.tape,c.output,c.size,fun g hg=>c.block g (Nat.lt_of_lt_of_le hg hb) (by omega) (by omega) (by omega) (by omega)⟩
theorem Po8.do {j b:Nat} {w:World} {h:StH} {z:Sm} (p:Po8 j b w h z) (hj:j≤800) (c:Cmd) (a:Option Addr) (tc:Nat) (hc:CmdAt w c a tc) (hm:Mx w) :
  Calls Tryz.prog 18 #[.pointer (some ⟨h.S,0,none⟩),zar c a tc] w fun e w'=>e=.returned (.agg #[.int .i64 (doS c none 0 z).1.1,.int .i64 (doS c none 0 z).1.2])∧Po8 (j+1) b w' h (doS c none 0 z).2∧Below b w w'∧(∀ i b' r q,Ro8 i b' w r q→Ro8 i b' w' r q)∧(∃ x,StAt w h x∧Chg h w w'):=by
 obtain⟨x,h1,h2,h3,h4,h5⟩:=p.ex;have hv:=h4.vr;refine(zhr h1 (h4.ok (by omega)) (by omega) c a tc hc hm).mono ?_;rintro e w' ⟨a',tc',rfl,s,cg⟩;obtain⟨e1,e2⟩:=h2.do c a' none tc' 0;refine⟨by rw[e1],⟨⟨_,s,e2,h3.do c a' tc',h4.do c a' tc',h5.do c a' tc'⟩,p.nw⟩,cg.toB p.nw (Nat.le_of_lt p.lt),?_,⟨x,h1,cg⟩⟩;rintro i b' r q ⟨⟨y,k,t,g⟩,n⟩;exact⟨⟨y,k,t.chg h1 cg,g⟩,n⟩
theorem Ro8.lt {j b:Nat} {w:World} {r:Nat} {z:Sm} (p:Ro8 j b w r z):b<w.heap.size:=by
 obtain⟨x,k,h1,_⟩:=p.ex;have:=h1.lt;have:=p.nw;omega
theorem zox {w:World} {r:Nat} {k:RfH} {y:Sm} (s:RtAt w r k y) (hi:SmI y) (hx:SmOk y) (hv:y.ver+1≤9223372036854775807) (c:Cmd) (a:Option Addr) (tc:Nat) (hc:CmdAt w c a tc) :
  Calls Tryz.prog 30 #[.pointer (some ⟨r,0,none⟩),zar c a tc] w (zf6 w r c y):=by
 by_cases hk:zam c=0
 ·have hn:=(zbl hk).1;unfold zbk at hn;simp only[Bool.and_eq_true,decide_eq_true_eq] at hn;by_cases hz:c.cli=0
  ·exact zo0 s hi hx hv c a tc hc hk hz
  ·exact zoz s hi hx hv c a tc hc hk (by omega)
 ·exact zoy s hi hx hv c a tc hc hk
theorem Ro8.do {j b:Nat} {w:World} {r:Nat} {z:Sm} (p:Ro8 j b w r z) (hj:j≤800) (c:Cmd) (a:Option Addr) (tc:Nat) (hc:CmdAt w c a tc) :
  Calls Tryz.prog 30 #[.pointer (some ⟨r,0,none⟩),zar c a tc] w fun e w'=>e=.returned (.agg #[.int .i64 (doS c none 0 z).1.1,.int .i64 (doS c none 0 z).1.2])∧Ro8 (j+1) b w' r (doS c none 0 z).2∧Below b w w'∧(∀ i b' h q,Po8 i b' w h q→Po8 i b' w' h q):=by
 obtain⟨x,k,h1,h2,h3,h4,h5⟩:=p.ex;have hv:=h4.vr;have fin:∀ e w',zf6 w r c x e w'→e=.returned (.agg #[.int .i64 (doS c none 0 z).1.1,.int .i64 (doS c none 0 z).1.2])∧Ro8 (j+1) b w' r (doS c none 0 z).2∧Below b w w'∧(∀ i b' h q,Po8 i b' w h q→Po8 i b' w' h q):=by
  rintro e w' ⟨a',tc',k',rfl,s,cg⟩;obtain⟨e1,e2⟩:=h2.do c a' none tc' 0;have hlt:=p.lt;have hn:=p.nw;refine⟨by rw[e1],⟨⟨_,k',s,e2,h3.do c a' tc',h4.do c a' tc',h5.do c a' tc'⟩,p.nw⟩,⟨cg.os,cg.tape,cg.output,cg.size,fun g hg=>cg.block g (by omega) (fun e=>by have:=Option.some.inj e;omega)⟩,?_⟩;rintro i b' h q ⟨⟨y,t,g⟩,n⟩;exact⟨⟨y,t.besideR h1 cg,g⟩,n⟩
 exact(zox h1 h3 (h4.ok (by omega)) (by omega) c a tc hc).mono fin
end
end Go.Proofs.YtjcjleaicjhpeaaGreatDoor
section
namespace Go.Proofs
open Go.RowKit Go.Maps Go.Sort Go.Shelf
def Tryz.keys51_ren:Go.Shelf.Ren:=⟨fun|7=>51|10=>97|n=>n,fun|23=>77|26=>3|3=>74|28=>100|0=>0|27=>99|33=>150|4=>4|n=>n,fun|n=>n⟩
theorem Tryz.keys51:Go.Proofs.SlLaysZI.n7 Tryz.prog Tryz.keys51_ren:={
 mixed:=by kernel_rfl
 f7:=⟨Tryz.f51.name,by decide,Tryz.func51.trans (congrArg some (by kernel_rfl))⟩
 f10:=⟨Tryz.f97.name,by decide,Tryz.func97.trans (congrArg some (by kernel_rfl))⟩
 t0:=Tryz.underlying0
 a0:=Tryz.isAgg0
 z0:=Tryz.sizeOf0
 v0:=Tryz.zeroValue0
 t4:=Tryz.underlying4
 a4:=Tryz.isAgg4
 z4:=Tryz.sizeOf4
 v4:=Tryz.zeroValue4
 t23:=Tryz.underlying77
 a23:=Tryz.isAgg77
 z23:=Tryz.sizeOf77
 v23:=Tryz.zeroValue77
 t26:=Tryz.underlying3
 a26:=Tryz.isAgg3
 z26:=Tryz.sizeOf3
 v26:=Tryz.zeroValue3
 t27:=Tryz.underlying99
 a27:=Tryz.isAgg99
 z27:=Tryz.sizeOf99
 v27:=Tryz.zeroValue99
 t28:=Tryz.underlying100
 a28:=Tryz.isAgg100
 z28:=Tryz.sizeOf100
 v28:=Tryz.zeroValue100
 t33:=Tryz.underlying150
 a33:=Tryz.isAgg150
 z33:=Tryz.sizeOf150
 v33:=Tryz.zeroValue150 }
def Tryz.sorted50_ren:Go.Shelf.Ren:=⟨fun|6=>50|8=>95|9=>96|11=>152|13=>144|12=>153|23=>178|24=>179|14=>189|15=>190|16=>191|17=>192|18=>193|19=>194|20=>195|21=>196|22=>197|25=>212|26=>205|27=>206|28=>213|29=>214|30=>159|31=>221|n=>n,fun|26=>3|28=>100|24=>97|0=>0|3=>3|37=>191|48=>218|50=>143|4=>4|40=>210|39=>209|45=>215|5=>5|9=>9|51=>237|55=>241|57=>251|58=>252|33=>150|n=>n,fun|n=>n⟩
theorem Tryz.sorted50:Go.Proofs.SlLaysZI.n6 Tryz.prog Tryz.sorted50_ren:={
 mixed:=by kernel_rfl
 f6:=⟨Tryz.f50.name,by decide,Tryz.func50.trans (congrArg some (by kernel_rfl))⟩
 f8:=⟨Tryz.f95.name,by decide,Tryz.func95.trans (congrArg some (by kernel_rfl))⟩
 f11:=⟨Tryz.f152.name,by decide,Tryz.func152.trans (congrArg some (by kernel_rfl))⟩
 t0:=Tryz.underlying0
 a0:=Tryz.isAgg0
 z0:=Tryz.sizeOf0
 v0:=Tryz.zeroValue0
 t24:=Tryz.underlying97
 a24:=Tryz.isAgg97
 z24:=Tryz.sizeOf97
 v24:=Tryz.zeroValue97
 t26:=Tryz.underlying3
 a26:=Tryz.isAgg3
 z26:=Tryz.sizeOf3
 v26:=Tryz.zeroValue3
 t28:=Tryz.underlying100
 a28:=Tryz.isAgg100
 z28:=Tryz.sizeOf100
 v28:=Tryz.zeroValue100
 i26:=by kernel_rfl }
def Tryz.sort96_ren:Go.Shelf.Ren:=⟨fun|5=>96|8=>144|7=>153|19=>178|20=>179|10=>189|11=>190|12=>191|13=>192|14=>193|15=>194|16=>195|17=>196|18=>197|30=>212|31=>205|32=>206|33=>213|34=>214|35=>159|40=>221|n=>n,fun|23=>97|25=>3|3=>3|32=>191|22=>97|0=>0|44=>218|46=>143|4=>4|36=>210|35=>209|41=>215|5=>5|9=>9|53=>237|57=>241|63=>251|64=>252|n=>n,fun|n=>n⟩
theorem Tryz.sort96:Go.Proofs.SlLaysM.n5 Tryz.prog Tryz.sort96_ren:={
 mixed:=by kernel_rfl
 f5:=⟨Tryz.f96.name,by decide,Tryz.func96.trans (congrArg some (by kernel_rfl))⟩
 f7:=⟨Tryz.f153.name,by decide,Tryz.func153.trans (congrArg some (by kernel_rfl))⟩
 f8:=Tryz.func144.trans (congrArg some (by kernel_rfl))
 f10:=⟨Tryz.f189.name,by decide,Tryz.func189.trans (congrArg some (by kernel_rfl))⟩
 f11:=⟨Tryz.f190.name,by decide,Tryz.func190.trans (congrArg some (by kernel_rfl))⟩
 f12:=⟨Tryz.f191.name,by decide,Tryz.func191.trans (congrArg some (by kernel_rfl))⟩
 f13:=⟨Tryz.f192.name,by decide,Tryz.func192.trans (congrArg some (by kernel_rfl))⟩
 f14:=⟨Tryz.f193.name,by decide,Tryz.func193.trans (congrArg some (by kernel_rfl))⟩
 f15:=⟨Tryz.f194.name,by decide,Tryz.func194.trans (congrArg some (by kernel_rfl))⟩
 f16:=⟨Tryz.f195.name,by decide,Tryz.func195.trans (congrArg some (by kernel_rfl))⟩
 f17:=⟨Tryz.f196.name,by decide,Tryz.func196.trans (congrArg some (by kernel_rfl))⟩
 f18:=⟨Tryz.f197.name,by decide,Tryz.func197.trans (congrArg some (by kernel_rfl))⟩
 f19:=Tryz.func178.trans (congrArg some (by kernel_rfl))
 f20:=Tryz.func179.trans (congrArg some (by kernel_rfl))
 f30:=⟨Tryz.f212.name,by decide,Tryz.func212.trans (congrArg some (by kernel_rfl))⟩
 f31:=Tryz.func205.trans (congrArg some (by kernel_rfl))
 f32:=Tryz.func206.trans (congrArg some (by kernel_rfl))
 f33:=⟨Tryz.f213.name,by decide,Tryz.func213.trans (congrArg some (by kernel_rfl))⟩
 f34:=⟨Tryz.f214.name,by decide,Tryz.func214.trans (congrArg some (by kernel_rfl))⟩
 f35:=⟨Tryz.f159.name,by decide,Tryz.func159.trans (congrArg some (by kernel_rfl))⟩
 f40:=⟨Tryz.f221.name,by decide,Tryz.func221.trans (congrArg some (by kernel_rfl))⟩
 t0:=Tryz.underlying0
 a0:=Tryz.isAgg0
 z0:=Tryz.sizeOf0
 v0:=Tryz.zeroValue0
 t3:=Tryz.underlying3
 a3:=Tryz.isAgg3
 z3:=Tryz.sizeOf3
 v3:=Tryz.zeroValue3
 t4:=Tryz.underlying4
 a4:=Tryz.isAgg4
 z4:=Tryz.sizeOf4
 v4:=Tryz.zeroValue4
 t5:=Tryz.underlying5
 a5:=Tryz.isAgg5
 z5:=Tryz.sizeOf5
 v5:=Tryz.zeroValue5
 t9:=Tryz.underlying9
 a9:=Tryz.isAgg9
 z9:=Tryz.sizeOf9
 v9:=Tryz.zeroValue9
 t22:=Tryz.underlying97
 a22:=Tryz.isAgg97
 z22:=Tryz.sizeOf97
 v22:=Tryz.zeroValue97
 t23:=Tryz.underlying97
 a23:=Tryz.isAgg97
 z23:=Tryz.sizeOf97
 v23:=Tryz.zeroValue97
 t25:=Tryz.underlying3
 a25:=Tryz.isAgg3
 z25:=Tryz.sizeOf3
 v25:=Tryz.zeroValue3
 t32:=Tryz.underlying191
 a32:=Tryz.isAgg191
 z32:=Tryz.sizeOf191
 v32:=Tryz.zeroValue191
 t35:=Tryz.underlying209
 a35:=Tryz.isAgg209
 z35:=Tryz.sizeOf209
 v35:=Tryz.zeroValue209
 t36:=Tryz.underlying210
 a36:=Tryz.isAgg210
 z36:=Tryz.sizeOf210
 v36:=Tryz.zeroValue210
 t41:=Tryz.underlying215
 a41:=Tryz.isAgg215
 z41:=Tryz.sizeOf215
 v41:=Tryz.zeroValue215
 t44:=Tryz.underlying218
 a44:=Tryz.isAgg218
 z44:=Tryz.sizeOf218
 v44:=Tryz.zeroValue218
 t46:=Tryz.underlying143
 a46:=Tryz.isAgg143
 z46:=Tryz.sizeOf143
 v46:=Tryz.zeroValue143
 t53:=Tryz.underlying237
 a53:=Tryz.isAgg237
 z53:=Tryz.sizeOf237
 v53:=Tryz.zeroValue237
 t57:=Tryz.underlying241
 a57:=Tryz.isAgg241
 z57:=Tryz.sizeOf241
 v57:=Tryz.zeroValue241
 t63:=Tryz.underlying251
 a63:=Tryz.isAgg251
 z63:=Tryz.sizeOf251
 v63:=Tryz.zeroValue251
 t64:=Tryz.underlying252
 a64:=Tryz.isAgg252
 z64:=Tryz.sizeOf252
 v64:=Tryz.zeroValue252 }
theorem Tryz.sorts50 (m:Nat):AnyZI.SortsIn Tryz.prog Tryz.sorted50_ren Fence.wide m :=
 ⟨fun blk off cap ss W hH hblk hsz=>callsIn_wide.2 (AnyM.slices_Sort_int Tryz.sort96 blk off cap ss W hH hblk hsz),
  fun p cap W=>callsIn_wide.2 (AnyM.slices_Sort_int_none Tryz.sort96 p cap W)⟩
theorem Tryz.maps_Keys_51 (mb:Option Nat) (W:World):CallsIn Fence.wide 5 Tryz.prog 51 #[.map mb] W fun e w'=>e=.returned (.func (.func 97) #[] #[.pointer (some ⟨W.heap.size,0,none⟩)])∧w'=W.alloc (.cells #[.map mb] 77) :=
 AnyZI.keys_in Tryz.keys51 Fence.wide 5 trivial rfl mb W
theorem Tryz.slices_Sorted_keys_50_51 {H:Type} (b nn:Nat) (D0:DataW H) (R:Value→Option (DataW H×List MemPlace)) (w:World) (hown:w.ownsMap Tryz.prog 3 R b nn D0) (hmax:Maps.size D0≤maxLen) (hbytes:Maps.size D0*8≤140737488355328) :
  CallsIn Fence.wide 5 Tryz.prog 50 #[.func (.func 97) #[] #[.pointer (some ⟨w.heap.size,0,none⟩)]] (w.alloc (.cells #[.map (some b)] 77)) fun e w'=>∃ (v:Value) (ss:List Int),e=.returned v∧ss.Perm (intKeys D0) ∧
   w'.ownsRow (w.alloc (.cells #[.map (some b)] 77)).heap.size 3 1 v ss.length ((ss.mergeSort (fun x y=>decide (x≤y))).map encZ)∧(v=.slice none 0 0↔ss=[])∧Below (w.alloc (.cells #[.map (some b)] 77)).heap.size (w.alloc (.cells #[.map (some b)] 77)) w':=by
 have hbl:=hown.lt;have hseq:SeqGives Fence.wide 2 Tryz.prog 97 #[.pointer (some ⟨w.heap.size,0,none⟩)] encZ (fun ss=>ss.Perm (intKeys D0)) (Maps.size D0) (w.alloc (.cells #[.map (some b)] 77)) :=
  AnyZI.keys_gives (ρ:=Tryz.keys51_ren) { Tryz.keys51 with } Fence.wide _ trivial rfl (by omega) w.heap.size b nn D0 _ (by simp) (by simp) (by
   obtain⟨es,clock,hb,Ft,hs,hD⟩:=hown
   exact⟨es,clock,(Below.heap_alloc _ _ b hbl).trans hb,Ft,hs,hD⟩)
 exact AnyZI.sorted_in Tryz.sorted50 Fence.wide 5 trivial trivial trivial trivial rfl (by omega) (Tryz.sorts50 _) (enters_of Tryz.func96 (by kernel_rfl) rfl) 97 #[.pointer (some ⟨w.heap.size,0,none⟩)] trivial (enters_of Tryz.func97 (by kernel_rfl) rfl) _ _ hmax hbytes _ hseq
end Go.Proofs
end
namespace Go.Proofs.YtjcjleaicjhpeaaGreatDoor
section
open Go.ChangeShapes Go.WideShapes Go.ChangeAt Go.RowKit Go.Maps Go.Shelf Go.Sort
theorem MapG.keysI {w:World} {B:Nat} {fs:List (Int×Value)} (h:MapG kxI w B fs):∃ D:DataW Value,w.ownsMap Tryz.prog 3 zb7 B fs.length D∧Maps.size D=fs.length∧∀ ss:List Int,ss.Perm (intKeys D)→ss.mergeSort (fun x y=>decide (x≤y))=fs.map (fun x=>x.1):=by
 obtain⟨D,hD,hH,hA,hS⟩:=h.map;refine⟨D,hD,hS,fun ss hp=>?_⟩;obtain⟨es,rfl,hke⟩:=hD.keysOf;obtain⟨es',e',ht⟩:=hD.tidy kxI.law;obtain rfl:es=es':=by simpa using e'
 have hk2:∀ p∈es,∃ x,p.1=.int .i64 x:=fun p hp=>by
  obtain⟨key,hk⟩:=hke p hp;obtain⟨s,hs,_,hl⟩:=kxI.inv hk;exact⟨s,hl⟩
 have hnd:(fs.map (fun x=>x.1)).Nodup:=by
  rw[List.Nodup,List.pairwise_map];refine List.Pairwise.imp ?_ (show fs.Pairwise (fun x y=>Kord.lt x.1 y.1) from h.rise);intro a b hab e;rw[e] at hab;exact Kord.irr _ hab
 have hq:(fs.map (fun x=>x.1)).Perm (intKeys (.map es)):=by
  refine perm_intKeys ht hk2 hnd (fun x=>?_);constructor
  ·intro hx;obtain⟨y,hy,rfl⟩:=List.mem_map.1 hx;exact(hH y.1 (h.okk y hy)).2 (List.mem_map.2 ⟨y,hy,rfl⟩)
  ·intro hx;have hex:∃ p∈es,p.1=.int .i64 x:=by
    rw[Maps.has_eq,List.any_eq_true] at hx;obtain⟨p,hp1,hp2⟩:=hx;obtain⟨a,ha⟩:=hk2 p hp1;rw[ha] at hp2;simp[Lit.sameKey] at hp2;exact⟨p,hp1,by rw[ha,hp2]⟩
   obtain⟨p,hp1,hp2⟩:=hex;obtain⟨key,hk⟩:=hke p hp1;obtain⟨s,hs,_,hl⟩:=kxI.inv hk;rw[hp2] at hl;have e:x=s:=by simpa [kxI] using hl
   subst e;have h3:=(hH x hs).1 hx;obtain⟨y,hy,hy2⟩:=List.mem_map.1 h3;exact List.mem_map.2 ⟨y,hy,hy2⟩
 have h1:=mergeSort_of_perm_i (hp.trans hq.symm);refine h1.trans (List.mergeSort_of_pairwise ?_);refine List.pairwise_map.2 (List.Pairwise.imp (fun {a b} hab=>?_) (show fs.Pairwise (fun x y=>Kord.lt x.1 y.1) from h.rise));simp only[decide_eq_true_eq];exact Int.le_of_lt hab
def zpa (base:Nat) (w:World) (sp:Option Addr) (c:Nat) (l:List Int):Prop:=w.ownsRow base 3 1 (.slice sp l.length c) l.length (l.map (Value.int .i64))
theorem zpa.cell {base:Nat} {w:World} {sp:Option Addr} {c:Nat} {l:List Int} (h:zpa base w sp c l) (i:Nat) (hi:i<l.length):∃ g,sp=some ⟨g,0,none⟩∧base≤g∧g<w.heap.size∧∀ w':World,w'.heap[g]? = w.heap[g]?→w'.cell? ⟨g,i,none⟩=some (.int .i64 l[i]):=by
 rcases h.2 with⟨hv,h0⟩|⟨g,cap,cur,hv,hb,hg,hle,hmx,hsz,ht⟩
 ·omega
 ·simp only[Value.slice.injEq] at hv;refine⟨g,hv.1,hb,(Array.getElem?_eq_some_iff.1 hg).1,fun w' hw=>?_⟩;rw[cell_of_row w' g i cur _ _ (hw.trans hg)];have e:(l.map (Value.int .i64))[i]? = some (.int .i64 l[i]):=by rw[List.getElem?_map,List.getElem?_eq_getElem hi];rfl
  rw[← ht,List.getElem?_take,if_pos (by omega)] at e;rw[← Array.getElem?_toList,e]
theorem zmf (b:Nat) (w:World):Calls Tryz.prog 51 #[.map (some b)] w fun e w'=>e=.returned (.func (.func 97) #[] #[.pointer (some ⟨w.heap.size,0,none⟩)])∧w'=w.alloc (.cells #[.map (some b)] 77) :=
 callsIn_wide.1 (Tryz.maps_Keys_51 (some b) w)
theorem zkc {w:World} {fs:List (Int×Value)} {b:Nat} (h:MapG kxI w b fs) (hl:fs.length≤1000) :
  Calls Tryz.prog 50 #[.func (.func 97) #[] #[.pointer (some ⟨w.heap.size,0,none⟩)]] (w.alloc (.cells #[.map (some b)] 77)) fun e w'=>∃ sp c,e=.returned (.slice sp fs.length c)∧zpa w.heap.size w' sp c (fs.map (·.1))∧Below w.heap.size w w':=by
 obtain⟨D,hD,hS,hK⟩:=h.keysI;refine(callsIn_wide.1 (Tryz.slices_Sorted_keys_50_51 b _ D zb7 w hD (by rw[hS];simp only[maxLen];omega) (by rw[hS];omega))).mono ?_;rintro e w' ⟨v,ss,rfl,hp,hrow,hnil,hb⟩;have hm:=hK ss hp;rw[hm] at hrow;have hlen:ss.length=fs.length:=by have:=congrArg List.length hm;rw[List.length_mergeSort,List.length_map] at this;exact this
 rw[hlen] at hrow;have e1:(fs.map (fun x=>x.1)).map encZ=(fs.map (·.1)).map (Value.int .i64):=by
  simp only[List.map_map]
 rw[e1] at hrow;have b1:Below w.heap.size w (w.alloc (.cells #[.map (some b)] 77)):=(Below.refl _ _).alloc (Nat.le_refl _) _;have hv:∃ sp c,v=.slice sp fs.length c:=by
  rcases hrow.2 with⟨hv,h0⟩|⟨g,cap,cur,hv,_⟩
  ·exact⟨none,0,by rw[hv,h0]⟩
  ·exact⟨_,_,hv⟩
 obtain⟨sp,c,rfl⟩:=hv;refine⟨sp,c,rfl,?_,b1.trans (hb.mono b1.size)⟩;unfold zpa;rw[List.length_map];exact⟨hrow.1,hrow.2.imp id (fun ⟨g,cap,cur,h1,h2,h3⟩=>⟨g,cap,cur,h1,Nat.le_trans b1.size h2,h3⟩)⟩
end
end Go.Proofs.YtjcjleaicjhpeaaGreatDoor
