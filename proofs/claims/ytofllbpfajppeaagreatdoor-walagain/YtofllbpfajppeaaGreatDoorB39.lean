/- Both logs, or none: any deed; a script is played. -/
import Derived.Test.YtofllbpfajppeaaGreatDoorB38
import Derived.Test.YtofllbpfajppeaaGreatDoorB07
import Derived.Deep.QuietTactic
import Derived.BigQuiet
import Derived.Test.YtofllbpfajppeaaGreatDoorB20
import Derived.Test.YtofllbpfajppeaaGreatDoorB10
import Derived.Test.YtofllbpfajppeaaGreatDoorB19
set_option linter.unusedVariables false
set_option maxRecDepth 20000
set_option maxHeartbeats 16000000
namespace Go.Proofs.YtofllbpfajppeaaGreatDoor
section
open Go.ChangeShapes Go.WideShapes Go.ChangeAt Go.RowKit Go.Maps
section
variable {Bv:Nat→Prop} {base B d M R L Lr room N:Nat} {V0 w w':World} {ss tt:Ds} {c cc:Wc} {n nn:Nat} {lp rp:Option Addr} {r1 r2:List (List Nat)}
theorem TL.grow (h:TL Bv base w B d M R L Lr room N ss c n tt cc nn) (hs:∀ g,g<w.heap.size→(¬ Bv g∨g=B)→w'.heap[g]? = w.heap[g]?) (hb:Below base w w'):TL Bv base w' B d M R L Lr room N ss c n tt cc nn:=by
 obtain⟨Fv,ep,ec,hs',z,rl,h3⟩:=h.at_;refine⟨h.lowR,h.lowL,h.inB,(hs B (h.ltB h.inB) (.inr rfl)).trans h.bx,fun g=>Fv g∧g<w.heap.size,ep,ec,hs',(z.grow (fun g hg hn=>hs g hg (.inl (fun q=>hn (.inr (.inr (.inr q)))))) hb).sub (fun g hg=>.inl (hg.imp id (fun q=>q.imp id (fun q=>q.imp (fun z=>z.1) id)))),rl.lt.same (hs Lr rl.ltL (.inl (fun q=>(h3 Lr q).2.2 rfl))) (hs R rl.dk.ltR (.inl (fun q=>(h3 R q).2.1 rfl))) (fun g hg=>hs g hg.2 (.inl (fun q=>(h3 g q).1 hg.1))),fun g hg=>⟨fun q=>(h3 g hg).1 q.1,(h3 g hg).2⟩⟩
theorem TB.grow (h:TB Bv base w B d M R lp rp room N ss tt) (hs:∀ g,g<w.heap.size→(¬ Bv g∨g=B)→w'.heap[g]? = w.heap[g]?) (hb:Below base w w'):TB Bv base w' B d M R lp rp room N ss tt:=by
 obtain⟨Fv,h1,h2,h3,h4⟩:=h.at_;exact⟨h.lowR,h.inB,(hs B (h.ltB h.inB) (.inr rfl)).trans h.bx,⟨fun g=>Fv g∧g<w.heap.size,(h1.grow (fun x hx hn=>hs x hx (.inl (fun q=>hn (.inr (.inr q))))) hb.size).av (fun x hx=>.inl (hx.imp id (fun q=>q.imp (fun z=>z.1) id))),h2.ltF.same (hs R h2.ltR (.inl (fun q=>(h4 R q).2 rfl))) (fun g hg=>hs g hg.2 (.inl (fun q=>(h4 g q).1 hg.1))),fun q=>h3 q.1,fun g hg=>⟨fun q=>(h4 g hg).1 q.1,(h4 g hg).2⟩⟩,zi5 h.tz hb⟩
theorem TL.pr:Pr base B d R (some ⟨L,0,none⟩) (some ⟨Lr,0,none⟩) (fun C w=>TL C base w B d M R L Lr room N ss c n tt cc nn):=⟨fun h=>h.le,fun h=>h.ltB,fun h=>h.inB,fun h=>h.bx,fun h=>h.later,fun h=>h.more,fun h=>h.sub,fun h=>h.grow⟩
theorem TB.pr:Pr base B d R lp rp (fun C w=>TB C base w B d M R lp rp room N ss tt):=⟨fun h=>h.le,fun h=>h.ltB,fun h=>h.inB,fun h=>h.bx,fun h=>h.later,fun h=>h.more,fun h=>h.sub,fun h=>h.grow⟩
theorem zi.of2 {r:Nat×Ds×Wc×Nat} {k:Nat} {e:Ending} (hk:k≤300) (nx:Nxt room n c k r) (h:zfa (fun C w=>TL C base w B d M R L Lr room N r.2.1 r.2.2.1 r.2.2.2 r.2.1 r.2.2.1 r.2.2.2) base B Bv w e w'):zi Bv base B d M R room N c n w e w':=by
 obtain⟨⟨q1,q2,ls⟩,h1,h2⟩:=nx;obtain⟨rfl,t,b,k2⟩:=h;exact⟨rfl,b,k2,L,Lr,_,_,_,q1,q2,t,ls,h1,.inl (by omega)⟩
def QL (base B d M R room N:Nat) (c:Wc) (n:Nat) (s:Ds) (C:Nat→Prop) (w:World):Prop:=∃ L Lr,TL C base w B d M R L Lr room N s c n s c n
theorem QL.sub {s:Ds} {D:Nat→Prop} (h:QL base B d M R room N c n s Bv w) (hs:∀ g,D g→Bv g) (hB:D B):QL base B d M R room N c n s D w:=let ⟨L,Lr,t⟩:=h;⟨L,Lr,t.sub hs hB⟩
theorem zi.of3 {rs:List (List Nat)} {c0:Wc} {e:Ending} (ls:LS room [(walNm n,⟨true,cat rs,[]⟩)] c n rs []) (h:zfa (QL base B d M R room N c n [(walNm n,⟨true,cat rs,[]⟩)]) base B Bv w e w'):zi Bv base B d M R room N c0 n w e w':=by
 obtain⟨rfl,⟨L,Lr,t⟩,b,k2⟩:=h;have h8:=t.y8 _ (List.mem_singleton.2 rfl);have hf:=zwk ls.cont;rw[List.append_nil] at hf;exact⟨rfl,b,k2,L,Lr,_,_,_,_,_,t,ls,by omega,.inr (by dsimp only at h8;omega)⟩
theorem zBx {lp rp:Option Addr} {e0:Nat} {s0:Ds} {C:Nat→Prop} {W:World} (h:TB C base W B d M R lp rp room N ss ss) (lowB:base≤B) (hN:N+2≤302) (k0:Nat) (hk:OpOk room k0 ss) (ho:zfc room ss=(e0,s0,some (c,n))) :
  Calls Tryz.prog 27 #[.pointer (some ⟨B,0,none⟩)] W fun e W'=>e=.returned (.bool true)∧QL base B d M R room (N+2) c n s0 C W'∧Below base W W'∧∀ g,C g→g≠B→W'.heap[g]? = W.heap[g]?:=by
 have:=zib h lowB hN k0 hk;rw[ho] at this;refine this.mono ?_;rintro e W' ⟨rfl,b,k,L,Lr,t⟩;exact⟨rfl,⟨L,Lr,t⟩,b,k⟩
theorem qnone {lp rp:Option Addr} {C:Nat→Prop} {W:World} (h:TB C base W B d M R lp rp room N [] []) (lowB:base≤B) (hN:N+2≤302) (hr:room<22) :
  Calls Tryz.prog 27 #[.pointer (some ⟨B,0,none⟩)] W fun e W'=>e=.returned (.bool true)∧TB C base W' B d M R none none room (N+2) [] []∧Below base W W'∧∀ g,C g→g≠B→W'.heap[g]? = W.heap[g]?:=by
 have:=zib h lowB hN 0 (OpOk.none _);rw[zhr,if_pos hr] at this;refine this.mono ?_;rintro e W' ⟨rfl,b,k,t⟩;exact⟨rfl,t,b,k⟩
theorem zwo (hb0:V0.heap.size=base) (x:Wd) (h:WdH) (hx:WdAt V0 x h) (u:Below base V0 w) (t:TL Bv base w B d M R L Lr room N ss c n ss c n) (ls:LS room ss c n r1 r2) (lowB:base≤B) (hN:N+2≤302) (hn:n+2<1099511627776) (hl:c.es.length≤100000) (h6:zij x.es≤6000) :
  Calls Tryz.prog 10 #[.pointer (some ⟨B,0,none⟩),.agg (zhy x h)] w (zi Bv base B d M R room (N+2) c n w):=by
 obtain⟨kd,es,ht,hv,mi,mt,kp⟩:=x;have hE:EntsIn (fun g=>g<base) w h.ep es:=by
  have:=EntsIn.ofLt hx.en;rw[hb0] at this;exact this.same (fun g hg=>u.block g hg)
 have hlo:∀ b off,h.kp=some ⟨b,off,none⟩→0<kp.length→b<base:=fun b off e h0=>by
  obtain⟨b',off',e',hc⟩:=hx.ks.cell 0 h0;rw[e] at e';simp only[Option.some.injEq,Addr.mk.injEq,and_true] at e';rw[e'.1,← hb0];exact zg hc
 have hI:IntsAt w h.kp kp:=hx.ks.same (fun b off e h0=>u.block b (hlo b off e h0));have few:zht 300 ss:=fun x hx=>Nat.le_trans (t.fewC x hx) (by omega);have ris:=t.rise;have okc:=t.okC;have som:=ls.some_;have h20:=zov es;unfold zhy;dsimp only at h6 ⊢;by_cases k0:kd=0
 ·subst k0;exact(zmr TL.pr TL.pr TL.pr t hE h6 (zev room n c es ss).1 (fun C W sp k t e=>zow t (by omega) sp es.length k es rfl e (by omega)) (fun C W t e=>zma t few ris (by omega) som h.ep es.length h.ec es rfl (by omega) (by omega) (e.sub (fun g hg=>.inl hg)))).mono fun e w' q=>zi.of2 (by omega) (ls.appendN okc es) q
 by_cases k1:kd=1
 ·subst k1;exact(zms TL.pr TL.pr TL.pr t (zs5 room n c ht hv ss).1 (fun C W t=>zsx t (by omega) ht hv) (fun C W t=>zrb t few ris (by omega) som ht hv)).mono fun e w' q=>zi.of2 (by omega) (ls.xHardN okc ht hv) q
 by_cases k2:kd=2
 ·subst k2;exact(zmt TL.pr TL.pr TL.pr t (zax (walNm n) ss).1 (fun C W t=>zlt t (by omega)) (fun C W t=>zre t)).mono fun e w' q=>zi.of2 (by omega) ls.syncN q
 by_cases k3:kd=3
 ·subst k3;exact(zmu TL.pr TL.pr TL.pr t (zeo room n c mi ss).1 (fun C W t=>zm t (by omega) ls.ix mi hx.wi) (fun C W t=>zls t few ris (by omega) som mi)).mono fun e w' q=>zi.of2 (by omega) (ls.compactN okc mi) q
 by_cases k4:kd=4
 ·subst k4;exact(zmv TL.pr TL.pr TL.pr t (zlx room n c mi mt ss).1 (fun C W t=>zra t (by omega) mi mt) (fun C W t=>zoy t few ris (by omega) som mi mt)).mono fun e w' q=>zi.of2 (by omega) (ls.xResetN okc mi mt) q
 by_cases k5:kd=5
 ·subst k5;obtain⟨m,c',_,_,ho,lso⟩:=ls.crash kp;exact(zmw TL.pr TL.pr TL.pr t hI hlo (fun C W t i=>zq9 t h.kp kp.length h.kc kp rfl i hlo) (fun C W t i=>zox t h.kp kp.length h.kc kp rfl i) _ (fun C D w q=>q.sub) (fun C W t=>zBx t.toTB lowB hN n (ls.opCr (by omega) kp) ho)).mono fun e w' q=>zi.of3 lso q
 by_cases k6:kd=6
 ·subst k6;exact(zmx TL.pr t _ (fun C D w q=>q.sub) (fun C W t=>zBx t.toTB lowB hN n (ls.opOk (by omega)) ls.again.1)).mono fun e w' q=>zi.of3 ls.again.2 q
 ·exact(zmy TL.pr (t.monoN (N':=N+2) (by omega) (by omega)) ⟨k0,k1,k2,k3,k4,k5,k6⟩).mono fun e w' q=>zi.of2 (r:=(0,ss,c,n)) (k:=0) (by omega) ⟨⟨r1,r2,ls⟩,by dsimp only;omega,by dsimp only;omega⟩ q
end
def PlI (room base:Nat) (w0 wr:World) (B d M R j:Nat):Prop:=∃ L Lr N ss c n r1 r2,TL (fun g=>g=B) base wr B d M R L Lr room N ss c n ss c n∧LS room ss c n r1 r2∧N≤2+2*j∧n≤1+j∧c.es.length≤32768+300*j∧Below base w0 wr
section
variable {room base B d M R j:Nat} {w0 wr w':World}
theorem PlI.later (h:PlI room base w0 wr B d M R j) (u:Below wr.heap.size wr w'):PlI room base w0 w' B d M R j:=by
 obtain⟨L,Lr,N,ss,c,n,r1,r2,t,ls,h1,h2,h3,h4⟩:=h;exact⟨L,Lr,N,ss,c,n,r1,r2,t.later u,ls,h1,h2,h3,h4.trans (u.mono t.le)⟩
theorem PlI.next (h:PlI room base w0 wr B d M R j):PlI room base w0 wr B d M R (j+1):=by
 obtain⟨L,Lr,N,ss,c,n,r1,r2,t,ls,h1,h2,h3,h4⟩:=h;exact⟨L,Lr,N,ss,c,n,r1,r2,t,ls,by omega,by omega,by omega,h4⟩
theorem PlI.do_ (h:PlI room base w0 wr B d M R j) (hj:j<150) (lowB:base≤B) (hb0:w0.heap.size=base) (x:Wd) (hh:WdH) (hx:WdAt w0 x hh) (h6:zij x.es≤6000) :
  Calls Tryz.prog 10 #[.pointer (some ⟨B,0,none⟩),.agg (zhy x hh)] wr fun e w'=>e=.returned (.bool true)∧PlI room base w0 w' B d M R (j+1):=by
 obtain⟨L,Lr,N,ss,c,n,r1,r2,t,ls,h1,h2,h3,h4⟩:=h;refine(zwo hb0 x hh hx h4 t ls lowB (by omega) (by omega) (by omega) h6).mono ?_;rintro e w' ⟨rfl,b,_,L',Lr',ss',c',n',r1',r2',t',ls',n1,e1⟩;exact⟨rfl,L',Lr',_,ss',c',n',r1',r2',t',ls',by omega,by omega,by omega,h4.trans b⟩
end
theorem zbg (b1 b2:Nat) (w:World) (l:List Nm) (n:Nat) (hn:l.length=n) (h16:n≤1000) (a b:Option Addr) (ca cb:Nat) (A:zfv b1 w a ca l) (Bq:zfv b2 w b cb l) :
  Calls Tryz.prog 40 #[.slice a n ca,.slice b n cb] w fun e w'=>e=.returned (.bool true)∧Below w.heap.size w w':=by
 have HA:=zaa (fun W (hb:Below w.heap.size w W)=>A.later hb);have HB:=zaa (fun W (hb:Below w.heap.size w W)=>Bq.later hb);have HN:=zaa hn;clear A Bq hn;go_enter Tryz.func40,Tryz.ntmps40
 go_wp2_with fail
 go_loopw [5] (fun i wr=>∃ j:Nat,j≤n∧i=.int .i64 (j:Int)∧Hid (Below w.heap.size w wr)) (fun i _=>n - (intOf i).toNat)
 case atStart=>exact⟨0,by omega,rfl,zaa (Below.refl _ _)⟩
 case round =>
  obtain⟨j,hj,rfl,HW⟩:=hrel;by_cases hjn:j<n
  ·have y1:(j:Int)<(n:Int):=by omega
   have y0:(0:Int)≤(j:Int):=by omega
   have hjl:j<l.length:=by rw[za HN];exact hjn
   obtain⟨g1,rfl,q1⟩:=(za HA wr (za HW)).cell j hjl;obtain⟨g2,rfl,q2⟩:=(za HB wr (za HW)).cell j hjl;generalize str l[j]=s at *;clear hjl
   go_wp2_with fail
   go_quiet (fail)
   go_wp2
   exact⟨⟨j+1,by omega,by go_num,zaa ((za HW).trans ⟨rfl,rfl,rfl,Nat.le_refl _,fun _ _=>rfl⟩)⟩,by simp[intOf];omega⟩
  ·have y1:¬ (j:Int)<(n:Int):=by omega
   go_wp2
   go_ret
   exact⟨rfl,za HW⟩
section
variable {Bv:Nat→Prop} {base B d M R L Lr room N:Nat} {w w' W1:World} {ss tt:Ds} {c cc:Wc} {n nn:Nat} {r1 r2:List (List Nat)}
theorem zne (k:Nm) (hk:k.length≤64):(str k).size≤maxLen:=by rw[zb];simp only[maxLen];omega
theorem zsy (h:TL Bv base w B d M R L Lr room N ss c n tt cc nn) (k:Nm) (hk:k.length≤64) (x:Sp) (hx:zcc k ss=some x) :
  Calls Tryz.prog 44 #[.pointer (some ⟨d,0,none⟩),.string (str k)] w fun e w'=>∃ sp m c,e=.returned (.tuple #[.slice sp m c,.int .i64 0])∧x.now.length=m∧BytesAt w' sp x.now∧Below w.heap.size w w':=by
 obtain⟨Fv,ep,ec,hs,z,_⟩:=h.at_;refine(zpe z.dk (str k) (zne k hk) x (by rw[zam];exact hx)).mono ?_;rintro e w' ⟨sp,m,rfl,h1,_,h2,h3⟩;exact⟨sp,m,m,rfl,h1,h2.bytes,h3⟩
theorem zrc (h:TL Bv base w B d M R L Lr room N ss c n tt cc nn) (k:Nm) (x:Sp) (hx:zcc k tt=some x) :
  Calls Tryz.prog 45 #[.pointer (some ⟨R,0,none⟩),.string (str k)] w fun e w'=>∃ sp m c,e=.returned (.tuple #[.slice sp m c,.int .i64 0])∧x.now.length=m∧BytesAt w' sp x.now∧Below w.heap.size w w':=by
 obtain⟨Fv,ep,ec,hs,z,rl,_⟩:=h.at_;obtain⟨sp,c,rs,q1,rfl,_⟩:=rl.dk;refine(zqt q1 (str k) x (by rw[zam];exact hx)).mono ?_;rintro e w' ⟨sp,m,k2,rfl,h1,h2,h3⟩;exact⟨sp,m,k2,rfl,h1,h2.bytes,h3⟩
theorem zsz (h:TL Bv base w B d M R L Lr room N ss c n tt cc nn) (k:Nm) (hk:k.length≤64) (x:Sp) (hx:zcc k ss=some x) (hl:x.la=true) :
  Calls Tryz.prog 46 #[.pointer (some ⟨d,0,none⟩),.string (str k)] w fun e w'=>∃ sp m c,e=.returned (.tuple #[.slice sp m c,.int .i64 0])∧x.y.length=m∧BytesAt w' sp x.y∧Below w.heap.size w w':=by
 obtain⟨Fv,ep,ec,hs,z,_⟩:=h.at_;obtain⟨fs,h1,rfl,_⟩:=z.dk.at_;rw[zgj,Option.map_eq_some_iff] at hx;obtain⟨⟨F,f⟩,hx,rfl⟩:=hx;refine(zwq h1 (str k) (zne k hk) F f (by rw[zam];exact hx) hl).mono ?_;rintro e w' ⟨sp,m,rfl,h1,_,h2,h3⟩;exact⟨sp,m,m,rfl,h1,h2.bytes,h3⟩
theorem zrd (h:TL Bv base w B d M R L Lr room N ss c n tt cc nn) (k:Nm) (x:Sp) (hx:zcc k tt=some x) (hl:x.la=true) :
  Calls Tryz.prog 47 #[.pointer (some ⟨R,0,none⟩),.string (str k)] w fun e w'=>∃ sp m c,e=.returned (.tuple #[.slice sp m c,.int .i64 0])∧x.y.length=m∧BytesAt w' sp x.y∧Below w.heap.size w w':=by
 obtain⟨Fv,ep,ec,hs,z,rl,_⟩:=h.at_;obtain⟨sp,c,rs,q1,rfl,_⟩:=rl.dk;refine(zx0 q1 (str k) x (by rw[zam];exact hx) hl).mono ?_;rintro e w' ⟨sp,m,k2,rfl,h1,h2,h3⟩;exact⟨sp,m,k2,rfl,h1,h2.bytes,h3⟩
theorem zdl (h:TL Bv base w B d M R L Lr room N ss c n tt cc nn):Calls Tryz.prog 41 #[.pointer (some ⟨d,0,none⟩)] w fun e w'=>∃ sp m k,e=.returned (.slice sp m k)∧ss.length=m∧zfv w.heap.size w' sp k (ss.map (·.1))∧Below w.heap.size w w':=by
 obtain⟨Fv,ep,ec,hs,z,_⟩:=h.at_;exact zep z.dk
theorem zmb (h:TL Bv base w B d M R L Lr room N ss c n tt cc nn):Calls Tryz.prog 39 #[.pointer (some ⟨R,0,none⟩)] w fun e w'=>∃ sp m k,e=.returned (.slice sp m k)∧tt.length=m∧zfv w.heap.size w' sp k (tt.map (·.1))∧Below w.heap.size w w':=by
 obtain⟨Fv,ep,ec,hs,z,rl,_⟩:=h.at_;refine(zhd (RSo.start rl.dk)).mono ?_;rintro e w' ⟨sp,m,k,h1,h2,h3,_,h4⟩;exact⟨sp,m,k,h1,h2,h3,h4⟩
theorem zei (h:TL Bv base w B d M R L Lr room N ss c n tt cc nn):Calls Tryz.prog 23 #[.pointer (some ⟨L,0,none⟩)] w fun e w'=>e=.returned (.string (str (walNm n)))∧Below w.heap.size w w':=by
 obtain⟨Fv,ep,ec,hs,z,_⟩:=h.at_;exact zay z
theorem zd4 (h:TL Bv base w B d M R L Lr room N ss c n tt cc nn):Calls Tryz.prog 42 #[.pointer (some ⟨Lr,0,none⟩)] w fun e w'=>e=.returned (.string (str (walNm nn)))∧Below w.heap.size w w':=by
 obtain⟨Fv,ep,ec,hs,z,rl,_⟩:=h.at_;exact zdv rl
theorem zdx (h:TL Bv base w B d M R L Lr room N ss c n tt cc nn):Calls Tryz.prog 24 #[.pointer (some ⟨L,0,none⟩)] w fun e w'=>e=.returned (.int .i64 ((c.bi+c.es.length:Nat):Int))∧Below w.heap.size w w':=by
 obtain⟨Fv,ep,ec,hs,z,_⟩:=h.at_;exact zig z
theorem zd5 (h:TL Bv base w B d M R L Lr room N ss c n tt cc nn):Calls Tryz.prog 43 #[.pointer (some ⟨Lr,0,none⟩)] w fun e w'=>e=.returned (.int .i64 ((cc.bi+cc.es.length:Nat):Int))∧Below w.heap.size w w':=by
 obtain⟨Fv,ep,ec,hs,z,rl,_⟩:=h.at_;exact zgi rl
theorem zfp (h:TL Bv base w B d M R L Lr room N ss c n tt cc nn) (hi:Ix c):Calls Tryz.prog 19 #[.pointer (some ⟨L,0,none⟩)] w (zAr w c):=by
 obtain⟨Fv,ep,ec,hs,z,_⟩:=h.at_;exact za8 z hi
theorem TL.lrow (h:TL Bv base w B d M R L Lr room N ss c n tt cc nn):∃ sp k,w.heap[Lr]? = some (.cells (zhw R nn cc sp k) 79 (0,0))∧EntsAt w sp (cc.es.map toI):=by
 obtain⟨Fv,ep,ec,hs,z,rl,_⟩:=h.at_;obtain⟨sp,k,h1,h2⟩:=rl.lg;exact⟨sp,k,h1,h2.at_⟩
theorem TL.ceLe (h:TL Bv base w B d M R L Lr room N ss c n tt cc nn):c.es.length≤1000000:=by
 obtain⟨Fv,ep,ec,hs,z,_⟩:=h.at_;exact z.le
theorem TL.nm64 (h:TL Bv base w B d M R L Lr room N ss c n tt cc nn):∀ x∈ss,x.1.length≤64:=by
 obtain⟨Fv,ep,ec,hs,z,_⟩:=h.at_;exact z.dk.nmlen
theorem TL.l16 (h:TL Bv base w B d M R L Lr room N ss c n tt cc nn):ss.length≤16:=by
 obtain⟨Fv,ep,ec,hs,z,_⟩:=h.at_;exact z.dk.len
theorem zn8 {V:World} {sp:Option Addr} {k:Nat} (h:V.heap[Lr]? = some (.cells (zhw R n c sp k) 79 (0,0))):V.cell? ⟨Lr,2,none⟩=some (.int .i64 (c.bi:Int))∧V.cell? ⟨Lr,3,none⟩=some (.int .i64 (c.bt:Int))∧V.cell? ⟨Lr,4,none⟩=some (.int .i64 (c.ht:Int))∧V.cell? ⟨Lr,5,none⟩=some (.int .i64 (c.hv:Int))∧V.cell? ⟨Lr,6,none⟩=some (.slice sp c.es.length k):=⟨zab h 2 _ rfl,zab h 3 _ rfl,zab h 4 _ rfl,zab h 5 _ rfl,zab h 6 _ rfl⟩
theorem zkg (h:TL Bv base w B d M R L Lr room N ss c n ss c n) (ls:LS room ss c n r1 r2):Calls Tryz.prog 11 #[.pointer (some ⟨B,0,none⟩)] w fun e w'=>e=.returned (.bool true)∧Below w.heap.size w w':=by
 have TT:=zaa (fun W (u:Below w.heap.size w W)=>h.later u);have BX:=zaa (fun W (u:Below w.heap.size w W)=>(h.later u).bx);have L16:=h.l16;have NL:=zaa h.nm64;have RS:=zaa h.rise;have CE:=zaa h.ceLe;have IX:=zaa ls.ix
 have LA:=zaa (show ∀ x∈ss,x.2.la=true from fun x hx=>by
  obtain⟨s,rfl,h1,_⟩:=ls.now;rw[List.mem_singleton.1 hx]
  exact h1)
 have b2:=(zav h.bx).2.2.1;have NC:=zaa (zmb h);clear h ls;go_enter Tryz.func11,Tryz.ntmps11
 go_wp2_with fail
 clear b2;go_at_call 39
 refine(za NC).mono ?_;rintro e V1 ⟨lp,ln,lk,rfl,hn1,o1,v1⟩;have U:=zaa (v1.drew);have HN:=zaa hn1;have O1:=zaa (show zfv w.heap.size V1.drew lp lk (ss.map (·.1)) from o1.later ((Below.refl _ _).drew));have N16:ln≤16:=by omega
 clear o1 v1 NC hn1 L16
 go_wp2_with fail
 refine wp_region_held_drew (S:=fun u=>u.cell? ⟨B,0,none⟩=some (.pointer (some ⟨d,0,none⟩))∧u.cell? ⟨B,1,none⟩=some (.pointer (some ⟨L,0,none⟩))∧u.cell? ⟨B,3,none⟩=some (.pointer (some ⟨Lr,0,none⟩))) (by kernel_rfl) ?_ (fun hHeld=>?_)
 ·try dsimp only
  exact⟨(zav (za BX _ (za U))).1,(zav (za BX _ (za U))).2.1,(zav (za BX _ (za U))).2.2.2⟩
 refine hT 0 ?_;refine hT 1 ?_;refine hT 2 ?_;refine hT 3 ?_;refine hT 5 ?_;refine hO 4 (fun K hK=>?_);go_simp
 first
  |(go_at_call 41
    refine(zdl (za TT _ (za U))).mono ?_;rintro e V ⟨np,m2,nk,rfl,hn2,o2,v⟩;have hnn:m2=ln:=hn2.symm.trans (za HN);subst hnn;have U:=zaa ((za U).trans (v.mono (za U).size));have ST:=zaa (zbg _ _ V (ss.map (·.1)) m2 (by rw[List.length_map];exact hn2) (by omega) np lp nk lk o2 ((za O1).later v));have O1:=zaa ((za O1).later v)
    clear v o2 hn2)
  |(go_at_call 40
    refine(za ST).mono ?_;rintro e V ⟨rfl,v⟩;have U:=zaa ((za U).trans (v.mono (za U).size));have O1:=zaa ((za O1).later v)
    clear v)
  |(go_at_call 23
    refine(zei (za TT _ (za U))).mono ?_;rintro e V ⟨rfl,v⟩;have U:=zaa ((za U).trans (v.mono (za U).size));have O1:=zaa ((za O1).later v)
    clear v)
  |(go_at_call 42
    refine(zd4 (za TT _ (za U))).mono ?_;rintro e V ⟨rfl,v⟩;have U:=zaa ((za U).trans (v.mono (za U).size));have O1:=zaa ((za O1).later v)
    clear v)
  |(go_at_call 24
    refine(zdx (za TT _ (za U))).mono ?_;rintro e V ⟨rfl,v⟩;have U:=zaa ((za U).trans (v.mono (za U).size));have O1:=zaa ((za O1).later v)
    clear v)
  |(go_at_call 43
    refine(zd5 (za TT _ (za U))).mono ?_;rintro e V ⟨rfl,v⟩;have U:=zaa ((za U).trans (v.mono (za U).size));have O1:=zaa ((za O1).later v)
    clear v)
 go_wp2_with fail
 refine hK.out _ _ ?_ (fun hHeld=>?_)
 ·try dsimp only
  exact⟨(zav (za BX _ (za U))).1,(zav (za BX _ (za U))).2.1,(zav (za BX _ (za U))).2.2.2⟩
 clear hK K;refine hP ?_;refine hO 6 (fun K hK=>?_);go_simp
 first
  |(go_at_call 41
    refine(zdl (za TT _ (za U))).mono ?_;rintro e V ⟨np,m2,nk,rfl,hn2,o2,v⟩;have hnn:m2=ln:=hn2.symm.trans (za HN);subst hnn;have U:=zaa ((za U).trans (v.mono (za U).size));have ST:=zaa (zbg _ _ V (ss.map (·.1)) m2 (by rw[List.length_map];exact hn2) (by omega) np lp nk lk o2 ((za O1).later v));have O1:=zaa ((za O1).later v)
    clear v o2 hn2)
  |(go_at_call 40
    refine(za ST).mono ?_;rintro e V ⟨rfl,v⟩;have U:=zaa ((za U).trans (v.mono (za U).size));have O1:=zaa ((za O1).later v)
    clear v)
  |(go_at_call 23
    refine(zei (za TT _ (za U))).mono ?_;rintro e V ⟨rfl,v⟩;have U:=zaa ((za U).trans (v.mono (za U).size));have O1:=zaa ((za O1).later v)
    clear v)
  |(go_at_call 42
    refine(zd4 (za TT _ (za U))).mono ?_;rintro e V ⟨rfl,v⟩;have U:=zaa ((za U).trans (v.mono (za U).size));have O1:=zaa ((za O1).later v)
    clear v)
  |(go_at_call 24
    refine(zdx (za TT _ (za U))).mono ?_;rintro e V ⟨rfl,v⟩;have U:=zaa ((za U).trans (v.mono (za U).size));have O1:=zaa ((za O1).later v)
    clear v)
  |(go_at_call 43
    refine(zd5 (za TT _ (za U))).mono ?_;rintro e V ⟨rfl,v⟩;have U:=zaa ((za U).trans (v.mono (za U).size));have O1:=zaa ((za O1).later v)
    clear v)
 go_wp2_with fail
 refine hK.out _ _ ?_ (fun hHeld=>?_)
 ·try dsimp only
  exact⟨(zav (za BX _ (za U))).1,(zav (za BX _ (za U))).2.1,(zav (za BX _ (za U))).2.2.2⟩
 clear hK K;refine hP ?_;refine hT 7 ?_;refine hT 8 ?_;refine hT 9 ?_;refine hT 10 ?_;refine hT 11 ?_;refine hT 12 ?_;refine hT 14 ?_;refine hT 15 ?_;refine hT 16 ?_;refine hT 17 ?_;refine hO 13 (fun K hK=>?_);go_simp
 first
  |(go_at_call 41
    refine(zdl (za TT _ (za U))).mono ?_;rintro e V ⟨np,m2,nk,rfl,hn2,o2,v⟩;have hnn:m2=ln:=hn2.symm.trans (za HN);subst hnn;have U:=zaa ((za U).trans (v.mono (za U).size));have ST:=zaa (zbg _ _ V (ss.map (·.1)) m2 (by rw[List.length_map];exact hn2) (by omega) np lp nk lk o2 ((za O1).later v));have O1:=zaa ((za O1).later v)
    clear v o2 hn2)
  |(go_at_call 40
    refine(za ST).mono ?_;rintro e V ⟨rfl,v⟩;have U:=zaa ((za U).trans (v.mono (za U).size));have O1:=zaa ((za O1).later v)
    clear v)
  |(go_at_call 23
    refine(zei (za TT _ (za U))).mono ?_;rintro e V ⟨rfl,v⟩;have U:=zaa ((za U).trans (v.mono (za U).size));have O1:=zaa ((za O1).later v)
    clear v)
  |(go_at_call 42
    refine(zd4 (za TT _ (za U))).mono ?_;rintro e V ⟨rfl,v⟩;have U:=zaa ((za U).trans (v.mono (za U).size));have O1:=zaa ((za O1).later v)
    clear v)
  |(go_at_call 24
    refine(zdx (za TT _ (za U))).mono ?_;rintro e V ⟨rfl,v⟩;have U:=zaa ((za U).trans (v.mono (za U).size));have O1:=zaa ((za O1).later v)
    clear v)
  |(go_at_call 43
    refine(zd5 (za TT _ (za U))).mono ?_;rintro e V ⟨rfl,v⟩;have U:=zaa ((za U).trans (v.mono (za U).size));have O1:=zaa ((za O1).later v)
    clear v)
 go_wp2_with fail
 refine hK.out _ _ ?_ (fun hHeld=>?_)
 ·try dsimp only
  exact⟨(zav (za BX _ (za U))).1,(zav (za BX _ (za U))).2.1,(zav (za BX _ (za U))).2.2.2⟩
 clear hK K;refine hP ?_;refine hO 18 (fun K hK=>?_);go_simp
 first
  |(go_at_call 41
    refine(zdl (za TT _ (za U))).mono ?_;rintro e V ⟨np,m2,nk,rfl,hn2,o2,v⟩;have hnn:m2=ln:=hn2.symm.trans (za HN);subst hnn;have U:=zaa ((za U).trans (v.mono (za U).size));have ST:=zaa (zbg _ _ V (ss.map (·.1)) m2 (by rw[List.length_map];exact hn2) (by omega) np lp nk lk o2 ((za O1).later v));have O1:=zaa ((za O1).later v)
    clear v o2 hn2)
  |(go_at_call 40
    refine(za ST).mono ?_;rintro e V ⟨rfl,v⟩;have U:=zaa ((za U).trans (v.mono (za U).size));have O1:=zaa ((za O1).later v)
    clear v)
  |(go_at_call 23
    refine(zei (za TT _ (za U))).mono ?_;rintro e V ⟨rfl,v⟩;have U:=zaa ((za U).trans (v.mono (za U).size));have O1:=zaa ((za O1).later v)
    clear v)
  |(go_at_call 42
    refine(zd4 (za TT _ (za U))).mono ?_;rintro e V ⟨rfl,v⟩;have U:=zaa ((za U).trans (v.mono (za U).size));have O1:=zaa ((za O1).later v)
    clear v)
  |(go_at_call 24
    refine(zdx (za TT _ (za U))).mono ?_;rintro e V ⟨rfl,v⟩;have U:=zaa ((za U).trans (v.mono (za U).size));have O1:=zaa ((za O1).later v)
    clear v)
  |(go_at_call 43
    refine(zd5 (za TT _ (za U))).mono ?_;rintro e V ⟨rfl,v⟩;have U:=zaa ((za U).trans (v.mono (za U).size));have O1:=zaa ((za O1).later v)
    clear v)
 go_wp2_with fail
 refine hK.out _ _ ?_ (fun hHeld=>?_)
 ·try dsimp only
  exact⟨(zav (za BX _ (za U))).1,(zav (za BX _ (za U))).2.1,(zav (za BX _ (za U))).2.2.2⟩
 clear hK K;refine hP ?_;refine hT 19 ?_;refine hT 20 ?_;refine hT 21 ?_;refine hT 22 ?_;refine hT 23 ?_;refine hT 24 ?_;refine hT 25 ?_;refine hT 27 ?_;refine hT 28 ?_;refine hT 29 ?_;refine hT 30 ?_;refine hO 26 (fun K hK=>?_);go_simp
 first
  |(go_at_call 41
    refine(zdl (za TT _ (za U))).mono ?_;rintro e V ⟨np,m2,nk,rfl,hn2,o2,v⟩;have hnn:m2=ln:=hn2.symm.trans (za HN);subst hnn;have U:=zaa ((za U).trans (v.mono (za U).size));have ST:=zaa (zbg _ _ V (ss.map (·.1)) m2 (by rw[List.length_map];exact hn2) (by omega) np lp nk lk o2 ((za O1).later v));have O1:=zaa ((za O1).later v)
    clear v o2 hn2)
  |(go_at_call 40
    refine(za ST).mono ?_;rintro e V ⟨rfl,v⟩;have U:=zaa ((za U).trans (v.mono (za U).size));have O1:=zaa ((za O1).later v)
    clear v)
  |(go_at_call 23
    refine(zei (za TT _ (za U))).mono ?_;rintro e V ⟨rfl,v⟩;have U:=zaa ((za U).trans (v.mono (za U).size));have O1:=zaa ((za O1).later v)
    clear v)
  |(go_at_call 42
    refine(zd4 (za TT _ (za U))).mono ?_;rintro e V ⟨rfl,v⟩;have U:=zaa ((za U).trans (v.mono (za U).size));have O1:=zaa ((za O1).later v)
    clear v)
  |(go_at_call 24
    refine(zdx (za TT _ (za U))).mono ?_;rintro e V ⟨rfl,v⟩;have U:=zaa ((za U).trans (v.mono (za U).size));have O1:=zaa ((za O1).later v)
    clear v)
  |(go_at_call 43
    refine(zd5 (za TT _ (za U))).mono ?_;rintro e V ⟨rfl,v⟩;have U:=zaa ((za U).trans (v.mono (za U).size));have O1:=zaa ((za O1).later v)
    clear v)
 go_wp2_with fail
 refine hK.out _ _ ?_ (fun hHeld=>?_)
 ·try dsimp only
  exact⟨(zav (za BX _ (za U))).1,(zav (za BX _ (za U))).2.1,(zav (za BX _ (za U))).2.2.2⟩
 clear hK K;refine hP ?_;refine hO 31 (fun K hK=>?_);go_simp
 first
  |(go_at_call 41
    refine(zdl (za TT _ (za U))).mono ?_;rintro e V ⟨np,m2,nk,rfl,hn2,o2,v⟩;have hnn:m2=ln:=hn2.symm.trans (za HN);subst hnn;have U:=zaa ((za U).trans (v.mono (za U).size));have ST:=zaa (zbg _ _ V (ss.map (·.1)) m2 (by rw[List.length_map];exact hn2) (by omega) np lp nk lk o2 ((za O1).later v));have O1:=zaa ((za O1).later v)
    clear v o2 hn2)
  |(go_at_call 40
    refine(za ST).mono ?_;rintro e V ⟨rfl,v⟩;have U:=zaa ((za U).trans (v.mono (za U).size));have O1:=zaa ((za O1).later v)
    clear v)
  |(go_at_call 23
    refine(zei (za TT _ (za U))).mono ?_;rintro e V ⟨rfl,v⟩;have U:=zaa ((za U).trans (v.mono (za U).size));have O1:=zaa ((za O1).later v)
    clear v)
  |(go_at_call 42
    refine(zd4 (za TT _ (za U))).mono ?_;rintro e V ⟨rfl,v⟩;have U:=zaa ((za U).trans (v.mono (za U).size));have O1:=zaa ((za O1).later v)
    clear v)
  |(go_at_call 24
    refine(zdx (za TT _ (za U))).mono ?_;rintro e V ⟨rfl,v⟩;have U:=zaa ((za U).trans (v.mono (za U).size));have O1:=zaa ((za O1).later v)
    clear v)
  |(go_at_call 43
    refine(zd5 (za TT _ (za U))).mono ?_;rintro e V ⟨rfl,v⟩;have U:=zaa ((za U).trans (v.mono (za U).size));have O1:=zaa ((za O1).later v)
    clear v)
 go_wp2_with fail
 refine hK.out _ _ ?_ (fun hHeld=>?_)
 ·try dsimp only
  exact⟨(zav (za BX _ (za U))).1,(zav (za BX _ (za U))).2.1,(zav (za BX _ (za U))).2.2.2⟩
 clear hK K;refine hP ?_;refine hT 32 ?_;refine hT 33 ?_;refine wpAnyH_done (by kernel_rfl) ?_ _;obtain⟨V7,hV7⟩:∃ V',V'=V:=⟨_,rfl⟩
 subst hV7;have U7:=zaa (za U);have O7:=zaa (za O1);clear U O1 ST
 go_wp2_with fail
 go_loopw [4,5,6,7,8,9,10,11,12] (fun i _ _ _ _ _ _ _ _ wr=>∃ (j:Nat),j≤m2∧i=.int .i64 (j:Int)∧Hid (Below V7.heap.size V7 wr)) (fun i _ _ _ _ _ _ _ _ _=>m2 - (intOf i).toNat)
 case atStart=>exact⟨0,by omega,rfl,zaa (Below.refl _ _)⟩
 case round =>
  obtain⟨j,hj,rfl,BW⟩:=hrel;by_cases hjm:j<m2
  ·as_aux_lemma =>
   have y0:(0:Int)≤(j:Int):=by omega
   have y1:(j:Int)<(m2:Int):=by omega
   have hjs:j<ss.length:=by rw[za HN];exact hjm
   have OL:=zaa (fun W (u:Below wr.heap.size wr W)=>((za O7).later (za BW)).later u);obtain⟨g,rfl,p0⟩:=(za OL wr (Below.refl _ _)).cell j (by rw[List.length_map];exact hjs)
   have LC:=zaa (show ∀ W,Below wr.heap.size wr W→W.cell? ⟨g,j,none⟩=some (.string (str ss[j].1)) from fun W u=>by
    obtain⟨g',e',p⟩:=(za OL W u).cell j (by rw[List.length_map];exact hjs);obtain rfl:g=g':=by simpa using e'
    rw[List.getElem_map] at p
    exact p)
   have G:=zaa (show zcc ss[j].1 ss=some ss[j].2 from zgc (za RS) (List.getElem_mem hjs));have K64:=zaa (za NL _ (List.getElem_mem hjs));have XLA:=zaa (za LA _ (List.getElem_mem hjs));generalize ss[j]=z at *;obtain⟨k,x⟩:=z;simp only at LC G K64 XLA;have U:=zaa (((za U7).trans ((za BW).mono (za U7).size)).drew);have UR:=zaa ((Below.refl wr.heap.size wr).drew);clear p0 OL hjs
   go_wp2_with fail
   refine wp_region_held_drew (S:=fun u=>u.cell? ⟨B,0,none⟩=some (.pointer (some ⟨d,0,none⟩))∧u.cell? ⟨g,j,none⟩=some (.string (str k))) (by kernel_rfl) ?_ (fun hHeld=>?_)
   ·try dsimp only
    exact⟨(zav (za BX _ (za U))).1,za LC _ (za UR)⟩
   refine hT 0 ?_;refine hT 1 ?_;refine hT 2 ?_;refine hT 3 ?_;refine hT 4 ?_;refine hT 5 ?_;refine hT 6 ?_;refine hT 7 ?_;refine hO 8 (fun K hK=>?_);go_simp
   first
    |(go_at_call 44
      refine(zsy (za TT _ (za U)) k (za K64) x (za G)).mono ?_;rintro e V ⟨p1,n1,c1,rfl,hn1,hb1,v⟩;have U:=zaa ((za U).trans (v.mono (za U).size));have UR:=zaa ((za UR).trans (v.mono (za UR).size));have P1:=zaa hb1;have N1:=zaa hn1;clear hb1 hn1
      clear v)
   go_wp2_with fail
   refine hK.out _ _ ?_ (fun hHeld=>?_)
   ·try dsimp only
    exact⟨(zav (za BX _ (za U))).1,za LC _ (za UR)⟩
   clear hK K;refine hP ?_;refine hT 9 ?_;refine hT 10 ?_;refine hT 11 ?_;refine hT 12 ?_;refine hT 13 ?_;refine wpAnyH_done (by kernel_rfl) ?_ _
   go_wp2_with fail
   obtain⟨Va,hVa⟩:∃ V',V'=V:=⟨_,rfl⟩
   subst hVa;have U:=zaa ((za U).drew);have UR:=zaa ((za UR).drew);have P1:=zaa ((za P1).later ((Below.refl _ _).drew));refine wp_region_held_drew (S:=fun u=>u.cell? ⟨B,2,none⟩=some (.pointer (some ⟨R,0,none⟩))∧u.cell? ⟨g,j,none⟩=some (.string (str k))) (by kernel_rfl) ?_ (fun hHeld=>?_)
   ·try dsimp only
    exact⟨(zav (za BX _ (za U))).2.2.1,za LC _ (za UR)⟩
   refine hT 0 ?_;refine hT 1 ?_;refine hT 2 ?_;refine hT 3 ?_;refine hT 4 ?_;refine hT 5 ?_;refine hT 6 ?_;refine hT 7 ?_;refine hO 8 (fun K hK=>?_);go_simp
   first
    |(go_at_call 45
      refine(zrc (za TT _ (za U)) k x (za G)).mono ?_;rintro e V ⟨p2,n2,c2,rfl,hn2,hb2,v⟩;have U:=zaa ((za U).trans (v.mono (za U).size));have UR:=zaa ((za UR).trans (v.mono (za UR).size));have P1:=zaa ((za P1).later v);have P2:=zaa hb2;have N2:=zaa hn2;clear hb2 hn2
      clear v)
   go_wp2_with fail
   refine hK.out _ _ ?_ (fun hHeld=>?_)
   ·try dsimp only
    exact⟨(zav (za BX _ (za U))).2.2.1,za LC _ (za UR)⟩
   clear hK K;refine hP ?_;refine hT 9 ?_;refine hT 10 ?_;refine hT 11 ?_;refine hT 12 ?_;refine hT 13 ?_;refine wpAnyH_done (by kernel_rfl) ?_ _
   go_wp2_with fail
   obtain⟨Vb,hVb⟩:∃ V',V'=V:=⟨_,rfl⟩
   subst hVb;have U:=zaa ((za U).drew);have UR:=zaa ((za UR).drew);have P1:=zaa ((za P1).later ((Below.refl _ _).drew));have P2:=zaa ((za P2).later ((Below.refl _ _).drew));refine wp_region_held_drew (S:=fun u=>u.cell? ⟨B,0,none⟩=some (.pointer (some ⟨d,0,none⟩))∧u.cell? ⟨g,j,none⟩=some (.string (str k))) (by kernel_rfl) ?_ (fun hHeld=>?_)
   ·try dsimp only
    exact⟨(zav (za BX _ (za U))).1,za LC _ (za UR)⟩
   refine hT 0 ?_;refine hT 1 ?_;refine hT 2 ?_;refine hT 3 ?_;refine hT 4 ?_;refine hT 5 ?_;refine hT 6 ?_;refine hT 7 ?_;refine hO 8 (fun K hK=>?_);go_simp
   first
    |(go_at_call 46
      refine(zsz (za TT _ (za U)) k (za K64) x (za G) (za XLA)).mono ?_;rintro e V ⟨p3,n3,c3,rfl,hn3,hb3,v⟩;have U:=zaa ((za U).trans (v.mono (za U).size));have UR:=zaa ((za UR).trans (v.mono (za UR).size));have P1:=zaa ((za P1).later v);have P2:=zaa ((za P2).later v);have P3:=zaa hb3;have N3:=zaa hn3;clear hb3 hn3
      clear v)
   go_wp2_with fail
   refine hK.out _ _ ?_ (fun hHeld=>?_)
   ·try dsimp only
    exact⟨(zav (za BX _ (za U))).1,za LC _ (za UR)⟩
   clear hK K;refine hP ?_;refine hT 9 ?_;refine hT 10 ?_;refine hT 11 ?_;refine hT 12 ?_;refine hT 13 ?_;refine wpAnyH_done (by kernel_rfl) ?_ _
   go_wp2_with fail
   obtain⟨Vc,hVc⟩:∃ V',V'=V:=⟨_,rfl⟩
   subst hVc;have U:=zaa ((za U).drew);have UR:=zaa ((za UR).drew);have P1:=zaa ((za P1).later ((Below.refl _ _).drew));have P2:=zaa ((za P2).later ((Below.refl _ _).drew));have P3:=zaa ((za P3).later ((Below.refl _ _).drew));refine wp_region_held_drew (S:=fun u=>u.cell? ⟨B,2,none⟩=some (.pointer (some ⟨R,0,none⟩))∧u.cell? ⟨g,j,none⟩=some (.string (str k))) (by kernel_rfl) ?_ (fun hHeld=>?_)
   ·try dsimp only
    exact⟨(zav (za BX _ (za U))).2.2.1,za LC _ (za UR)⟩
   refine hT 0 ?_;refine hT 1 ?_;refine hT 2 ?_;refine hT 3 ?_;refine hT 4 ?_;refine hT 5 ?_;refine hT 6 ?_;refine hT 7 ?_;refine hO 8 (fun K hK=>?_);go_simp
   first
    |(go_at_call 47
      refine(zrd (za TT _ (za U)) k x (za G) (za XLA)).mono ?_;rintro e V ⟨p4,n4,c4,rfl,hn4,hb4,v⟩;have U:=zaa ((za U).trans (v.mono (za U).size));have UR:=zaa ((za UR).trans (v.mono (za UR).size));have P1:=zaa ((za P1).later v);have P2:=zaa ((za P2).later v);have P3:=zaa ((za P3).later v);have P4:=zaa hb4;have N4:=zaa hn4;clear hb4 hn4
      clear v)
   go_wp2_with fail
   refine hK.out _ _ ?_ (fun hHeld=>?_)
   ·try dsimp only
    exact⟨(zav (za BX _ (za U))).2.2.1,za LC _ (za UR)⟩
   clear hK K;refine hP ?_;refine hT 9 ?_;refine hT 10 ?_;refine hT 11 ?_;refine hT 12 ?_;refine hT 13 ?_;refine wpAnyH_done (by kernel_rfl) ?_ _;have s1:=zcy n1 c1 (za N1) (za P1);have s2:=zcy n2 c2 (za N2) (za P2);have s3:=zcy n3 c3 (za N3) (za P3);have s4:=zcy n4 c4 (za N4) (za P4);have F:=zaa ((za BW).trans ((za UR).mono (za BW).size))
   go_wp2_with fail
   exact⟨⟨j+1,by omega,by go_num,F⟩,by simp[intOf];omega⟩
  ·as_aux_lemma =>
   have y1:¬ (j:Int)<(m2:Int):=by omega
   have U:=zaa (((za U7).trans ((za BW).mono (za U7).size)).drew);obtain⟨spL,kL,hrL,heL⟩:=(za TT _ (za U)).lrow;have UR:=zaa (Below.refl wr.drew.heap.size wr.drew);have LR:=zaa (fun W (u:Below wr.drew.heap.size wr.drew W)=>zac u hrL);have HEL:=zaa heL;have SR:=zaa (show ∀ sp k,zb1 c sp k=#[.int .i64 (c.bi:Int),.int .i64 (c.bt:Int),.int .i64 (c.ht:Int),.int .i64 (c.hv:Int),.slice sp c.es.length k] from fun _ _=>rfl);clear hrL heL
   go_wp2_with fail
   refine wp_region_held_drew (S:=fun u=>u.cell? ⟨B,1,none⟩=some (.pointer (some ⟨L,0,none⟩))∧u.cell? ⟨B,3,none⟩=some (.pointer (some ⟨Lr,0,none⟩))∧u.cell? ⟨Lr,2,none⟩=some (.int .i64 (c.bi:Int))∧u.cell? ⟨Lr,3,none⟩=some (.int .i64 (c.bt:Int))∧u.cell? ⟨Lr,4,none⟩=some (.int .i64 (c.ht:Int))∧u.cell? ⟨Lr,5,none⟩=some (.int .i64 (c.hv:Int))∧u.cell? ⟨Lr,6,none⟩=some (.slice spL c.es.length kL)) (by kernel_rfl) ?_ (fun hHeld=>?_)
   ·try dsimp only
    exact⟨(zav (za BX _ (za U))).2.1,(zav (za BX _ (za U))).2.2.2,zn8 (za LR _ (za UR))⟩
   refine hT 0 ?_;refine hT 1 ?_;refine hT 2 ?_;refine hT 3 ?_;refine hT 4 ?_;refine hT 5 ?_;refine hT 6 ?_;refine hT 7 ?_;refine hT 8 ?_;refine hT 9 ?_;refine hT 11 ?_;refine hT 12 ?_;refine hT 13 ?_;refine hT 14 ?_;refine hT 15 ?_;refine hT 16 ?_;refine hT 17 ?_;refine hO 10 (fun K hK=>?_);go_simp
   first
    |(go_at_call 19
      refine(zfp (za TT _ (za U)) (za IX)).mono ?_;rintro e V ⟨sp2,k2,hs2,rfl,o2,v⟩;have U:=zaa ((za U).trans (v.mono (za U).size));have UR:=zaa ((za UR).trans (v.mono (za UR).size));have SS:=zaa (zaw (a:=c) (b:=c) (k:=k2) (k':=kL) V o2.ents ((za HEL).later v) (by have:=za CE;omega) (by have:=za CE;omega));rw[za SR,za SR] at SS;rw[za SR]
      clear v o2)
    |(go_at_call 22
      refine(za SS).mono ?_;rintro e V ⟨xb,rfl,hx,v⟩;have hx1:=hx (by first|exact trivial|exact rfl);subst hx1;have U:=zaa ((za U).trans (v.mono (za U).size));have UR:=zaa ((za UR).trans (v.mono (za UR).size))
      clear v hx)
   go_wp2_with fail
   refine hK.out _ _ ?_ (fun hHeld=>?_)
   ·try dsimp only
    exact⟨(zav (za BX _ (za U))).2.1,(zav (za BX _ (za U))).2.2.2,zn8 (za LR _ (za UR))⟩
   clear hK K;refine hP ?_;refine hO 18 (fun K hK=>?_);go_simp
   first
    |(go_at_call 19
      refine(zfp (za TT _ (za U)) (za IX)).mono ?_;rintro e V ⟨sp2,k2,hs2,rfl,o2,v⟩;have U:=zaa ((za U).trans (v.mono (za U).size));have UR:=zaa ((za UR).trans (v.mono (za UR).size));have SS:=zaa (zaw (a:=c) (b:=c) (k:=k2) (k':=kL) V o2.ents ((za HEL).later v) (by have:=za CE;omega) (by have:=za CE;omega));rw[za SR,za SR] at SS;rw[za SR]
      clear v o2)
    |(go_at_call 22
      refine(za SS).mono ?_;rintro e V ⟨xb,rfl,hx,v⟩;have hx1:=hx (by first|exact trivial|exact rfl);subst hx1;have U:=zaa ((za U).trans (v.mono (za U).size));have UR:=zaa ((za UR).trans (v.mono (za UR).size))
      clear v hx)
   go_wp2_with fail
   refine hK.out _ _ ?_ (fun hHeld=>?_)
   ·try dsimp only
    exact⟨(zav (za BX _ (za U))).2.1,(zav (za BX _ (za U))).2.2.2,zn8 (za LR _ (za UR))⟩
   clear hK K;refine hP ?_;refine hT 19 ?_;refine hT 20 ?_;refine wpAnyH_done (by kernel_rfl) ?_ _;have FE:=zaa (za U)
   go_wp2_with fail
   go_ret
   exact⟨rfl,za FE⟩
end
end
section
open Go.ChangeShapes Go.WideShapes Go.ChangeAt Go.RowKit
set_option maxRecDepth 100000
def lv1:Ds:=(zfc 1000 []).2.1
def lvc:Wc:=⟨0,0,0,0,[(1,2,1,[])]⟩
def lv2:Ds:=(zev 1000 1 wc0 [(1,2,1,[])] lv1).2.1
def lv3:Ds:=(zax (walNm 1) lv2).2
def lv4:Ds:=(zmc 1000 1 lvc 3 1 lv3).2.1
def lv5:Ds:=za5 [] 0 lv4
def lv6:Ds:=(zfc 1000 lv5).2.1
theorem zBo:zfc 1000 []=(0,lv1,some (wc0,1)):=by kernel_rfl
theorem zBp:zev 1000 1 wc0 [(1,2,1,[])] lv1=(0,lv2,lvc,1):=by kernel_rfl
theorem zBq:zax (walNm 1) lv2=(0,lv3):=by kernel_rfl
theorem zBr:zmc 1000 1 lvc 3 1 lv3=(0,lv4,⟨0,0,3,1,[(1,2,1,[])]⟩,1):=by kernel_rfl
theorem zBs:zfc 1000 lv5=(0,lv6,some (lvc,1)):=by kernel_rfl
end
section
open Go.ChangeShapes Go.WideShapes Go.ChangeAt Go.RowKit
theorem wal1_is:str (walNm 1)=⟨#[119,97,108,45,49]⟩:=by kernel_rfl
theorem zBt:zdd lvc 1=(2,true):=by kernel_rfl
theorem zzn {W:World} {E:Nat} (h:W.heap[E]? = some (.cells #[.int .i64 1,.int .i64 2,.int .i64 1,.slice none 0 0] 64 (0,0))):EntsAt W (some ⟨E,0,none⟩) [(1,2,1,[])] :=
 ⟨fun i hi=>by
  obtain rfl:i=0:=by simp at hi;omega
  exact⟨E,0,none,0,rfl,zab h 0 _ rfl,zab h 1 _ rfl,zab h 2 _ rfl,zab h 3 _ rfl,⟨by simp,fun j hj=>by simp at hj⟩,fun _=>rfl⟩⟩
theorem zBv {P:Nat→Prop} {W:World} {E:Nat} (h:W.heap[E]? = some (.cells #[.int .i64 1,.int .i64 2,.int .i64 1,.slice none 0 0] 64 (0,0))) (hP:P E):EntsIn P W (some ⟨E,0,none⟩) [(1,2,1,[])]:=by
 refine⟨zzn h,fun b off e h0=>?_,fun i hi b off dp dc n e hc g o e1 h0=>?_⟩
 ·cases e
  exact hP
 ·obtain rfl:i=0:=by simp at hi;omega
  simp at h0
theorem zbv (w:World) (ht:Tz w):Calls Tryz.prog 12 #[] w fun e w'=>e=.returned (.bool true)∧Below w.heap.size w w':=by
 have HT:=zaa ht;have NC:=zaa (zmi w 1000);rw[show((1000:Int).toNat)=1000 from rfl] at NC;clear ht;go_enter Tryz.func12,Tryz.ntmps12
 go_wp2_with fail
 go_at_call 25
 refine(za NC).mono ?_;rintro e V1 ⟨d,M,rfl,h1,v1⟩;have D1:=zaa h1;have A1:=zaa (show Asd (fun _=>False) w.heap.size w V1 from⟨fun g hg=>hg.elim,v1⟩);have TT:=zaa (show ∀ W,Asd (fun _=>False) w.heap.size w W→∃ w0:World,w0.heap.size=w.heap.size∧Tz w0∧Below w.heap.size w0 W from fun W a=>⟨w,rfl,za HT,a.bel⟩);have OC:=zaa (zey (za D1) (za TT _ (za A1)) (by omega));rw[zBo] at OC;clear h1 v1 NC
 go_wp2_with fail
 go_at_call 21
 refine(za OC).mono ?_;rintro e V2 ⟨a2,L,ep,ec,hs,rfl,z2,_⟩;have A2:=zaa ((za A1).trans a2);have Z2:=zaa z2;clear a2 z2 OC;have U3:=zaa ((Below.refl V2.heap.size V2).alloc (Nat.le_refl _) (.cells #[.int .i64 1,.int .i64 2,.int .i64 1,.slice none 0 0] 64));have X3:=zaa (zad V2 (.cells #[.int .i64 1,.int .i64 2,.int .i64 1,.slice none 0 0] 64));have Z3:=zaa ((za Z2).more (za U3));have A3:=zaa ((za A2).trans (((za Z2).asdB (za U3)).sub (Bv:=fun _=>False) (fun g hg=>hg.elim)));have S3:=zaa (show V2.heap.size<(V2.alloc (.cells #[.int .i64 1,.int .i64 2,.int .i64 1,.slice none 0 0] 64)).heap.size from(Array.getElem?_eq_some_iff.1 (za X3)).1);have AC:=zaa (zjq (za Z3) (by omega) (some ⟨V2.heap.size,0,none⟩) 1 1 [(1,2,1,[])] rfl (zBv (za X3) (.inr (.inr ⟨Nat.le_refl _,za S3⟩))) (by simp[wc0]));rw[zBp] at AC
 go_wp2_with fail
 generalize V2.alloc _=V3 at *;generalize V2.heap.size=E at *;go_at_call 29
 refine(za AC).mono ?_;rintro e V4 ⟨rfl,z4,a4⟩;obtain⟨ep4,ec4,hs4,z4⟩:=z4;have Z4:=zaa (z4.sub (Bv:=fun _=>False) (fun g hg=>hg.elim));have A4:=zaa ((za A3).trans (a4.sub (Bv:=fun _=>False) (fun g hg=>hg.elim)));clear z4 a4 AC;have SC:=zaa (zii (za Z4));try dsimp only at SC
 rw[zBq] at SC;try dsimp only
 rw[show((0:Nat):Int)=0 from rfl]
 go_wp2_with fail
 go_at_call 18
 refine(za SC).mono ?_;rintro e V5 ⟨rfl,z5,a5⟩;have Z5:=zaa z5;have A5:=zaa ((za A4).trans (a5.sub (Bv:=fun _=>False) (fun g hg=>hg.elim)));clear z5 a5 SC;have HC:=zaa (zlk (za Z5) (by omega) 3 1 (by omega) (by omega));try dsimp only at HC
 rw[zBr,show((3:Nat):Int)=3 from rfl,show((1:Nat):Int)=1 from rfl] at HC;try dsimp only
 rw[show((0:Nat):Int)=0 from rfl]
 go_wp2_with fail
 go_at_call 31
 refine(za HC).mono ?_;rintro e V6 ⟨rfl,z6,a6⟩;obtain⟨ep6,ec6,hs6,z6⟩:=z6;have D6:=zaa (z6.dk.av (Bv:=fun _=>False) (fun g hg=>hg.elim));have A6:=zaa ((za A5).trans a6);clear z6 a6 HC;have CC:=zaa (zfd (za D6) none 0 0 [] rfl ⟨by simp,by simp⟩ (fun b off e=>by cases e));try dsimp only at CC
 rw[show za5 [] 0 lv4=lv5 from rfl] at CC;try dsimp only
 rw[show((0:Nat):Int)=0 from rfl]
 go_wp2_with fail
 go_at_call 20
 refine(za CC).mono ?_;rintro e V7 ⟨rfl,d7,a7⟩;have A7:=zaa ((za A6).trans a7);have OC:=zaa (zey d7 (za TT _ (za A7)) (by omega));rw[zBs] at OC;clear d7 a7 CC
 go_wp2_with fail
 go_at_call 21
 refine(za OC).mono ?_;rintro e V8 ⟨a8,L8,ep8,ec8,hs8,rfl,z8,_⟩;have A8:=zaa ((za A7).trans a8);have Z8:=zaa z8;clear a8 z8 OC;have TC:=zaa (zs4 (za Z8) 1 (by omega));try dsimp only at TC
 rw[zBt] at TC
 go_wp2_with fail
 go_at_call 13
 refine(za TC).mono ?_;rintro e V9 ⟨rfl,v9⟩;have Z9:=zaa ((za Z8).later v9);have A9:=zaa ((za A8).trans (((za Z8).asdB v9).sub (Bv:=fun _=>False) (fun g hg=>hg.elim)));clear v9 TC;have LC:=zaa (show Calls Tryz.prog 24 #[.pointer (some ⟨L8,0,none⟩)] V9 fun e w'=>e=.returned (.int .i64 1)∧Below V9.heap.size V9 w' from zig (za Z9));have HC:=zaa (show ∀ W,Below V9.heap.size V9 W→Calls Tryz.prog 48 #[.pointer (some ⟨L8,0,none⟩)] W fun e w'=>e=.returned (.agg #[.int .i64 0,.int .i64 0])∧Below W.heap.size W w' from fun W u=>zlv ((za Z9).later u));have FC:=zaa (fun (W:World) (u:Below V9.heap.size V9 W)=>zay ((za Z9).later u));rw[wal1_is] at FC;try dsimp only
 go_wp2_with fail
 go_at_call 24
 refine(za LC).mono ?_;rintro e Va ⟨rfl,va⟩;have Ba:=zaa va;clear va LC
 go_wp2_with fail
 go_at_call 48
 refine(za HC _ (za Ba)).mono ?_;rintro e Vb ⟨rfl,vb⟩;have Bb:=zaa ((za Ba).trans (vb.mono (za Ba).size));clear vb HC
 go_wp2_with fail
 go_at_call 23
 refine(za FC _ (za Bb)).mono ?_;rintro e Vc ⟨rfl,vc⟩;have Bc:=zaa ((za Bb).trans (vc.mono (za Bb).size));have FE:=zaa ((za A9).bel.trans ((za Bc).mono (za A9).bel.size));clear vc FC
 go_wp2
 go_ret
 exact⟨rfl,za FE⟩
end
end Go.Proofs.YtofllbpfajppeaaGreatDoor
