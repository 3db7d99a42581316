/- Both logs: any deed; a script is played. -/
import Derived.Test.YtofllbpfajppeaaGreatDoorB38
import Derived.Test.YtofllbpfajppeaaGreatDoorB19
set_option linter.unusedVariables false
set_option maxRecDepth 20000
set_option maxHeartbeats 16000000
namespace Go.Proofs.YtofllbpfajppeaaGreatDoor
section
open Go.ChangeShapes Go.WideShapes Go.ChangeAt Go.RowKit Go.Maps
section
variable {Bv:Nat→Prop} {base B d M R L Lr room N:Nat} {V0 w w':World} {ss:Ds} {c:Wc} {n:Nat} {r1 r2:List (List Nat)}
theorem dod_calls (hb0:V0.heap.size=base) (x:Wd) (h:WdH) (hx:WdAt V0 x h) (u:Below base V0 w) (t:TL Bv base w B d M R L Lr room N ss c n ss c n) (ls:LS room ss c n r1 r2) (lowB:base≤B) (hN:N+2≤302) (hn:n+2<1099511627776) (hl:c.es.length≤100000) (h6:sumN x.es≤6000) :
  Calls Tryz.prog 10 #[.pointer (some ⟨B,0,none⟩),.agg (wdRow x h)] w (zfc Bv base B d M R room (N+2) c n w):=by
 obtain⟨kd,es,ht,hv,mi,mt,kp⟩:=x;have hE:EntsIn (fun g=>g<base) w h.ep es:=by
  have:=EntsIn.ofLt hx.en;rw[hb0] at this;exact this.same (fun g hg=>u.block g hg)
 have hlo:∀ b off,h.kp=some ⟨b,off,none⟩→0<kp.length→b<base:=fun b off e h0=>by
  obtain⟨b',off',e',hc⟩:=hx.ks.cell 0 h0;rw[e] at e';simp only[Option.some.injEq,Addr.mk.injEq,and_true] at e';rw[e'.1,← hb0];exact cell_lt hc
 have hI:IntsAt w h.kp kp:=hx.ks.same (fun b off e h0=>u.block b (hlo b off e h0));unfold wdRow;dsimp only at h6 ⊢;by_cases k0:kd=0
 ·subst k0;exact do0_calls t ls lowB hN hn hl hE h6
 by_cases k1:kd=1
 ·subst k1;exact do1_calls t ls lowB hN hn
 by_cases k2:kd=2
 ·subst k2;exact do2_calls t ls lowB hN hn
 by_cases k3:kd=3
 ·subst k3;exact do3_calls t ls lowB hN hn hx.wi
 by_cases k4:kd=4
 ·subst k4;exact do4_calls t ls lowB hN hn
 by_cases k5:kd=5
 ·subst k5;exact do5_calls t ls lowB hN hn hI hlo
 by_cases k6:kd=6
 ·subst k6;exact do6_calls t ls lowB hN hn
 ·exact doN_calls t ls lowB hN hn ⟨k0,k1,k2,k3,k4,k5,k6⟩
end
def PlI (room base:Nat) (w0 wr:World) (B d M R j:Nat):Prop:=∃ L Lr N ss c n r1 r2,TL (fun g=>g=B) base wr B d M R L Lr room N ss c n ss c n∧LS room ss c n r1 r2∧N≤2+2*j∧n≤1+j∧c.es.length≤32768+300*j∧Below base w0 wr
section
variable {room base B d M R j:Nat} {w0 wr w':World}
theorem PlI.later (h:PlI room base w0 wr B d M R j) (u:Below wr.heap.size wr w'):PlI room base w0 w' B d M R j:=by
 obtain⟨L,Lr,N,ss,c,n,r1,r2,t,ls,h1,h2,h3,h4⟩:=h;exact⟨L,Lr,N,ss,c,n,r1,r2,t.later u,ls,h1,h2,h3,h4.trans (u.mono t.le)⟩
theorem PlI.next (h:PlI room base w0 wr B d M R j):PlI room base w0 wr B d M R (j+1):=by
 obtain⟨L,Lr,N,ss,c,n,r1,r2,t,ls,h1,h2,h3,h4⟩:=h;exact⟨L,Lr,N,ss,c,n,r1,r2,t,ls,by omega,by omega,by omega,h4⟩
theorem PlI.do_ (h:PlI room base w0 wr B d M R j) (hj:j<150) (lowB:base≤B) (hb0:w0.heap.size=base) (x:Wd) (hh:WdH) (hx:WdAt w0 x hh) (h6:sumN x.es≤6000) :
  Calls Tryz.prog 10 #[.pointer (some ⟨B,0,none⟩),.agg (wdRow x hh)] wr fun e w'=>e=.returned (.bool true)∧PlI room base w0 w' B d M R (j+1):=by
 obtain⟨L,Lr,N,ss,c,n,r1,r2,t,ls,h1,h2,h3,h4⟩:=h;refine(dod_calls hb0 x hh hx h4 t ls lowB (by omega) (by omega) (by omega) h6).mono ?_;rintro e w' ⟨rfl,b,_,L',Lr',ss',c',n',r1',r2',t',ls',n1,e1⟩;exact⟨rfl,L',Lr',_,ss',c',n',r1',r2',t',ls',by omega,by omega,by omega,h4.trans b⟩
end
end
section
open Go.ChangeShapes Go.WideShapes Go.ChangeAt Go.RowKit
set_option maxRecDepth 100000
def lv1:Ds:=(zfg 1000 []).2.1
def lvc:Wc:=⟨0,0,0,0,[(1,2,1,[])]⟩
def lv2:Ds:=(zei 1000 1 wc0 [(1,2,1,[])] lv1).2.1
def lv3:Ds:=(zaw (walNm 1) lv2).2
def lv4:Ds:=(wHard 1000 1 lvc 3 1 lv3).2.1
def lv5:Ds:=za4 [] 0 lv4
def lv6:Ds:=(zfg 1000 lv5).2.1
theorem lv1_is:zfg 1000 []=(0,lv1,some (wc0,1)):=by kernel_rfl
theorem lv2_is:zei 1000 1 wc0 [(1,2,1,[])] lv1=(0,lv2,lvc,1):=by kernel_rfl
theorem lv3_is:zaw (walNm 1) lv2=(0,lv3):=by kernel_rfl
theorem lv4_is:wHard 1000 1 lvc 3 1 lv3=(0,lv4,⟨0,0,3,1,[(1,2,1,[])]⟩,1):=by kernel_rfl
theorem lv6_is:zfg 1000 lv5=(0,lv6,some (lvc,1)):=by kernel_rfl
end
section
open Go.ChangeShapes Go.WideShapes Go.ChangeAt Go.RowKit
theorem wal1_is:str (walNm 1)=⟨#[119,97,108,45,49]⟩:=by kernel_rfl
theorem lvTerm:zcr lvc 1=(2,true):=by kernel_rfl
theorem one_ents {W:World} {E:Nat} (h:W.heap[E]? = some (.cells #[.int .i64 1,.int .i64 2,.int .i64 1,.slice none 0 0] 64 (0,0))):EntsAt W (some ⟨E,0,none⟩) [(1,2,1,[])] :=
 ⟨fun i hi=>by
  obtain rfl:i=0:=by simp at hi;omega
  exact⟨E,0,none,0,rfl,zab h 0 _ rfl,zab h 1 _ rfl,zab h 2 _ rfl,zab h 3 _ rfl,⟨by simp,fun j hj=>by simp at hj⟩,fun _=>rfl⟩⟩
theorem one_in {P:Nat→Prop} {W:World} {E:Nat} (h:W.heap[E]? = some (.cells #[.int .i64 1,.int .i64 2,.int .i64 1,.slice none 0 0] 64 (0,0))) (hP:P E):EntsIn P W (some ⟨E,0,none⟩) [(1,2,1,[])]:=by
 refine⟨one_ents h,fun b off e h0=>?_,fun i hi b off dp dc n e hc g o e1 h0=>?_⟩
 ·cases e
  exact hP
 ·obtain rfl:i=0:=by simp at hi;omega
  simp at h0
theorem zbe (w:World) (ht:Tz w):Calls Tryz.prog 12 #[] w fun e w'=>e=.returned (.bool true)∧Below w.heap.size w w':=by
 have HT:=zaa ht;have NC:=zaa (anew_calls w 1000);rw[show((1000:Int).toNat)=1000 from rfl] at NC;clear ht;go_enter Tryz.func12,Tryz.ntmps12
 go_wp2_with fail
 go_at_call 25
 refine(za NC).mono ?_;rintro e V1 ⟨d,M,rfl,h1,v1⟩;have D1:=zaa h1;have A1:=zaa (show Asd (fun _=>False) w.heap.size w V1 from⟨fun g hg=>hg.elim,v1⟩);have TT:=zaa (show ∀ W,Asd (fun _=>False) w.heap.size w W→∃ w0:World,w0.heap.size=w.heap.size∧Tz w0∧Below w.heap.size w0 W from fun W a=>⟨w,rfl,za HT,a.bel⟩);have OC:=zaa (zem (za D1) (za TT _ (za A1)) (by omega));rw[lv1_is] at OC;clear h1 v1 NC
 go_wp2_with fail
 go_at_call 21
 refine(za OC).mono ?_;rintro e V2 ⟨a2,L,ep,ec,hs,rfl,z2,_⟩;have A2:=zaa ((za A1).trans a2);have Z2:=zaa z2;clear a2 z2 OC;have U3:=zaa ((Below.refl V2.heap.size V2).alloc (Nat.le_refl _) (.cells #[.int .i64 1,.int .i64 2,.int .i64 1,.slice none 0 0] 64));have X3:=zaa (zad V2 (.cells #[.int .i64 1,.int .i64 2,.int .i64 1,.slice none 0 0] 64));have Z3:=zaa ((za Z2).more (za U3));have A3:=zaa ((za A2).trans (((za Z2).asdB (za U3)).sub (Bv:=fun _=>False) (fun g hg=>hg.elim)));have S3:=zaa (show V2.heap.size<(V2.alloc (.cells #[.int .i64 1,.int .i64 2,.int .i64 1,.slice none 0 0] 64)).heap.size from(Array.getElem?_eq_some_iff.1 (za X3)).1);have AC:=zaa (append_calls (za Z3) (by omega) (some ⟨V2.heap.size,0,none⟩) 1 1 [(1,2,1,[])] rfl (one_in (za X3) (.inr (.inr ⟨Nat.le_refl _,za S3⟩))) (by simp[wc0]));rw[lv2_is] at AC
 go_wp2_with fail
 generalize V2.alloc _=V3 at *;generalize V2.heap.size=E at *;go_at_call 29
 refine(za AC).mono ?_;rintro e V4 ⟨rfl,z4,a4⟩;obtain⟨ep4,ec4,hs4,z4⟩:=z4;have Z4:=zaa (z4.sub (Bv:=fun _=>False) (fun g hg=>hg.elim));have A4:=zaa ((za A3).trans (a4.sub (Bv:=fun _=>False) (fun g hg=>hg.elim)));clear z4 a4 AC;have SC:=zaa (wsync_calls (za Z4));try dsimp only at SC
 rw[lv3_is] at SC;try dsimp only
 rw[show((0:Nat):Int)=0 from rfl]
 go_wp2_with fail
 go_at_call 18
 refine(za SC).mono ?_;rintro e V5 ⟨rfl,z5,a5⟩;have Z5:=zaa z5;have A5:=zaa ((za A4).trans (a5.sub (Bv:=fun _=>False) (fun g hg=>hg.elim)));clear z5 a5 SC;have HC:=zaa (setHard_yes (za Z5) (by omega) 3 1 (by omega) (by omega));try dsimp only at HC
 rw[lv4_is,show((3:Nat):Int)=3 from rfl,show((1:Nat):Int)=1 from rfl] at HC;try dsimp only
 rw[show((0:Nat):Int)=0 from rfl]
 go_wp2_with fail
 go_at_call 31
 refine(za HC).mono ?_;rintro e V6 ⟨rfl,z6,a6⟩;obtain⟨ep6,ec6,hs6,z6⟩:=z6;have D6:=zaa (z6.dk.av (Bv:=fun _=>False) (fun g hg=>hg.elim));have A6:=zaa ((za A5).trans a6);clear z6 a6 HC;have CC:=zaa (acrash_calls (za D6) none 0 0 [] rfl ⟨by simp,by simp⟩ (fun b off e=>by cases e));try dsimp only at CC
 rw[show za4 [] 0 lv4=lv5 from rfl] at CC;try dsimp only
 rw[show((0:Nat):Int)=0 from rfl]
 go_wp2_with fail
 go_at_call 20
 refine(za CC).mono ?_;rintro e V7 ⟨rfl,d7,a7⟩;have A7:=zaa ((za A6).trans a7);have OC:=zaa (zem d7 (za TT _ (za A7)) (by omega));rw[lv6_is] at OC;clear d7 a7 CC
 go_wp2_with fail
 go_at_call 21
 refine(za OC).mono ?_;rintro e V8 ⟨a8,L8,ep8,ec8,hs8,rfl,z8,_⟩;have A8:=zaa ((za A7).trans a8);have Z8:=zaa z8;clear a8 z8 OC;have TC:=zaa (wterm_calls (za Z8) 1 (by omega));try dsimp only at TC
 rw[lvTerm] at TC
 go_wp2_with fail
 go_at_call 13
 refine(za TC).mono ?_;rintro e V9 ⟨rfl,v9⟩;have Z9:=zaa ((za Z8).later v9);have A9:=zaa ((za A8).trans (((za Z8).asdB v9).sub (Bv:=fun _=>False) (fun g hg=>hg.elim)));clear v9 TC;have LC:=zaa (show Calls Tryz.prog 24 #[.pointer (some ⟨L8,0,none⟩)] V9 fun e w'=>e=.returned (.int .i64 1)∧Below V9.heap.size V9 w' from wlast_calls (za Z9));have HC:=zaa (show ∀ W,Below V9.heap.size V9 W→Calls Tryz.prog 48 #[.pointer (some ⟨L8,0,none⟩)] W fun e w'=>e=.returned (.agg #[.int .i64 0,.int .i64 0])∧Below W.heap.size W w' from fun W u=>whard_calls ((za Z9).later u));have FC:=zaa (fun (W:World) (u:Below V9.heap.size V9 W)=>za1 ((za Z9).later u));rw[wal1_is] at FC;try dsimp only
 go_wp2_with fail
 go_at_call 24
 refine(za LC).mono ?_;rintro e Va ⟨rfl,va⟩;have Ba:=zaa va;clear va LC
 go_wp2_with fail
 go_at_call 48
 refine(za HC _ (za Ba)).mono ?_;rintro e Vb ⟨rfl,vb⟩;have Bb:=zaa ((za Ba).trans (vb.mono (za Ba).size));clear vb HC
 go_wp2_with fail
 go_at_call 23
 refine(za FC _ (za Bb)).mono ?_;rintro e Vc ⟨rfl,vc⟩;have Bc:=zaa ((za Bb).trans (vc.mono (za Bb).size));have FE:=zaa ((za A9).bel.trans ((za Bc).mono (za A9).bel.size));clear vc FC
 go_wp2
 go_ret
 exact⟨rfl,za FE⟩
end
end Go.Proofs.YtofllbpfajppeaaGreatDoor
