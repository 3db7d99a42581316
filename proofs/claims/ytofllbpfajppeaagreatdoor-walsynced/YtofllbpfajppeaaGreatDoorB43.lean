/- The walk of WalSynced (written by wip/mkwlaw.py). -/
import Derived.Test.YtofllbpfajppeaaGreatDoorB39
import Derived.Deep.CutBlock
import Derived.Deep.CutRange
import Derived.Deep.DeepCutAuto
set_option linter.unusedVariables false
set_option maxRecDepth 20000
set_option maxHeartbeats 16000000
namespace Go.Proofs.YtofllbpfajppeaaGreatDoor.walSynced
open Go.ChangeShapes Go.WideShapes Go.ChangeAt Go.RowKit Go.Maps
theorem walk0 (a0:Option Addr) (c0:Nat) (l0:List Wd) (a1:Option Addr) (c1:Nat) (l1:List Int) (w:World) (hx0:l0.length≤maxLen) (hb0:WdsAt w a0 l0) (hx1:l1.length≤maxLen) (hb1:IntsAt w a1 l1) (hTz:Tz w) :
  Calls Tryz.prog 5 #[.slice a0 l0.length c0,.slice a1 l1.length c1] w fun e w'=>e=.returned (.bool true)∧Below w.heap.size w w':=by
 have HB1:=zaa hb1;simp only[maxLen] at hx1
 have NI:=zaa (show ∀ b off,a1=some ⟨b,off,none⟩→0<l1.length→b<w.heap.size from fun b off e h0=>by
  obtain⟨b',off',e',hc⟩:=hb1.cell 0 h0;rw[e] at e';simp only[Option.some.injEq,Addr.mk.injEq,and_true] at e';rw[e'.1]
  exact zg hc)
 generalize hq1:l1.length=m1 at *;have Q1:=zaa hq1;clear hb1 hq1;have TZ:=zaa hTz;have HB0:=zaa hb0;simp only[maxLen] at hx0;generalize hq0:l0.length=m0 at *;have Q0:=zaa hq0;have NC:=zaa (zf9 w 20000 hTz);rw[show((20000:Int)).toNat=20000 from rfl] at NC;clear hTz hb0 hq0;go_enter Tryz.func5,Tryz.ntmps5
 go_wp2_with fail
 go_at_call 8
 refine(za NC).mono ?_;rintro e V1 ⟨B,d,M,R,rfl,v1,lowB,hcase⟩
 have I1:=zaa (show PlI 20000 w.heap.size w V1 B d M R 0 from by
  rcases hcase with⟨h,_⟩|⟨_,L,Lr,t⟩
  ·omega
  ·exact⟨L,Lr,2,ss1,wc0,1,_,_,t,(LS.begin (by omega)).2,by omega,by omega,by simp[wc0],v1⟩)
 have LB:=zaa lowB;clear hcase v1 lowB NC
 go_upto_block 0 with fail
 go_cut [6,7] (fun okv _ wc=>∃ (j:Nat),j≤60∧okv=.bool true∧Hid (PlI 20000 w.heap.size w wc B d M R j))
 case first =>
  as_aux_lemma =>
  go_wp2_with fail
  go_loopw [6,7] (fun okv q wr=>∃ (j:Nat),j≤m0∧j≤60∧q=.int .i64 (j:Int)∧okv=.bool true∧Hid (PlI 20000 w.heap.size w wr B d M R j)) (fun _ q _=>60 - (intOf q).toNat)
  case atStart=>exact⟨0,by omega,by omega,rfl,rfl,I1⟩
  case round =>
   obtain⟨j,hj,hj6,rfl,rfl,I3⟩:=hrel;by_cases hj1:j<m0
   ·have y1:(j:Int)<(m0:Int):=by omega
    by_cases hj2:j<60
    ·have y0:(0:Int)≤(j:Int):=by omega
     have y2:(j:Int)<60:=by omega
     have hjl:j<l0.length:=by rw[za Q0];exact hj1
     have bb3:Below w.heap.size w wr:=by obtain⟨_,_,_,_,_,_,_,_,_,_,_,_,_,q⟩:=za I3;exact q
     obtain⟨b,off,h,rfl,⟨q0,q1,q2,q3,q4,q5,q6⟩,hA⟩:=(za HB0).cell j hjl;have p0:=cell_later bb3 q0;have p1:=cell_later bb3 q1;have p2:=cell_later bb3 q2;have p3:=cell_later bb3 q3;have p4:=cell_later bb3 q4;have p5:=cell_later bb3 q5;have p6:=cell_later bb3 q6;clear q0 q1 q2 q3 q4 q5 q6;have HA:=zaa hA;have SH:=zaa (zfn _ h wr (hA.later bb3));generalize l0[j]=x at *;obtain⟨kd,es,ht,hv,mi,mt,kp⟩:=x;unfold zhy at SH;dsimp only at p0 p1 p2 p3 p4 p5 p6 SH;clear hA bb3 hjl
     go_wp2_with fail
     go_at_call 9
     refine(za SH).mono ?_;rintro e V4 ⟨b4,rfl,hb4,v4⟩;have I4:=zaa ((za I3).later v4);cases b4 with
     |false =>
      have I5:=zaa (za I4).next;clear hb4 v4 SH p0 p1 p2 p3 p4 p5 p6
      go_wp2
      exact⟨⟨j+1,by omega,by omega,by go_num,rfl,I5⟩,by simp[intOf];omega⟩
     |true =>
      have r0:=cell_later v4 p0;have r1:=cell_later v4 p1;have r2:=cell_later v4 p2;have r3:=cell_later v4 p3;have r4:=cell_later v4 p4;have r5:=cell_later v4 p5;have r6:=cell_later v4 p6;have DC:=zaa ((za I4).do_ (by omega) (za LB) rfl ⟨kd,es,ht,hv,mi,mt,kp⟩ h (za HA) (hb4 rfl).1);unfold zhy at DC;dsimp only at DC;clear hb4 v4 SH p0 p1 p2 p3 p4 p5 p6
      go_wp2_with fail
      clear r0 r1 r2 r3 r4 r5 r6;go_at_call 10
      refine(za DC).mono ?_;rintro e V5 ⟨rfl,i5⟩;have I5:=zaa i5;clear i5 DC
      go_wp2
      exact⟨⟨j+1,by omega,by omega,by go_num,rfl,I5⟩,by simp[intOf];omega⟩
    ·have y2:¬ (j:Int)<60:=by omega
     go_wp2_with fail
     go_meet
     case rel=>exact⟨j,by omega,rfl,I3⟩
   ·have y1:¬ (j:Int)<(m0:Int):=by omega
    go_wp2_with fail
    go_meet
    case rel=>exact⟨j,by omega,rfl,I3⟩
 case rest =>
  as_aux_lemma =>
  obtain⟨j,hj6,rfl,I9⟩:=hcut;obtain⟨L,Lr,N,ss,c,n,s1,s2,t9,ls9,N9,n9,e9,b9⟩:=za I9;have TT:=zaa t9;have LSH:=zaa ls9;have B9:=zaa b9;have TL9:=zaa (fun W (u:Below wc.heap.size wc W)=>t9.later u);have BX:=zaa (fun W (u:Below wc.heap.size wc W)=>(t9.later u).bx);have ZL:=zaa (fun W (u:Below wc.heap.size wc W)=>(za TZ).later ((za B9).trans (u.mono (za B9).size)));clear t9 ls9 b9 I9 I1;have SR:=zaa (show ∀ sp k,zb1 c sp k=#[.int .i64 (c.bi:Int),.int .i64 (c.bt:Int),.int .i64 (c.ht:Int),.int .i64 (c.hv:Int),.slice sp c.es.length k] from fun _ _=>rfl);have CE:=zaa (za TT).ceLe;have b1:=(zav (za TT).bx).2.1;by_cases hk:m1 > 50
  ·as_aux_lemma =>
   have y1:(50:Int)<(m1:Int):=by omega
   go_wp2_with fail
   clear b1;go_at_call 12
   refine(zbv _ (za ZL _ (Below.refl _ _))).mono ?_;rintro e V ⟨rfl,v⟩;have FE:=zaa ((za B9).trans (v.mono (za B9).size));clear v
   go_wp2
   go_ret
   exact⟨rfl,za FE⟩
  ·have y1:¬ (50:Int)<(m1:Int):=by omega
   have YC:=zaa (zlt (za TT) (by omega));rw[(za LSH).sync.1] at YC;have L2:=zaa (za LSH).sync.2
   go_wp2_with fail
   clear b1;go_at_call 18
   refine(za YC).mono ?_;rintro e V0 ⟨rfl,t0,a0'⟩;have TT:=zaa t0;have B0:=zaa ((za B9).trans a0'.bel);have b1:=(zav (za TT).bx).2.1;have LSH:=zaa (za L2);dsimp only;rw[show((0:Nat):Int)=0 from rfl];clear t0 a0' YC;have SC:=zaa (zfp (za TT) (za LSH).ix)
   go_wp2_with fail
   clear b1;go_at_call 19
   refine(za SC).mono ?_;rintro e V1 ⟨sp1,k1,hs1,rfl,o1,v1⟩;rw[za SR];have U1:=zaa (show Below V0.heap.size V0 (V1.alloc (.cells #[.int .i64 (c.bi:Int),.int .i64 (c.bt:Int),.int .i64 (c.ht:Int),.int .i64 (c.hv:Int),.slice sp1 c.es.length k1] 51)) from v1.trans (((Below.refl _ _).alloc (Nat.le_refl _) _:Below V1.heap.size V1 (V1.alloc (.cells #[.int .i64 (c.bi:Int),.int .i64 (c.bt:Int),.int .i64 (c.ht:Int),.int .i64 (c.hv:Int),.slice sp1 c.es.length k1] 51))).mono v1.size));have X1:=zaa (zad V1 (.cells #[.int .i64 (c.bi:Int),.int .i64 (c.bt:Int),.int .i64 (c.ht:Int),.int .i64 (c.hv:Int),.slice sp1 c.es.length k1] 51));have O1:=zaa (o1.later ((Below.refl _ _).alloc (Nat.le_refl _) (.cells #[.int .i64 (c.bi:Int),.int .i64 (c.bt:Int),.int .i64 (c.ht:Int),.int .i64 (c.hv:Int),.slice sp1 c.es.length k1] 51):Below V1.heap.size V1 (V1.alloc (.cells #[.int .i64 (c.bi:Int),.int .i64 (c.bt:Int),.int .i64 (c.ht:Int),.int .i64 (c.hv:Int),.slice sp1 c.es.length k1] 51))));have T1:=zaa ((za TT).more (za U1));have SZ:=zaa v1.size;have b0:=(zav (za T1).bx).1;clear o1 v1 SC
   go_wp2_with fail
   clear b0;generalize V1.alloc _=W1 at *;obtain⟨Cv,hCv⟩:∃ P:Nat→Prop,P=(fun g=>g=B∨(V0.heap.size≤g∧g<W1.heap.size)):=⟨_,rfl⟩
   rw[← hCv] at T1;have CE1:=zaa (show Cv V1.heap.size from by rw[hCv];exact .inr ⟨za SZ,(Array.getElem?_eq_some_iff.1 (za X1)).1⟩);have CF:=zaa (show ∀ g,zc6 sp1 hs1 g→Cv g from fun g hg=>by rw[hCv];exact .inr ⟨((za O1).foot g hg).1,((za O1).foot g hg).2.1⟩);have CB:=zaa (show Cv B from by rw[hCv];exact .inl rfl);generalize V1.heap.size=E at *;clear hCv SZ;obtain⟨Fv,d1,_,_,h4⟩:=(za T1).toTB.at_;have IA:=zaa (show IntsAt W1 a1 l1 from(za HB1).same (fun b off e h0=>((za B0).trans ((za U1).mono (za B0).size)).block b (za NI b off e (by rw[← za Q1];exact h0))));have CC:=zaa (zfd d1 a1 m1 c1 l1 (za Q1) (za IA) (fun b off e h0=>.inl (za NI b off e (by rw[← za Q1];exact h0))));have TZ1:=zaa (za T1).tz;have XB1:=zaa (za T1).bx;have BB1:=zaa ((za B0).trans ((za U1).mono (za B0).size));clear d1 h4 T1;go_at_call 20
   refine(za CC).mono ?_;rintro e V2 ⟨rfl,d2,a2⟩;have A2:=zaa (a2.sub (Bv:=Cv) (fun g hg=>.inr (.inr hg)));have OC:=zaa (zey d2 (zi5 (za TZ1) a2.bel) (by omega));obtain⟨mm,c',hm,hcm,ho,lso⟩:=(za LSH).crash l1;rw[ho] at OC;have hcc:c=c':=by
    have h1:=(za LSH).cont;rw[List.append_nil] at h1;rw[show([]:List (List Nat)).take mm=[] by simp,List.append_nil,h1] at hcm;exact Option.some.inj hcm
   subst hcc;have XB2:=zaa (((za A2).av B (za CB)).trans (za XB1));have X2:=zaa (((za A2).av E (za CE1)).trans (za X1));have O2:=zaa ((za O1).same (w':=V2) (fun g hg=>(za A2).av g (za CF g hg)));have B2:=zaa ((za BB1).trans a2.bel);have b0:=(zav (za XB2)).1;clear d2 a2 CC X1 O1 XB1 BB1 hcm hm ho lso
   go_wp2_with fail
   clear b0;go_at_call 21
   refine(za OC).mono ?_;rintro e V3 ⟨a3,Lh,ep3,ec3,hs3,rfl,z3,_⟩;have A3:=zaa (a3.sub (Bv:=Cv) (fun g hg=>.inr (.inr hg)));have ZH:=zaa z3;have X3:=zaa (((za A3).av E (za CE1)).trans (za X2));have E3:=zaa ((za O2).same (w':=V3) (fun g hg=>(za A3).av g (za CF g hg))).ents;have B3:=zaa ((za B2).trans a3.bel);clear a3 z3 OC X2 O2 B2 A2 XB2
   go_wp2_with fail
   have IX:=zaa (za LSH).ix;have U:=zaa ((Below.refl V3.heap.size V3).drew);have XL:=zaa (fun W (u:Below V3.heap.size V3 W)=>zac u (za X3));have ZT:=zaa (fun W (u:Below V3.heap.size V3 W)=>(za TZ).later ((za B3).trans (u.mono (za B3).size)));refine wp_region_held_drew (S:=fun u=>u.cell? ⟨E,0,none⟩=some (.int .i64 (c.bi:Int))∧u.cell? ⟨E,1,none⟩=some (.int .i64 (c.bt:Int))∧u.cell? ⟨E,2,none⟩=some (.int .i64 (c.ht:Int))∧u.cell? ⟨E,3,none⟩=some (.int .i64 (c.hv:Int))∧u.cell? ⟨E,4,none⟩=some (.slice sp1 c.es.length k1)) (by kernel_rfl) ?_ (fun hHeld=>?_)
   ·try dsimp only
    exact⟨zab (za XL _ (za U)) 0 _ rfl,zab (za XL _ (za U)) 1 _ rfl,zab (za XL _ (za U)) 2 _ rfl,zab (za XL _ (za U)) 3 _ rfl,zab (za XL _ (za U)) 4 _ rfl⟩
   refine hO 0 (fun K hK=>?_);go_simp
   first
    |(go_at_call 12
      refine(zbv _ (za ZT _ (za U))).mono ?_;rintro e V ⟨rfl,v⟩;have U:=zaa ((za U).trans (v.mono (za U).size))
      clear v)
    |(go_at_call 19
      refine(za8 ((za ZH).later (za U)) (za IX)).mono ?_;rintro e V ⟨sq,kq,hq,rfl,oq,v⟩;have U:=zaa ((za U).trans (v.mono (za U).size));have SA:=zaa (zaw (a:=c) (b:=c) (k:=kq) (k':=k1) V oq.ents ((za E3).later ((show Below V3.heap.size V3 V from za U))) (by have:=za CE;omega) (by have:=za CE;omega));rw[za SR,za SR] at SA;rw[za SR]
      clear v oq)
    |(go_at_call 22
      refine(za SA).mono ?_;rintro e V ⟨xb,rfl,hx,v⟩;have hx1:=hx (by first|exact trivial|exact rfl);subst hx1;have U:=zaa ((za U).trans (v.mono (za U).size))
      clear v hx)
   go_wp2_with fail
   refine hK.out _ _ ?_ (fun hHeld=>?_)
   ·try dsimp only
    exact⟨zab (za XL _ (za U)) 0 _ rfl,zab (za XL _ (za U)) 1 _ rfl,zab (za XL _ (za U)) 2 _ rfl,zab (za XL _ (za U)) 3 _ rfl,zab (za XL _ (za U)) 4 _ rfl⟩
   clear hK K;refine hP ?_;refine hT 1 ?_;refine hT 2 ?_;refine hT 3 ?_;refine hT 4 ?_;refine hT 5 ?_;refine hT 6 ?_;refine hT 8 ?_;refine hO 7 (fun K hK=>?_);go_simp
   first
    |(go_at_call 12
      refine(zbv _ (za ZT _ (za U))).mono ?_;rintro e V ⟨rfl,v⟩;have U:=zaa ((za U).trans (v.mono (za U).size))
      clear v)
    |(go_at_call 19
      refine(za8 ((za ZH).later (za U)) (za IX)).mono ?_;rintro e V ⟨sq,kq,hq,rfl,oq,v⟩;have U:=zaa ((za U).trans (v.mono (za U).size));have SA:=zaa (zaw (a:=c) (b:=c) (k:=kq) (k':=k1) V oq.ents ((za E3).later ((show Below V3.heap.size V3 V from za U))) (by have:=za CE;omega) (by have:=za CE;omega));rw[za SR,za SR] at SA;rw[za SR]
      clear v oq)
    |(go_at_call 22
      refine(za SA).mono ?_;rintro e V ⟨xb,rfl,hx,v⟩;have hx1:=hx (by first|exact trivial|exact rfl);subst hx1;have U:=zaa ((za U).trans (v.mono (za U).size))
      clear v hx)
   go_wp2_with fail
   refine hK.out _ _ ?_ (fun hHeld=>?_)
   ·try dsimp only
    exact⟨zab (za XL _ (za U)) 0 _ rfl,zab (za XL _ (za U)) 1 _ rfl,zab (za XL _ (za U)) 2 _ rfl,zab (za XL _ (za U)) 3 _ rfl,zab (za XL _ (za U)) 4 _ rfl⟩
   clear hK K;refine hP ?_;refine hO 9 (fun K hK=>?_);go_simp
   first
    |(go_at_call 12
      refine(zbv _ (za ZT _ (za U))).mono ?_;rintro e V ⟨rfl,v⟩;have U:=zaa ((za U).trans (v.mono (za U).size))
      clear v)
    |(go_at_call 19
      refine(za8 ((za ZH).later (za U)) (za IX)).mono ?_;rintro e V ⟨sq,kq,hq,rfl,oq,v⟩;have U:=zaa ((za U).trans (v.mono (za U).size));have SA:=zaa (zaw (a:=c) (b:=c) (k:=kq) (k':=k1) V oq.ents ((za E3).later ((show Below V3.heap.size V3 V from za U))) (by have:=za CE;omega) (by have:=za CE;omega));rw[za SR,za SR] at SA;rw[za SR]
      clear v oq)
    |(go_at_call 22
      refine(za SA).mono ?_;rintro e V ⟨xb,rfl,hx,v⟩;have hx1:=hx (by first|exact trivial|exact rfl);subst hx1;have U:=zaa ((za U).trans (v.mono (za U).size))
      clear v hx)
   go_wp2_with fail
   refine hK.out _ _ ?_ (fun hHeld=>?_)
   ·try dsimp only
    exact⟨zab (za XL _ (za U)) 0 _ rfl,zab (za XL _ (za U)) 1 _ rfl,zab (za XL _ (za U)) 2 _ rfl,zab (za XL _ (za U)) 3 _ rfl,zab (za XL _ (za U)) 4 _ rfl⟩
   clear hK K;refine hP ?_;refine hT 10 ?_;refine hT 11 ?_;refine wpAnyH_done (by kernel_rfl) ?_ _;have FE:=zaa ((za B3).trans ((za U).mono (za B3).size))
   go_wp2_with fail
   go_ret
   exact⟨rfl,za FE⟩
end Go.Proofs.YtofllbpfajppeaaGreatDoor.walSynced
