/- Conf: the document's Load: the walk. -/
import Derived.Test.YtjcjleaicjhpeaaGreatDoorB31
import Derived.Test.YtjcjleaicjhpeaaGreatDoorB32
import Derived.Deep.CutBlock
import Derived.Deep.DeepCutAuto
import Derived.Deep.RegionHeld3
set_option linter.unusedVariables false
set_option maxRecDepth 20000
set_option maxHeartbeats 16000000
namespace Go.Proofs.YtjcjleaicjhpeaaGreatDoor
open Go.ChangeShapes Go.WideShapes Go.ChangeAt Go.RowKit
theorem zi4 {α:Type} (f:Nat→Nat→α×Nat×Nat) (m k e:Nat) (h:m=0∨e≠0):zft f m k e=([],k,e):=by
 rcases h with rfl|h
 ·rfl
 ·exact zb7 f m k e h
theorem zuh {l:List Nat} (hb:∀ c∈l,c<256) {n k1 k3 k4:Nat} {ps:List Po} {rs:List Rt} {cl:List Ls} (h:zt3 l=((n,ps,rs,cl,k1,k3),k4,0)):LdK l n ps rs cl k1 k3 k4 0:=by
 have e:=(zqu hb).2 (by rw[h]);obtain⟨n',j1,e1,q1⟩:=zds (zcd l 0 0);obtain⟨ps',j2,e2,q2⟩:=zds (znf l j1 e1);obtain⟨rs',j3,e3,q3⟩:=zds (zom l j2 e2);obtain⟨cl',j4,e4,q4⟩:=zds (zn8 l j3 e3);have ld:LdK l n' ps' rs' cl' j1 j3 j4 e4:=⟨_,_,_,_,q1,q2,q3,q4⟩
 rw[h,zp6 ld] at e;simp only[Prod.mk.injEq] at e;obtain⟨⟨rfl,rfl,rfl,rfl,rfl,rfl⟩,rfl,rfl⟩:=e;exact ld
theorem ztq (h:List Nat) (k e:Nat):(zg4 h k e).1.ts.length≤16:=by
 obtain⟨tb,k2,e2,q1⟩:=zds (zbp h k e);have h2:=zou h k2 e2;obtain⟨ts,k3,e3,q2⟩:=zds (zjf h k2 e2);rw[q2] at h2;rw[zkj q1 q2];exact h2
theorem zq7 (h:List Nat):∀ n k e,∀ x∈(zje h n k e).1,x.ts.length≤16
 |0,_,_,_,hx=>by cases hx
 |n+1,k,e,x,hx=>by
  rw[zdg] at hx;rcases List.mem_cons.1 hx with rfl|hx
  ·exact ztq h k e
  ·exact zq7 h n _ _ x hx
theorem zld {l:List Nat} (hb:∀ c∈l,c<256) {n k1 k3 k4 e4:Nat} {lq:List Pq} {rs:List Rt} {cl:List Ls} (h:LdK l n (lq.map Pq.po) rs cl k1 k3 k4 e4):SmB ⟨n,lq,rs,cl⟩:=by
 obtain⟨e1,k2,e2,e3,q1,q2,q3,q4⟩:=h.eq;have p1:=ziq hb 0 0;have p2:=zoi l k1 e1;have p2b:∀ x∈(znf l k1 e1).1,x.ts.length≤16:=zq7 l _ _ _;have p3:=zon l k2 e2;have p4:=zmt hb k3 e3;rw[q1] at p1;rw[q2] at p2 p2b;rw[q3] at p3;rw[q4] at p4;dsimp only at p1 p2 p2b p3 p4;have hl:lq.length≤32:=by have:=p2.1;rwa [List.length_map] at this
 have h3:=p3.1;have h4:=p4.1;refine⟨by dsimp only;omega,by dsimp only;omega,by dsimp only;omega,by dsimp only;omega,fun r hr=>p3.2 r hr,fun q hq=>?_⟩;have hm:q.po∈lq.map Pq.po:=List.mem_map.2 ⟨q,hq,rfl⟩;exact⟨(p2.2 q.po hm).1,p2b q.po hm,(p2.2 q.po hm).2⟩
def zf7 (w:World) (l:List Nat) (e:Ending) (w':World):Prop:=∃ n lq rs cl k1 k3 k4 e4,zt3 l=((n,lq.map Pq.po,rs,cl,k1,k3),k4,e4)∧Below w.heap.size w w'∧k4≤l.length ∧
 ((e4≠0∧e=.returned (.tuple #[.pointer none,.int .i64 (e4:Nat)])) ∨
  (e4=0∧(k4<l.length∨zhi ⟨n,lq,rs,cl⟩=false)∧e=.returned (.tuple #[.pointer none,.int .i64 4])) ∨
  (e4=0∧k4=l.length∧zhi ⟨n,lq,rs,cl⟩=true∧∃ r kk,e=.returned (.tuple #[.pointer (some ⟨r,0,none⟩),.int .i64 0])∧RtAt w' r kk ⟨n,lq,rs,cl⟩))
theorem znn (a:Option Addr) (c:Nat) (l:List Nat) (w:World) (hc:l.length≤c) (hm:c≤maxLen) (hb:BytesAt w a l) (hz:a=none→c=0) (hl47:l.length≤140737488355328) :
  Calls Tryz.prog 27 #[.slice a l.length c] w (zf7 w l):=by
 have PB:0<l.length→∀ ad,a=some ad→ad.block<w.heap.size:=by
  intro h0 ad e;obtain⟨b,off,e2,hc2⟩:=hb.cell 0 h0;rw[e] at e2;have:=Option.some.inj e2;subst this;rcases Nat.lt_or_ge b w.heap.size with h|h
  ·exact h
  ·have:w.heap[b]? = none:=Array.getElem?_eq_none h;simp[World.cell?,this] at hc2
 have b1:Below w.heap.size w (w.alloc (.cells #[.slice a l.length c,.int .i64 0,.int .i64 0] 115)):=(Below.refl _ _).alloc (Nat.le_refl _) _;have Z0:=zaa (show ZR w.heap.size (w.alloc (.cells #[.slice a l.length c,.int .i64 0,.int .i64 0] 115)) a c l 0 0 from⟨zad w _,hb.later b1,fun h0 ad e=>by have:=PB h0 ad e;omega,by omega,hl47,hc,hm,hz⟩);have BB:=zaa b1;have HB:=zaa hb.lt;have NS:=zaa (znp (w.alloc (.cells #[.slice a l.length c,.int .i64 0,.int .i64 0] 115)));have LE:=zaa (show ∀ en W,zf7 w l en W→zf7 w l en W from fun _ _ h=>h);have LL:=zaa hl47;clear hb hz PB b1 hc hm hl47;obtain⟨n,k1,e1,q1⟩:=zds (zcj l 0 0 1099511627776);have Q1:=zaa q1;clear q1;go_enter Tryz.func27,Tryz.ntmps27
 generalize hR:w.heap.size=R at *
 go_wp2_with fail
 try simp only[hR]
 generalize w.alloc (.cells #[.slice a l.length c,.int .i64 0,.int .i64 0] 115)=w0 at *;go_at_call 32
 refine(za NS).mono ?_;rintro en V1 ⟨r,rfl,t1,u1,hr⟩;have RW:=zaa (za Z0).lt;have S1:=zaa (show DSt R r V1.heap.size w0 V1 a c l 0 0 0 ⟨none,0,none,0,none,0⟩ [] [] [] from⟨t1.hd,(za Z0).later u1,zku.ofNil _ _,OwnPq.ofNil _ _,zoz.ofNil _ _,zao u1 _,⟨za RW,hr,t1.lt,Nat.le_refl _⟩,by simp⟩);generalize V1.heap.size=base at *;have NC:=zaa (zbn (za S1).z 1099511627776 (by omega));rw[za Q1] at NC;unfold zfi at NC;dsimp only at NC;rw[show((1099511627776:Nat):Int)=1099511627776 from rfl] at NC;clear t1 u1 hr NS
 go_wp2_with fail
 go_at_call 61
 refine(za NC).mono ?_;rintro en V2 ⟨rfl,z2,g2⟩;have S2:=zaa ((za S1).num z2 g2);have f1:=zbf (za S2).cb 0;have c1:=zab (za S2).cb 0 (.int .i64 0) rfl;have S3:=zaa ((za S2).setV (za Z0) (n:Int));obtain⟨m,j1,d1,p1⟩:=zds (zcj l k1 e1 32);have P1:=zaa p1;have ML:=zaa (zir l k1 e1 32);have NC2:=zaa (zbn (za S3).z 32 (by omega));rw[p1] at NC2 ML;unfold zfi at NC2;dsimp only at NC2 ML;rw[show((32:Nat):Int)=32 from rfl] at NC2;clear z2 g2 NC S1 S2 p1
 go_wp2_with fail
 clear f1 c1;generalize V2.setCell ⟨r,0,none⟩ (.int .i64 (n:Int))=A1 at *;go_at_call 61
 refine(za NC2).mono ?_;rintro en V3 ⟨rfl,z3,g3⟩;have S4:=zaa ((za S3).num z3 g3);clear z3 g3 NC2 S3
 go_upto_block 0 with fail
 go_cut [7,8] (fun _ _ wc=>∃ (kk:RfH) (acc:List Pq) (kz ez:Nat),Hid (zst l k1 e1=(acc.map Pq.po,kz,ez))∧Hid (DSt R r base w0 wc a c l kz ez n kk [] acc []))
 case first =>
  go_wp2_with fail
  go_loopw [7,8] (fun i _ wr=>∃ (j:Nat) (kk:RfH) (acc:List Pq) (kj ej:Nat),j≤m∧i=.int .i64 (j:Int)∧Hid (acc.length=j)∧Hid (DSt R r base w0 wr a c l kj ej n kk [] acc [])∧Hid (zft (zml l) m j1 d1=(acc.map Pq.po++(zft (zml l) (m - j) kj ej).1,(zft (zml l) (m - j) kj ej).2))) (fun i _ _=>m - (intOf i).toNat)
  case atStart=>exact⟨0,_,[],j1,d1,by omega,rfl,zaa rfl,S4,zaa rfl⟩
  case round =>
   clear S4;obtain⟨j,kk,acc,kj,ej,hj,rfl,AL,S,E⟩:=hrel;have q2:=(za S).z.c2
   have DONE:=zaa (fun (hd:m - j=0∨ej≠0)=>show zst l k1 e1=(acc.map Pq.po,kj,ej) from by
    unfold zst;rw[zau (za P1),za E,zi4 _ _ _ _ hd]
    simp)
   by_cases hjm:j<m
   ·have y1:(j:Int)<(m:Int):=by omega
    have hml:=za ML;by_cases he:ej=0
    ·as_aux_lemma =>
     subst he;have q2:wr.cell? ⟨R,2,none⟩=some (.int .i64 0):=q2;have hj1:j+1≤m:=by omega
     have E2:=zaa (show zft (zml l) m j1 d1=(acc.map Pq.po++[(zml l kj 0).1]++(zft (zml l) (m - (j+1)) (zml l kj 0).2.1 (zml l kj 0).2.2).1,(zft (zml l) (m - (j+1)) (zml l kj 0).2.1 (zml l kj 0).2.2).2) by
      rw[za E,show m - j=(m - (j+1))+1 by omega,zf]
      simp)
     clear DONE E;obtain⟨tb,k5,e5,q1⟩:=zds (zgr l kj 0);have Q5:=zaa q1;have TC:=zaa (zct (za S).z);rw[q1] at TC;unfold zkv at TC;dsimp only at TC;clear q1
     go_wp2_with fail
     go_at_call 62
     refine(za TC).mono ?_;rintro en V6 ⟨rfl,z6,g6⟩;have S:=zaa ((za S).num z6 g6);clear z6 g6 TC q2
     go_wp2_with fail
     have S:=zaa ((za S).later (show Below V6.heap.size V6 V6.drew from(Below.refl _ _).drew));refine wp_region_held_drew (S:=fun W=>True) (by kernel_rfl) ?_ (fun hHeld=>?_)
     ·try dsimp only
      all_goals trivial
     refine hT 0 ?_;refine hT 1 ?_;refine hT 2 ?_;refine hT 3 ?_;refine hT 4 ?_;refine hT 6 ?_;refine hT 7 ?_;refine wpAnyH_ready (rs:=[5,8]) (by kernel_rfl) (by simp) ?_;refine AllReadyH.cons rfl (fun K hK=>?_) ?_
     ·have cc:=zab (za S).cb 2 _ rfl;go_simp
      clear cc;refine hK.out _ _ ?_ (fun hHeld=>?_)
      ·try dsimp only
       all_goals trivial
      clear hK K;refine hP ?_;refine wpAnyH_ready (rs:=[8]) (by kernel_rfl) (by simp) ?_;refine AllReadyH.cons rfl (fun K hK=>?_) ?_
      ·go_simp
       go_at_call 63
       obtain⟨ts,k6,e6,q6⟩:=zds (zrn l k5 e5);have GC:=zaa (zfx (za S).z);rw[q6] at GC;unfold zp1 at GC;dsimp only at GC;refine(za GC).mono ?_;rintro en V7 ⟨tp,tn,tc,rfl,htn,ot,lt7,z7,g7⟩;subst htn;have OT:=zaa (ot.monoK (b':=base) (za S).lt.2.2.2);have LT7:=zaa lt7;have S:=zaa ((za S).num z7 g7);have E2:=zaa (show _ from(by have:=za E2;rw[zq6 (za Q5) q6] at this;exact this));clear ot lt7 z7 g7 GC q6
       go_wp2_with fail
       refine hK.out _ _ ?_ (fun hHeld=>?_)
       ·try dsimp only
        all_goals trivial
       clear hK K;refine hP ?_;refine hT 9 ?_;refine wpAnyH_ready (rs:=[10]) (by kernel_rfl) (by simp) ?_;refine AllReadyH.cons rfl (fun K hK=>?_) ?_
       ·refine za6 rfl 51 rfl (zaj tb) tp ts.length tc rfl ?_;intro B5 U5 hE hEn hb;have HB5:=zaa hEn;have OT:=zaa (zay (za OT) hb);have S:=zaa ((za S).later hb);clear hE hEn hb;refine hK.out _ _ ?_ (fun hHeld=>?_)
        ·try dsimp only
         all_goals trivial
        clear hK K;refine hP ?_;refine wpAnyH_ready (rs:=[11]) (by kernel_rfl) (by simp) ?_;refine AllReadyH.cons rfl (fun K hK=>?_) ?_
        ·refine zb1 rfl (.tmp 47) (.tmp 52) rfl base kk.pa acc.length kk.pc (acc.map Pq.pr) rfl (by rw[List.length_map]) (za S).pw.row B5 ⟨zaj tb,tp,ts.length,tc⟩ rfl (za HB5) (by have:=za AL;have:=za ML;omega) (za S).lt.2.2.2 ?_;intro tp6 tc6 U6 ho hg;have S7:=zaa ((za S).pushP (za Z0) ⟨⟨zaj tb,ts⟩,tp,tc⟩ (za OT) (za LT7) ho hg);have HC:=zaa (((za S).pw.below hg (za S).lt.2.2.2).block r (za S).lt.2.2.1 |>.trans (za S).cb);clear ho hg;refine hK.out _ _ ?_ (fun hHeld=>?_)
         ·try dsimp only
          all_goals trivial
         clear hK K;refine hP ?_;refine hT 12 ?_;refine hT 13 ?_;refine hT 14 ?_;refine wpAnyH_ready (rs:=[15]) (by kernel_rfl) (by simp) ?_;refine AllReadyH.cons rfl (fun K hK=>?_) ?_
         ·have cc:=zab (za HC) 2 _ rfl;have cf:=zbf (za HC) 2;go_simp
          clear cc cf;refine hK.out _ _ ?_ (fun hHeld=>?_)
          ·try dsimp only
           all_goals trivial
          clear hK K;refine hP ?_;refine wpAnyH_done (by kernel_rfl) ?_ _;clear hHeld HC S
          go_wp2
          exact⟨⟨j+1,_,acc++[⟨⟨zaj tb,ts⟩,tp,tc⟩],k6,e6,hj1,by go_num,zaa (by rw[List.length_append,za AL];rfl),S7,zaa (by rw[List.map_append];exact za E2)⟩,by simp[intOf];omega⟩
         exact AllReadyH.nil
        exact AllReadyH.nil
       exact AllReadyH.nil
      exact AllReadyH.nil
     refine AllReadyH.cons rfl (fun K hK=>?_) ?_
     ·go_simp
      go_at_call 63
      obtain⟨ts,k6,e6,q6⟩:=zds (zrn l k5 e5);have GC:=zaa (zfx (za S).z);rw[q6] at GC;unfold zp1 at GC;dsimp only at GC;refine(za GC).mono ?_;rintro en V7 ⟨tp,tn,tc,rfl,htn,ot,lt7,z7,g7⟩;subst htn;have OT:=zaa (ot.monoK (b':=base) (za S).lt.2.2.2);have LT7:=zaa lt7;have S:=zaa ((za S).num z7 g7);have E2:=zaa (show _ from(by have:=za E2;rw[zq6 (za Q5) q6] at this;exact this));clear ot lt7 z7 g7 GC q6
      go_wp2_with fail
      refine hK.out _ _ ?_ (fun hHeld=>?_)
      ·try dsimp only
       all_goals trivial
      clear hK K;refine hP ?_;refine hT 9 ?_;refine wpAnyH_ready (rs:=[5,10]) (by kernel_rfl) (by simp) ?_;refine AllReadyH.cons rfl (fun K hK=>?_) ?_
      ·have cc:=zab (za S).cb 2 _ rfl;go_simp
       clear cc;refine hK.out _ _ ?_ (fun hHeld=>?_)
       ·try dsimp only
        all_goals trivial
       clear hK K;refine hP ?_;refine wpAnyH_ready (rs:=[10]) (by kernel_rfl) (by simp) ?_;refine AllReadyH.cons rfl (fun K hK=>?_) ?_
       ·refine za6 rfl 51 rfl (zaj tb) tp ts.length tc rfl ?_;intro B5 U5 hE hEn hb;have HB5:=zaa hEn;have OT:=zaa (zay (za OT) hb);have S:=zaa ((za S).later hb);clear hE hEn hb;refine hK.out _ _ ?_ (fun hHeld=>?_)
        ·try dsimp only
         all_goals trivial
        clear hK K;refine hP ?_;refine wpAnyH_ready (rs:=[11]) (by kernel_rfl) (by simp) ?_;refine AllReadyH.cons rfl (fun K hK=>?_) ?_
        ·refine zb1 rfl (.tmp 47) (.tmp 52) rfl base kk.pa acc.length kk.pc (acc.map Pq.pr) rfl (by rw[List.length_map]) (za S).pw.row B5 ⟨zaj tb,tp,ts.length,tc⟩ rfl (za HB5) (by have:=za AL;have:=za ML;omega) (za S).lt.2.2.2 ?_;intro tp6 tc6 U6 ho hg;have S7:=zaa ((za S).pushP (za Z0) ⟨⟨zaj tb,ts⟩,tp,tc⟩ (za OT) (za LT7) ho hg);have HC:=zaa (((za S).pw.below hg (za S).lt.2.2.2).block r (za S).lt.2.2.1 |>.trans (za S).cb);clear ho hg;refine hK.out _ _ ?_ (fun hHeld=>?_)
         ·try dsimp only
          all_goals trivial
         clear hK K;refine hP ?_;refine hT 12 ?_;refine hT 13 ?_;refine hT 14 ?_;refine wpAnyH_ready (rs:=[15]) (by kernel_rfl) (by simp) ?_;refine AllReadyH.cons rfl (fun K hK=>?_) ?_
         ·have cc:=zab (za HC) 2 _ rfl;have cf:=zbf (za HC) 2;go_simp
          clear cc cf;refine hK.out _ _ ?_ (fun hHeld=>?_)
          ·try dsimp only
           all_goals trivial
          clear hK K;refine hP ?_;refine wpAnyH_done (by kernel_rfl) ?_ _;clear hHeld HC S
          go_wp2
          exact⟨⟨j+1,_,acc++[⟨⟨zaj tb,ts⟩,tp,tc⟩],k6,e6,hj1,by go_num,zaa (by rw[List.length_append,za AL];rfl),S7,zaa (by rw[List.map_append];exact za E2)⟩,by simp[intOf];omega⟩
         exact AllReadyH.nil
        exact AllReadyH.nil
       exact AllReadyH.nil
      refine AllReadyH.cons rfl (fun K hK=>?_) ?_
      ·refine za6 rfl 51 rfl (zaj tb) tp ts.length tc rfl ?_;intro B5 U5 hE hEn hb;have HB5:=zaa hEn;have OT:=zaa (zay (za OT) hb);have S:=zaa ((za S).later hb);clear hE hEn hb;refine hK.out _ _ ?_ (fun hHeld=>?_)
       ·try dsimp only
        all_goals trivial
       clear hK K;refine hP ?_;refine wpAnyH_ready (rs:=[5]) (by kernel_rfl) (by simp) ?_;refine AllReadyH.cons rfl (fun K hK=>?_) ?_
       ·have cc:=zab (za S).cb 2 _ rfl;go_simp
        clear cc;refine hK.out _ _ ?_ (fun hHeld=>?_)
        ·try dsimp only
         all_goals trivial
        clear hK K;refine hP ?_;refine wpAnyH_ready (rs:=[11]) (by kernel_rfl) (by simp) ?_;refine AllReadyH.cons rfl (fun K hK=>?_) ?_
        ·refine zb1 rfl (.tmp 47) (.tmp 52) rfl base kk.pa acc.length kk.pc (acc.map Pq.pr) rfl (by rw[List.length_map]) (za S).pw.row B5 ⟨zaj tb,tp,ts.length,tc⟩ rfl (za HB5) (by have:=za AL;have:=za ML;omega) (za S).lt.2.2.2 ?_;intro tp6 tc6 U6 ho hg;have S7:=zaa ((za S).pushP (za Z0) ⟨⟨zaj tb,ts⟩,tp,tc⟩ (za OT) (za LT7) ho hg);have HC:=zaa (((za S).pw.below hg (za S).lt.2.2.2).block r (za S).lt.2.2.1 |>.trans (za S).cb);clear ho hg;refine hK.out _ _ ?_ (fun hHeld=>?_)
         ·try dsimp only
          all_goals trivial
         clear hK K;refine hP ?_;refine hT 12 ?_;refine hT 13 ?_;refine hT 14 ?_;refine wpAnyH_ready (rs:=[15]) (by kernel_rfl) (by simp) ?_;refine AllReadyH.cons rfl (fun K hK=>?_) ?_
         ·have cc:=zab (za HC) 2 _ rfl;have cf:=zbf (za HC) 2;go_simp
          clear cc cf;refine hK.out _ _ ?_ (fun hHeld=>?_)
          ·try dsimp only
           all_goals trivial
          clear hK K;refine hP ?_;refine wpAnyH_done (by kernel_rfl) ?_ _;clear hHeld HC S
          go_wp2
          exact⟨⟨j+1,_,acc++[⟨⟨zaj tb,ts⟩,tp,tc⟩],k6,e6,hj1,by go_num,zaa (by rw[List.length_append,za AL];rfl),S7,zaa (by rw[List.map_append];exact za E2)⟩,by simp[intOf];omega⟩
         exact AllReadyH.nil
        exact AllReadyH.nil
       exact AllReadyH.nil
      exact AllReadyH.nil
     exact AllReadyH.nil
    ·as_aux_lemma =>
     have x1:¬ (ej:Int)=0:=by omega
     have x2:((ej:Int)==0)=false:=by simp[he]
     have FF:=zaa (za DONE (.inr he));generalize hei:(ej:Int)=ei at *
     go_wp2_with fail
     go_meet
     case rel=>exact⟨kk,acc,kj,ej,FF,S⟩
   ·as_aux_lemma =>
    have y1:¬ (j:Int)<(m:Int):=by omega
    have FF:=zaa (za DONE (.inl (by omega)))
    go_wp2_with fail
    go_meet
    case rel=>exact⟨kk,acc,kj,ej,FF,S⟩
 case rest =>
  obtain⟨kk,lq,k2,e2,Q2,S5⟩:=hcut;clear S4 P1 ML;obtain⟨m,j1,d1,p1⟩:=zds (zcj l k2 e2 64);have P1:=zaa p1;have ML:=zaa (zir l k2 e2 64);have NC:=zaa (zbn (za S5).z 64 (by omega));rw[p1] at NC ML;unfold zfi at NC;dsimp only at NC ML;rw[show((64:Nat):Int)=64 from rfl] at NC;clear p1
  go_wp2_with fail
  go_at_call 61
  refine(za NC).mono ?_;rintro en V4 ⟨rfl,z4,g4⟩;have S6:=zaa ((za S5).num z4 g4);clear z4 g4 NC S5
  go_upto_block 2 with fail
  go_cut [9,10,11] (fun _ _ _ wc=>∃ (kk:RfH) (acc:List Rt) (kz ez:Nat),Hid (zsv l k2 e2=(acc,kz,ez))∧Hid (DSt R r base w0 wc a c l kz ez n kk acc lq []))
  case first =>
   go_wp2_with fail
   go_loopw [9,10,11] (fun i _ _ wr=>∃ (j:Nat) (kk:RfH) (acc:List Rt) (kj ej:Nat),j≤m∧i=.int .i64 (j:Int)∧Hid (acc.length=j)∧Hid (DSt R r base w0 wr a c l kj ej n kk acc lq [])∧Hid (zft (zmm l) m j1 d1=(acc++(zft (zmm l) (m - j) kj ej).1,(zft (zmm l) (m - j) kj ej).2))) (fun i _ _ _=>m - (intOf i).toNat)
   case atStart=>exact⟨0,_,[],j1,d1,by omega,rfl,zaa rfl,S6,zaa rfl⟩
   case round =>
    clear S6;obtain⟨j,kk,acc,kj,ej,hj,rfl,AL,S,E⟩:=hrel;have q2:=(za S).z.c2
    have DONE:=zaa (fun (hd:m - j=0∨ej≠0)=>show zsv l k2 e2=(acc,kj,ej) from by
     unfold zsv;rw[zau (za P1),za E,zi4 _ _ _ _ hd]
     simp)
    by_cases hjm:j<m
    ·have y1:(j:Int)<(m:Int):=by omega
     have hml:=za ML;by_cases he:ej=0
     ·as_aux_lemma =>
      subst he;have q2:wr.cell? ⟨R,2,none⟩=some (.int .i64 0):=q2;have hj1:j+1≤m:=by omega
      have E2:=zaa (show zft (zmm l) m j1 d1=(acc++[(zmm l kj 0).1]++(zft (zmm l) (m - (j+1)) (zmm l kj 0).2.1 (zmm l kj 0).2.2).1,(zft (zmm l) (m - (j+1)) (zmm l kj 0).2.1 (zmm l kj 0).2.2).2) by
       rw[za E,show m - j=(m - (j+1))+1 by omega,zf]
       simp)
      clear DONE E;obtain⟨ta,k5,e5,q1⟩:=zds (zgr l kj 0);have Q5:=zaa q1;have TC:=zaa (zct (za S).z);rw[q1] at TC;unfold zkv at TC;dsimp only at TC;clear q1
      go_wp2_with fail
      go_at_call 62
      refine(za TC).mono ?_;rintro en V6 ⟨rfl,z6,g6⟩;have S:=zaa ((za S).num z6 g6);clear z6 g6 TC q2;obtain⟨tb,k6,e6,q1⟩:=zds (zgr l k5 e5);have Q6:=zaa q1;have TC:=zaa (zct (za S).z);rw[q1] at TC;unfold zkv at TC;dsimp only at TC;clear q1
      go_wp2_with fail
      go_at_call 62
      refine(za TC).mono ?_;rintro en V8 ⟨rfl,z8,g8⟩;have S:=zaa ((za S).num z8 g8);clear z8 g8 TC
      go_wp2_with fail
      have S:=zaa ((za S).later (show Below V8.heap.size V8 V8.drew from(Below.refl _ _).drew));refine wp_region_held_drew (S:=fun W=>True) (by kernel_rfl) ?_ (fun hHeld=>?_)
      ·try dsimp only
       all_goals trivial
      refine hT 0 ?_;refine hT 1 ?_;refine hT 2 ?_;refine hT 3 ?_;refine hT 4 ?_;refine hT 6 ?_;refine hT 7 ?_;refine hT 8 ?_;refine wpAnyH_ready (rs:=[5,9]) (by kernel_rfl) (by simp) ?_;refine AllReadyH.cons rfl (fun K hK=>?_) ?_
      ·have cc:=zab (za S).cb 1 _ rfl;go_simp
       clear cc;refine hK.out _ _ ?_ (fun hHeld=>?_)
       ·try dsimp only
        all_goals trivial
       clear hK K;refine hP ?_;refine wpAnyH_ready (rs:=[9]) (by kernel_rfl) (by simp) ?_;refine AllReadyH.cons rfl (fun K hK=>?_) ?_
       ·go_simp
        go_at_call 62
        obtain⟨td,k7,e7,q7⟩:=zds (zgr l k6 e6);have TC:=zaa (zct (za S).z);rw[q7] at TC;unfold zkv at TC;dsimp only at TC;refine(za TC).mono ?_;rintro en V9 ⟨rfl,z9,g9⟩;have S:=zaa ((za S).num z9 g9);have E2:=zaa (show _ from(by have:=za E2;rw[zrg (za Q5) (za Q6) q7] at this;exact this));clear z9 g9 TC q7
        go_wp2_with fail
        refine hK.out _ _ ?_ (fun hHeld=>?_)
        ·try dsimp only
         all_goals trivial
        clear hK K;refine hP ?_;refine hT 10 ?_;refine wpAnyH_ready (rs:=[11]) (by kernel_rfl) (by simp) ?_;refine AllReadyH.cons rfl (fun K hK=>?_) ?_
        ·refine zee rfl 85 rfl ⟨zaj ta,zaj tb,zaj td⟩ rfl ?_;intro B5 U5 hE hEn hb;have HB5:=zaa hEn;have S:=zaa ((za S).later hb);clear hE hEn hb;refine hK.out _ _ ?_ (fun hHeld=>?_)
         ·try dsimp only
          all_goals trivial
         clear hK K;refine hP ?_;refine wpAnyH_ready (rs:=[12]) (by kernel_rfl) (by simp) ?_;refine AllReadyH.cons rfl (fun K hK=>?_) ?_
         ·refine zci rfl (.tmp 80) (.tmp 86) rfl base kk.ra acc.length kk.rc acc rfl rfl (za S).rw_ B5 ⟨zaj ta,zaj tb,zaj td⟩ rfl (za HB5) (by have:=za AL;have:=za ML;omega) (za S).lt.2.2.2 ?_;intro tp6 tc6 U6 ho hg;have S7:=zaa ((za S).pushR (za Z0) ⟨zaj ta,zaj tb,zaj td⟩ ho hg);have HC:=zaa ((zbt (za S).rw_ hg (za S).lt.2.2.2).block r (za S).lt.2.2.1 |>.trans (za S).cb);clear ho hg;refine hK.out _ _ ?_ (fun hHeld=>?_)
          ·try dsimp only
           all_goals trivial
          clear hK K;refine hP ?_;refine hT 13 ?_;refine hT 14 ?_;refine hT 15 ?_;refine wpAnyH_ready (rs:=[16]) (by kernel_rfl) (by simp) ?_;refine AllReadyH.cons rfl (fun K hK=>?_) ?_
          ·have cc:=zab (za HC) 1 _ rfl;have cf:=zbf (za HC) 1;go_simp
           clear cc cf;refine hK.out _ _ ?_ (fun hHeld=>?_)
           ·try dsimp only
            all_goals trivial
           clear hK K;refine hP ?_;refine wpAnyH_done (by kernel_rfl) ?_ _;clear hHeld HC S
           go_wp2
           exact⟨⟨j+1,_,acc++[⟨zaj ta,zaj tb,zaj td⟩],k7,e7,hj1,by go_num,zaa (by rw[List.length_append,za AL];rfl),S7,E2⟩,by simp[intOf];omega⟩
          exact AllReadyH.nil
         exact AllReadyH.nil
        exact AllReadyH.nil
       exact AllReadyH.nil
      refine AllReadyH.cons rfl (fun K hK=>?_) ?_
      ·go_simp
       go_at_call 62
       obtain⟨td,k7,e7,q7⟩:=zds (zgr l k6 e6);have TC:=zaa (zct (za S).z);rw[q7] at TC;unfold zkv at TC;dsimp only at TC;refine(za TC).mono ?_;rintro en V9 ⟨rfl,z9,g9⟩;have S:=zaa ((za S).num z9 g9);have E2:=zaa (show _ from(by have:=za E2;rw[zrg (za Q5) (za Q6) q7] at this;exact this));clear z9 g9 TC q7
       go_wp2_with fail
       refine hK.out _ _ ?_ (fun hHeld=>?_)
       ·try dsimp only
        all_goals trivial
       clear hK K;refine hP ?_;refine hT 10 ?_;refine wpAnyH_ready (rs:=[5,11]) (by kernel_rfl) (by simp) ?_;refine AllReadyH.cons rfl (fun K hK=>?_) ?_
       ·have cc:=zab (za S).cb 1 _ rfl;go_simp
        clear cc;refine hK.out _ _ ?_ (fun hHeld=>?_)
        ·try dsimp only
         all_goals trivial
        clear hK K;refine hP ?_;refine wpAnyH_ready (rs:=[11]) (by kernel_rfl) (by simp) ?_;refine AllReadyH.cons rfl (fun K hK=>?_) ?_
        ·refine zee rfl 85 rfl ⟨zaj ta,zaj tb,zaj td⟩ rfl ?_;intro B5 U5 hE hEn hb;have HB5:=zaa hEn;have S:=zaa ((za S).later hb);clear hE hEn hb;refine hK.out _ _ ?_ (fun hHeld=>?_)
         ·try dsimp only
          all_goals trivial
         clear hK K;refine hP ?_;refine wpAnyH_ready (rs:=[12]) (by kernel_rfl) (by simp) ?_;refine AllReadyH.cons rfl (fun K hK=>?_) ?_
         ·refine zci rfl (.tmp 80) (.tmp 86) rfl base kk.ra acc.length kk.rc acc rfl rfl (za S).rw_ B5 ⟨zaj ta,zaj tb,zaj td⟩ rfl (za HB5) (by have:=za AL;have:=za ML;omega) (za S).lt.2.2.2 ?_;intro tp6 tc6 U6 ho hg;have S7:=zaa ((za S).pushR (za Z0) ⟨zaj ta,zaj tb,zaj td⟩ ho hg);have HC:=zaa ((zbt (za S).rw_ hg (za S).lt.2.2.2).block r (za S).lt.2.2.1 |>.trans (za S).cb);clear ho hg;refine hK.out _ _ ?_ (fun hHeld=>?_)
          ·try dsimp only
           all_goals trivial
          clear hK K;refine hP ?_;refine hT 13 ?_;refine hT 14 ?_;refine hT 15 ?_;refine wpAnyH_ready (rs:=[16]) (by kernel_rfl) (by simp) ?_;refine AllReadyH.cons rfl (fun K hK=>?_) ?_
          ·have cc:=zab (za HC) 1 _ rfl;have cf:=zbf (za HC) 1;go_simp
           clear cc cf;refine hK.out _ _ ?_ (fun hHeld=>?_)
           ·try dsimp only
            all_goals trivial
           clear hK K;refine hP ?_;refine wpAnyH_done (by kernel_rfl) ?_ _;clear hHeld HC S
           go_wp2
           exact⟨⟨j+1,_,acc++[⟨zaj ta,zaj tb,zaj td⟩],k7,e7,hj1,by go_num,zaa (by rw[List.length_append,za AL];rfl),S7,E2⟩,by simp[intOf];omega⟩
          exact AllReadyH.nil
         exact AllReadyH.nil
        exact AllReadyH.nil
       refine AllReadyH.cons rfl (fun K hK=>?_) ?_
       ·refine zee rfl 85 rfl ⟨zaj ta,zaj tb,zaj td⟩ rfl ?_;intro B5 U5 hE hEn hb;have HB5:=zaa hEn;have S:=zaa ((za S).later hb);clear hE hEn hb;refine hK.out _ _ ?_ (fun hHeld=>?_)
        ·try dsimp only
         all_goals trivial
        clear hK K;refine hP ?_;refine wpAnyH_ready (rs:=[5]) (by kernel_rfl) (by simp) ?_;refine AllReadyH.cons rfl (fun K hK=>?_) ?_
        ·have cc:=zab (za S).cb 1 _ rfl;go_simp
         clear cc;refine hK.out _ _ ?_ (fun hHeld=>?_)
         ·try dsimp only
          all_goals trivial
         clear hK K;refine hP ?_;refine wpAnyH_ready (rs:=[12]) (by kernel_rfl) (by simp) ?_;refine AllReadyH.cons rfl (fun K hK=>?_) ?_
         ·refine zci rfl (.tmp 80) (.tmp 86) rfl base kk.ra acc.length kk.rc acc rfl rfl (za S).rw_ B5 ⟨zaj ta,zaj tb,zaj td⟩ rfl (za HB5) (by have:=za AL;have:=za ML;omega) (za S).lt.2.2.2 ?_;intro tp6 tc6 U6 ho hg;have S7:=zaa ((za S).pushR (za Z0) ⟨zaj ta,zaj tb,zaj td⟩ ho hg);have HC:=zaa ((zbt (za S).rw_ hg (za S).lt.2.2.2).block r (za S).lt.2.2.1 |>.trans (za S).cb);clear ho hg;refine hK.out _ _ ?_ (fun hHeld=>?_)
          ·try dsimp only
           all_goals trivial
          clear hK K;refine hP ?_;refine hT 13 ?_;refine hT 14 ?_;refine hT 15 ?_;refine wpAnyH_ready (rs:=[16]) (by kernel_rfl) (by simp) ?_;refine AllReadyH.cons rfl (fun K hK=>?_) ?_
          ·have cc:=zab (za HC) 1 _ rfl;have cf:=zbf (za HC) 1;go_simp
           clear cc cf;refine hK.out _ _ ?_ (fun hHeld=>?_)
           ·try dsimp only
            all_goals trivial
           clear hK K;refine hP ?_;refine wpAnyH_done (by kernel_rfl) ?_ _;clear hHeld HC S
           go_wp2
           exact⟨⟨j+1,_,acc++[⟨zaj ta,zaj tb,zaj td⟩],k7,e7,hj1,by go_num,zaa (by rw[List.length_append,za AL];rfl),S7,E2⟩,by simp[intOf];omega⟩
          exact AllReadyH.nil
         exact AllReadyH.nil
        exact AllReadyH.nil
       exact AllReadyH.nil
      exact AllReadyH.nil
     ·as_aux_lemma =>
      have x1:¬ (ej:Int)=0:=by omega
      have x2:((ej:Int)==0)=false:=by simp[he]
      have FF:=zaa (za DONE (.inr he));generalize hei:(ej:Int)=ei at *
      go_wp2_with fail
      go_meet
      case rel=>exact⟨kk,acc,kj,ej,FF,S⟩
    ·as_aux_lemma =>
     have y1:¬ (j:Int)<(m:Int):=by omega
     have FF:=zaa (za DONE (.inl (by omega)))
     go_wp2_with fail
     go_meet
     case rel=>exact⟨kk,acc,kj,ej,FF,S⟩
  case rest =>
   obtain⟨kk,rs,k3,e3,Q3,S7⟩:=hcut;clear S6 P1 ML;obtain⟨m,j1,d1,p1⟩:=zds (zcj l k3 e3 32);have P1:=zaa p1;have ML:=zaa (zir l k3 e3 32);have NC:=zaa (zbn (za S7).z 32 (by omega));rw[p1] at NC ML;unfold zfi at NC;dsimp only at NC ML;rw[show((32:Nat):Int)=32 from rfl] at NC;clear p1
   go_wp2_with fail
   go_at_call 61
   refine(za NC).mono ?_;rintro en V5 ⟨rfl,z5,g5⟩;have S8:=zaa ((za S7).num z5 g5);clear z5 g5 NC S7
   go_upto_block 4 with fail
   go_cut [12,13,14,15] (fun _ _ _ _ wc=>∃ (kk:RfH) (acc:List Ls) (kz ez:Nat),Hid (zsr l k3 e3=(acc,kz,ez))∧Hid (DSt R r base w0 wc a c l kz ez n kk rs lq acc))
   case first =>
    go_wp2_with fail
    go_loopw [12,13,14,15] (fun i _ _ _ wr=>∃ (j:Nat) (kk:RfH) (acc:List Ls) (kj ej:Nat),j≤m∧i=.int .i64 (j:Int)∧Hid (acc.length=j)∧Hid (DSt R r base w0 wr a c l kj ej n kk rs lq acc)∧Hid (zft (zmj l) m j1 d1=(acc++(zft (zmj l) (m - j) kj ej).1,(zft (zmj l) (m - j) kj ej).2))) (fun i _ _ _ _=>m - (intOf i).toNat)
    case atStart=>exact⟨0,_,[],j1,d1,by omega,rfl,zaa rfl,S8,zaa rfl⟩
    case round =>
     clear S8;obtain⟨j,kk,acc,kj,ej,hj,rfl,AL,S,E⟩:=hrel;have q2:=(za S).z.c2
     have DONE:=zaa (fun (hd:m - j=0∨ej≠0)=>show zsr l k3 e3=(acc,kj,ej) from by
      unfold zsr;rw[zau (za P1),za E,zi4 _ _ _ _ hd]
      simp)
     by_cases hjm:j<m
     ·have y1:(j:Int)<(m:Int):=by omega
      have hml:=za ML;by_cases he:ej=0
      ·as_aux_lemma =>
       subst he;have q2:wr.cell? ⟨R,2,none⟩=some (.int .i64 0):=q2;have hj1:j+1≤m:=by omega
       have E2:=zaa (show zft (zmj l) m j1 d1=(acc++[(zmj l kj 0).1]++(zft (zmj l) (m - (j+1)) (zmj l kj 0).2.1 (zmj l kj 0).2.2).1,(zft (zmj l) (m - (j+1)) (zmj l kj 0).2.1 (zmj l kj 0).2.2).2) by
        rw[za E,show m - j=(m - (j+1))+1 by omega,zf]
        simp)
       clear DONE E;obtain⟨na,k5,e5,q1⟩:=zds (zcj l kj 0 1099511627776);have Q5:=zaa q1;have TC:=zaa (zbn (za S).z 1099511627776 (by omega));rw[q1] at TC;unfold zfi at TC;dsimp only at TC;rw[show((1099511627776:Nat):Int)=1099511627776 from rfl] at TC;clear q1
       go_wp2_with fail
       go_at_call 61
       refine(za TC).mono ?_;rintro en V6 ⟨rfl,z6,g6⟩;have S:=zaa ((za S).num z6 g6);clear z6 g6 TC q2;obtain⟨nb,k6,e6,q1⟩:=zds (zcj l k5 e5 1099511627776);have Q6:=zaa q1;have TC:=zaa (zbn (za S).z 1099511627776 (by omega));rw[q1] at TC;unfold zfi at TC;dsimp only at TC;rw[show((1099511627776:Nat):Int)=1099511627776 from rfl] at TC;clear q1
       go_wp2_with fail
       go_at_call 61
       refine(za TC).mono ?_;rintro en V7 ⟨rfl,z6,g6⟩;have S:=zaa ((za S).num z6 g6);clear z6 g6 TC;obtain⟨nd,k7,e7,q1⟩:=zds (zcj l k6 e6 1099511627776);have Q7:=zaa q1;have TC:=zaa (zbn (za S).z 1099511627776 (by omega));rw[q1] at TC;unfold zfi at TC;dsimp only at TC;rw[show((1099511627776:Nat):Int)=1099511627776 from rfl] at TC;clear q1
       go_wp2_with fail
       go_at_call 61
       refine(za TC).mono ?_;rintro en V8 ⟨rfl,z6,g6⟩;have S:=zaa ((za S).num z6 g6);clear z6 g6 TC
       go_wp2_with fail
       have S:=zaa ((za S).later (show Below V8.heap.size V8 V8.drew from(Below.refl _ _).drew));refine wp_region_held_drew (S:=fun W=>True) (by kernel_rfl) ?_ (fun hHeld=>?_)
       ·try dsimp only
        all_goals trivial
       refine hT 0 ?_;refine hT 1 ?_;refine hT 2 ?_;refine hT 3 ?_;refine hT 5 ?_;refine hT 6 ?_;refine hT 7 ?_;refine hT 8 ?_;refine wpAnyH_ready (rs:=[4,9]) (by kernel_rfl) (by simp) ?_;refine AllReadyH.cons rfl (fun K hK=>?_) ?_
       ·have cc:=zab (za S).cb 3 _ rfl;go_simp
        clear cc;refine hK.out _ _ ?_ (fun hHeld=>?_)
        ·try dsimp only
         all_goals trivial
        clear hK K;refine hP ?_;refine wpAnyH_ready (rs:=[9]) (by kernel_rfl) (by simp) ?_;refine AllReadyH.cons rfl (fun K hK=>?_) ?_
        ·go_simp
         go_at_call 61
         obtain⟨nf,k8,e8,q8⟩:=zds (zcj l k7 e7 1099511627776);have TC:=zaa (zbn (za S).z 1099511627776 (by omega));rw[q8] at TC;unfold zfi at TC;dsimp only at TC;rw[show((1099511627776:Nat):Int)=1099511627776 from rfl] at TC;refine(za TC).mono ?_;rintro en V9 ⟨rfl,z9,g9⟩;have S:=zaa ((za S).num z9 g9);have E2:=zaa (show _ from(by have:=za E2;rw[zqb (za Q5) (za Q6) (za Q7) q8] at this;exact this));clear z9 g9 TC q8
         go_wp2_with fail
         refine hK.out _ _ ?_ (fun hHeld=>?_)
         ·try dsimp only
          all_goals trivial
         clear hK K;refine hP ?_;refine hT 10 ?_;refine hT 11 ?_;refine wpAnyH_ready (rs:=[12]) (by kernel_rfl) (by simp) ?_;refine AllReadyH.cons rfl (fun K hK=>?_) ?_
         ·refine zf1 rfl 122 rfl ⟨na,nb,nd,nf⟩ rfl ?_;intro B5 U5 hE hEn hb;have HB5:=zaa hEn;have S:=zaa ((za S).later hb);clear hE hEn hb;refine hK.out _ _ ?_ (fun hHeld=>?_)
          ·try dsimp only
           all_goals trivial
          clear hK K;refine hP ?_;refine wpAnyH_ready (rs:=[13]) (by kernel_rfl) (by simp) ?_;refine AllReadyH.cons rfl (fun K hK=>?_) ?_
          ·refine zek rfl (.tmp 115) (.tmp 123) rfl base kk.la acc.length kk.lc acc rfl rfl (za S).lw B5 ⟨na,nb,nd,nf⟩ rfl (za HB5) (by have:=za AL;have:=za ML;omega) (za S).lt.2.2.2 ?_;intro tp6 tc6 U6 ho hg;have S7:=zaa ((za S).pushL (za Z0) ⟨na,nb,nd,nf⟩ ho hg);have HC:=zaa ((zbt (za S).lw hg (za S).lt.2.2.2).block r (za S).lt.2.2.1 |>.trans (za S).cb);clear ho hg;refine hK.out _ _ ?_ (fun hHeld=>?_)
           ·try dsimp only
            all_goals trivial
           clear hK K;refine hP ?_;refine hT 14 ?_;refine hT 15 ?_;refine wpAnyH_ready (rs:=[16]) (by kernel_rfl) (by simp) ?_;refine AllReadyH.cons rfl (fun K hK=>?_) ?_
           ·have cc:=zab (za HC) 3 _ rfl;have cf:=zbf (za HC) 3;go_simp
            clear cc cf;refine hK.out _ _ ?_ (fun hHeld=>?_)
            ·try dsimp only
             all_goals trivial
            clear hK K;refine hP ?_;refine wpAnyH_done (by kernel_rfl) ?_ _;clear hHeld HC S
            go_wp2
            exact⟨⟨j+1,_,acc++[⟨na,nb,nd,nf⟩],k8,e8,hj1,by go_num,zaa (by rw[List.length_append,za AL];rfl),S7,E2⟩,by simp[intOf];omega⟩
           exact AllReadyH.nil
          exact AllReadyH.nil
         exact AllReadyH.nil
        exact AllReadyH.nil
       refine AllReadyH.cons rfl (fun K hK=>?_) ?_
       ·go_simp
        go_at_call 61
        obtain⟨nf,k8,e8,q8⟩:=zds (zcj l k7 e7 1099511627776);have TC:=zaa (zbn (za S).z 1099511627776 (by omega));rw[q8] at TC;unfold zfi at TC;dsimp only at TC;rw[show((1099511627776:Nat):Int)=1099511627776 from rfl] at TC;refine(za TC).mono ?_;rintro en V9 ⟨rfl,z9,g9⟩;have S:=zaa ((za S).num z9 g9);have E2:=zaa (show _ from(by have:=za E2;rw[zqb (za Q5) (za Q6) (za Q7) q8] at this;exact this));clear z9 g9 TC q8
        go_wp2_with fail
        refine hK.out _ _ ?_ (fun hHeld=>?_)
        ·try dsimp only
         all_goals trivial
        clear hK K;refine hP ?_;refine hT 10 ?_;refine hT 11 ?_;refine wpAnyH_ready (rs:=[4,12]) (by kernel_rfl) (by simp) ?_;refine AllReadyH.cons rfl (fun K hK=>?_) ?_
        ·have cc:=zab (za S).cb 3 _ rfl;go_simp
         clear cc;refine hK.out _ _ ?_ (fun hHeld=>?_)
         ·try dsimp only
          all_goals trivial
         clear hK K;refine hP ?_;refine wpAnyH_ready (rs:=[12]) (by kernel_rfl) (by simp) ?_;refine AllReadyH.cons rfl (fun K hK=>?_) ?_
         ·refine zf1 rfl 122 rfl ⟨na,nb,nd,nf⟩ rfl ?_;intro B5 U5 hE hEn hb;have HB5:=zaa hEn;have S:=zaa ((za S).later hb);clear hE hEn hb;refine hK.out _ _ ?_ (fun hHeld=>?_)
          ·try dsimp only
           all_goals trivial
          clear hK K;refine hP ?_;refine wpAnyH_ready (rs:=[13]) (by kernel_rfl) (by simp) ?_;refine AllReadyH.cons rfl (fun K hK=>?_) ?_
          ·refine zek rfl (.tmp 115) (.tmp 123) rfl base kk.la acc.length kk.lc acc rfl rfl (za S).lw B5 ⟨na,nb,nd,nf⟩ rfl (za HB5) (by have:=za AL;have:=za ML;omega) (za S).lt.2.2.2 ?_;intro tp6 tc6 U6 ho hg;have S7:=zaa ((za S).pushL (za Z0) ⟨na,nb,nd,nf⟩ ho hg);have HC:=zaa ((zbt (za S).lw hg (za S).lt.2.2.2).block r (za S).lt.2.2.1 |>.trans (za S).cb);clear ho hg;refine hK.out _ _ ?_ (fun hHeld=>?_)
           ·try dsimp only
            all_goals trivial
           clear hK K;refine hP ?_;refine hT 14 ?_;refine hT 15 ?_;refine wpAnyH_ready (rs:=[16]) (by kernel_rfl) (by simp) ?_;refine AllReadyH.cons rfl (fun K hK=>?_) ?_
           ·have cc:=zab (za HC) 3 _ rfl;have cf:=zbf (za HC) 3;go_simp
            clear cc cf;refine hK.out _ _ ?_ (fun hHeld=>?_)
            ·try dsimp only
             all_goals trivial
            clear hK K;refine hP ?_;refine wpAnyH_done (by kernel_rfl) ?_ _;clear hHeld HC S
            go_wp2
            exact⟨⟨j+1,_,acc++[⟨na,nb,nd,nf⟩],k8,e8,hj1,by go_num,zaa (by rw[List.length_append,za AL];rfl),S7,E2⟩,by simp[intOf];omega⟩
           exact AllReadyH.nil
          exact AllReadyH.nil
         exact AllReadyH.nil
        refine AllReadyH.cons rfl (fun K hK=>?_) ?_
        ·refine zf1 rfl 122 rfl ⟨na,nb,nd,nf⟩ rfl ?_;intro B5 U5 hE hEn hb;have HB5:=zaa hEn;have S:=zaa ((za S).later hb);clear hE hEn hb;refine hK.out _ _ ?_ (fun hHeld=>?_)
         ·try dsimp only
          all_goals trivial
         clear hK K;refine hP ?_;refine wpAnyH_ready (rs:=[4]) (by kernel_rfl) (by simp) ?_;refine AllReadyH.cons rfl (fun K hK=>?_) ?_
         ·have cc:=zab (za S).cb 3 _ rfl;go_simp
          clear cc;refine hK.out _ _ ?_ (fun hHeld=>?_)
          ·try dsimp only
           all_goals trivial
          clear hK K;refine hP ?_;refine wpAnyH_ready (rs:=[13]) (by kernel_rfl) (by simp) ?_;refine AllReadyH.cons rfl (fun K hK=>?_) ?_
          ·refine zek rfl (.tmp 115) (.tmp 123) rfl base kk.la acc.length kk.lc acc rfl rfl (za S).lw B5 ⟨na,nb,nd,nf⟩ rfl (za HB5) (by have:=za AL;have:=za ML;omega) (za S).lt.2.2.2 ?_;intro tp6 tc6 U6 ho hg;have S7:=zaa ((za S).pushL (za Z0) ⟨na,nb,nd,nf⟩ ho hg);have HC:=zaa ((zbt (za S).lw hg (za S).lt.2.2.2).block r (za S).lt.2.2.1 |>.trans (za S).cb);clear ho hg;refine hK.out _ _ ?_ (fun hHeld=>?_)
           ·try dsimp only
            all_goals trivial
           clear hK K;refine hP ?_;refine hT 14 ?_;refine hT 15 ?_;refine wpAnyH_ready (rs:=[16]) (by kernel_rfl) (by simp) ?_;refine AllReadyH.cons rfl (fun K hK=>?_) ?_
           ·have cc:=zab (za HC) 3 _ rfl;have cf:=zbf (za HC) 3;go_simp
            clear cc cf;refine hK.out _ _ ?_ (fun hHeld=>?_)
            ·try dsimp only
             all_goals trivial
            clear hK K;refine hP ?_;refine wpAnyH_done (by kernel_rfl) ?_ _;clear hHeld HC S
            go_wp2
            exact⟨⟨j+1,_,acc++[⟨na,nb,nd,nf⟩],k8,e8,hj1,by go_num,zaa (by rw[List.length_append,za AL];rfl),S7,E2⟩,by simp[intOf];omega⟩
           exact AllReadyH.nil
          exact AllReadyH.nil
         exact AllReadyH.nil
        exact AllReadyH.nil
       exact AllReadyH.nil
      ·as_aux_lemma =>
       have x1:¬ (ej:Int)=0:=by omega
       have x2:((ej:Int)==0)=false:=by simp[he]
       have FF:=zaa (za DONE (.inr he));generalize hei:(ej:Int)=ei at *
       go_wp2_with fail
       go_meet
       case rel=>exact⟨kk,acc,kj,ej,FF,S⟩
     ·as_aux_lemma =>
      have y1:¬ (j:Int)<(m:Int):=by omega
      have FF:=zaa (za DONE (.inl (by omega)))
      go_wp2_with fail
      go_meet
      case rel=>exact⟨kk,acc,kj,ej,FF,S⟩
   case rest =>
    obtain⟨kk,cl,k4,e4,Q4,S9⟩:=hcut;clear S8 P1 ML;have AZ:=zaa (zs3 (za Q1) (za Q2) (za Q3) (za Q4));have KL:=zaa (za S9).z.kl;have BW:=zaa (show Below R w wc from(za BB).trans ⟨(za S9).g.os,(za S9).g.tape,(za S9).g.output,(za S9).g.size,fun g hg=>(za S9).g.block g (by have:=za RW;omega) (fun e=>by have:=Option.some.inj e;omega)⟩);have DD:=zaa (show ∀ W:World,Below wc.heap.size wc W→W.cell? ⟨R,1,none⟩=some (.int .i64 (k4:Int))∧W.cell? ⟨R,2,none⟩=some (.int .i64 (e4:Int)) from fun W hw=>⟨cell_later hw (za S9).z.c1,cell_later hw (za S9).z.c2⟩);have RT:=zaa (za S9).at_;clear Q1 Q2 Q3 Q4 S9 BB Z0;have d2:=(za DD _ (Below.refl _ _)).2;by_cases he:e4=0
    ·subst he;clear d2;have d2:wc.cell? ⟨R,2,none⟩=some (.int .i64 0):=(za DD _ (Below.refl _ _)).2;have d1:=(za DD _ (Below.refl _ _)).1;have LD:=zaa (zuh (za HB) (za AZ));have RC:=zaa (znj (za RT) (zld (za HB) (za LD)));by_cases hk:k4=l.length
     ·have i1:(k4:Int)=(l.length:Int):=by omega
      go_wp2_with fail
      refine(za RC).mono ?_;rintro en V6 ⟨rfl,u6⟩;have BW6:=zaa ((za BW).trans (u6.mono (by have:=(za BW).size;omega)));have RT6:=zaa ((za RT).later u6);clear u6 RC d1 d2 RT i1;cases hrb:zhi ⟨n,lq,rs,cl⟩ with
      |false=>as_aux_lemma =>
       have FF:=zaa (za LE _ V6 ⟨n,lq,rs,cl,k1,k3,k4,0,za AZ,by rw[hR];exact za BW6,za KL,.inr (.inl ⟨rfl,.inr hrb,rfl⟩)⟩);clear LE RT6 LD AZ
       go_wp2
       go_ret2
       exact za FF
      |true=>as_aux_lemma =>
       have FF:=zaa (za LE _ V6 ⟨n,lq,rs,cl,k1,k3,k4,0,za AZ,by rw[hR];exact za BW6,za KL,.inr (.inr ⟨rfl,hk,hrb,r,kk,rfl,za RT6⟩)⟩);clear LE RT6 LD AZ
       go_wp2
       go_ret2
       exact za FF
     ·as_aux_lemma =>
      have i1:¬ (k4:Int)=(l.length:Int):=by omega
      have i2:((k4:Int)==(l.length:Int))=false:=by rw[beq_eq_false_iff_ne];omega
      have FF:=zaa (za LE (.returned (.tuple #[.pointer none,.int .i64 4])) wc ⟨n,lq,rs,cl,k1,k3,k4,0,za AZ,by rw[hR];exact za BW,za KL,.inr (.inl ⟨rfl,.inl (by have:=za KL;omega),rfl⟩)⟩);clear LE RT LD AZ RC
      go_wp2
      go_ret2
      exact za FF
    ·as_aux_lemma =>
     have y1:¬ ((e4:Nat):Int)=0:=by omega
     have y2:(((e4:Nat):Int)==0)=false:=by simpa using he
     have BD:=zaa (show Below wc.heap.size wc wc.drew from(Below.refl _ _).drew);have FF:=zaa (za LE (.returned (.tuple #[.pointer none,.int .i64 ((e4:Nat):Int)])) wc.drew ⟨n,lq,rs,cl,k1,k3,k4,e4,za AZ,by rw[hR];exact(za BW).drew,za KL,.inl ⟨he,rfl⟩⟩);clear LE RT AZ
     go_wp2_with fail
     refine wp_region_held_drew (S:=fun W=>W.cell? ⟨R,2,none⟩=some (.int .i64 ((e4:Nat):Int))) (by kernel_rfl) ?_ (fun hHeld=>?_)
     ·try dsimp only
      exact(za DD _ (za BD)).2
     refine hT 0 ?_;refine hT 1 ?_;refine hT 2 ?_;refine hT 3 ?_;refine hT 4 ?_;refine hT 5 ?_;refine wpAnyH_done (by kernel_rfl) ?_ _
     go_wp2
     go_ret2
     exact za FF
end Go.Proofs.YtjcjleaicjhpeaaGreatDoor
