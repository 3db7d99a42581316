/- Conf: pools and routes rise: the walk. -/
import Derived.Test.YtjcjleaicjhpeaaGreatDoorB26
import Derived.Test.YtjcjleaicjhpeaaGreatDoorB28
import Derived.Test.YtjcjleaicjhpeaaGreatDoorB20
set_option linter.unusedVariables false
set_option maxRecDepth 20000
set_option maxHeartbeats 16000000
namespace Go.Proofs.YtjcjleaicjhpeaaGreatDoor
open Go.ChangeShapes Go.WideShapes Go.ChangeAt Go.RowKit
def thB (t:Bool) (P:Prop):Prop:=t=true↔P
theorem zi9 (a:Option Addr) (cc:Nat) (l:List CmdQ) (w:World) (hx:l.length≤maxLen) (hC:CmdsAt w a l) (hLz:Lz w) :
  Calls Tryz.prog 6 #[.slice a l.length cc] w fun e w'=>e=.returned (.bool true)∧Below w.heap.size w w':=by
 have MX:=zaa (fun (W:World) (hb:Below w.heap.size w W)=>Mx.later hLz hb);have PL:=zaa (zdl a cc l w hx hC hLz);clear hx hC hLz;go_enter Tryz.func6,Tryz.ntmps6
 go_wp2_with fail
 refine(za PL).mono ?_;rintro e V ⟨h,r,z,j,hj,rfl,P,R,B⟩;have BV:=zaa B;have CF:=zaa (P.conf (by omega));have FS:=zaa P.cfs;clear P R B PL
 go_wp2_with fail
 refine(za CF).mono ?_;rintro e V1 ⟨⟨ra,rc,pa,pc⟩,rfl,cf,v1,_,_⟩;have RTS:=zaa cf.rts;have POS:=zaa cf.pos;have B1:=zaa ((za BV).trans (v1.mono (za BV).size));generalize z.cf=f at *;obtain⟨ver,rs,ps⟩:=f;dsimp only at *;have pn:=(za FS).pn;have rn:=(za FS).rn;dsimp only at pn rn;rw[show zb1 ⟨ver,rs,ps⟩ ⟨ra,rc,pa,pc⟩=.agg #[.int .i64 ver,.slice ra rs.length rc,.slice pa ps.length pc] from rfl];clear cf v1 CF BV;generalize hnp:ps.length=np at *;generalize hnr:rs.length=nr at *;have HNP:=zaa hnp;have HNR:=zaa hnr;clear hnp hnr;have i1:(np:Int)≤32:=by omega
 have i2:(nr:Int)≤64:=by omega
 have bD:=zaa (show Below V1.heap.size V1 (V1.alloc (.cells #[.int .i64 ver,.slice ra nr rc,.slice pa np pc] 45)) from(Below.refl _ _).alloc (Nat.le_refl _) _);have XD:=zaa (zad V1 (.cells #[.int .i64 ver,.slice ra nr rc,.slice pa np pc] 45));have d1:=zab (za XD) 1 (.slice ra nr rc) rfl;have d2:=zab (za XD) 2 (.slice pa np pc) rfl
 go_wp2_with fail
 generalize hD:V1.heap.size=D at *;have bD2:=zaa (show Below V1.heap.size V1 (V1.alloc (.cells #[.int .i64 ver,.slice ra nr rc,.slice pa np pc] 45)) from by rw[hD];exact za bD);have RT2:=zaa ((za RTS).later (za bD2));have PO2:=zaa ((za POS).later (za bD2));have B2:=zaa ((za B1).trans ((za bD2).mono (za B1).size));generalize V1.alloc (.cells #[.int .i64 ver,.slice ra nr rc,.slice pa np pc] 45)=V2 at *;clear d1 d2 bD bD2 RTS POS B1 hD;have KD:=zaa (show ∀ W:World,Below V2.heap.size V2 W→W.cell? ⟨D,1,none⟩=some (.slice ra nr rc)∧W.cell? ⟨D,2,none⟩=some (.slice pa np pc) from fun W hb=>⟨zab (zac hb (za XD)) 1 _ rfl,zab (zac hb (za XD)) 2 _ rfl⟩)
 have KN:=zaa (show ∀ i (hi:i<np),∃ b off ta tc tn s,pa=some ⟨b,off,none⟩∧(ps[i]'(by rw[za HNP];exact hi)).nm=s∧tn≤16∧∀ W:World,Below V2.heap.size V2 W→W.cell? ⟨b,off+i*2,none⟩=some (.string s)∧W.cell? ⟨b,off+i*2+1,none⟩=some (.slice ta tn tc) from fun i hi=>by
  have hi':i<ps.length:=by rw[za HNP];exact hi
  obtain⟨b,off,ta,tc,e,h1,h2,_⟩:=(za PO2).cell i hi'
  exact⟨b,off,ta,tc,ps[i].ts.length,ps[i].nm,e,rfl,by have:=(za FS).tn ps[i] (List.getElem_mem hi');omega,fun W hb=>⟨cell_later hb h1,cell_later hb h2⟩⟩)
 have KQ:=zaa (show ∀ i (hi:i<nr),∃ b off,ra=some ⟨b,off,none⟩∧∀ W:World,Below V2.heap.size V2 W→W.cell? ⟨b,off+i*3,none⟩=some (.string (rs[i]'(by rw[za HNR];exact hi)).h)∧W.cell? ⟨b,off+i*3+1,none⟩=some (.string (rs[i]'(by rw[za HNR];exact hi)).p)∧W.cell? ⟨b,off+i*3+2,none⟩=some (.string (rs[i]'(by rw[za HNR];exact hi)).l) from fun i hi=>by
  have hi':i<rs.length:=by rw[za HNR];exact hi
  obtain⟨b,off,e,h1,h2,h3⟩:=(za RT2).cell i hi'
  exact⟨b,off,e,fun W hb=>⟨cell_later hb h1,cell_later hb h2,cell_later hb h3⟩⟩)
 have LN:=zaa (show ∀ i j (hij:i<j) (hj:j<np),Kord.lt (ps[i]'(by rw[za HNP];omega)).nm (ps[j]'(by rw[za HNP];exact hj)).nm from fun i j hij hj=>(za FS).names i j hij (by show j<ps.length;rw[za HNP];exact hj));have LR:=zaa (show ∀ i j (hij:i<j) (hj:j<nr),Kord.lt ((rs[i]'(by rw[za HNR];omega)).h,(rs[i]'(by rw[za HNR];omega)).p) ((rs[j]'(by rw[za HNR];exact hj)).h,(rs[j]'(by rw[za HNR];exact hj)).p) from fun i j hij hj=>(za FS).places i j hij (by show j<rs.length;rw[za HNR];exact hj));go_loopw [7] (fun i wr=>∃ k:Nat,k≤np∧i=.int .i64 (k:Int)∧Hid (Below V2.heap.size V2 wr)) (fun i _=>np - (intOf i).toNat)
 case atStart=>exact⟨0,by omega,rfl,zaa (Below.refl _ _)⟩
 case round =>
  obtain⟨k,hk,rfl,HB⟩:=hrel;have k2:=(za KD _ (za HB)).2;by_cases hkn:k<np
  ·as_aux_lemma =>
   have y0:(0:Int)≤(k:Int):=by omega
   have y1:(k:Int)<(np:Int):=by omega
   obtain⟨b,off,ta,tc,tn,s,rfl,hs,hts,hcell⟩:=za KN k hkn;have HC:=zaa hcell;have ES:=zaa hs;have hts2:¬ (tn:Int) > 16:=by omega
   have bZ:=zaa ((za HB).drew);clear hcell hs;by_cases h0:k=0
   ·as_aux_lemma =>
    have z0:¬ (0:Int)<(k:Int):=by omega
    have z1:decide ((0:Int)<(k:Int))=false:=decide_eq_false z0;have z2:decide (0<k)=false:=decide_eq_false (by omega);clear h0
    go_wp2_with fail
    have KS:=zaa (show wr.drew.cell? ⟨D,2,none⟩=some (.slice (some ⟨b,off,none⟩) np pc)∧wr.drew.cell? ⟨b,off+k*2+1,none⟩=some (.slice ta tn tc) from⟨(za KD _ (za bZ)).2,(za HC _ (za bZ)).2⟩);refine wp_region_held_drew (S:=fun W=>W.cell? ⟨D,2,none⟩=some (.slice (some ⟨b,off,none⟩) np pc)∧W.cell? ⟨b,off+k*2+1,none⟩=some (.slice ta tn tc)) (by kernel_rfl) ?_ (fun hHeld=>?_)
    ·try dsimp only
     exact za KS
    refine hT 0 ?_;refine hT 1 ?_;refine hT 2 ?_;refine hN 3 ?_;refine hN 4 ?_;refine hN 5 ?_;refine hN 6 ?_;refine hN 7 ?_;refine hN 8 ?_;refine hN 9 ?_;refine hN 10 ?_;refine hN 11 ?_;refine hN 12 ?_;refine hN 13 ?_;refine hN 14 ?_;refine hN 15 ?_;refine hN 16 ?_;refine hT 17 ?_;refine hT 18 ?_;refine hT 19 ?_;refine hT 20 ?_;refine hT 21 ?_;refine hT 22 ?_;refine hT 23 ?_;refine hT 24 ?_;refine hT 25 ?_;refine hT 26 ?_;refine hT 27 ?_;refine wpAnyH_done (by kernel_rfl) ?_ _
    go_wp2
    exact⟨⟨k+1,by omega,by go_num,bZ⟩,by simp[intOf];omega⟩
   ·as_aux_lemma =>
    obtain⟨q,hq⟩:∃ q,k=q+1:=⟨k - 1,by omega⟩
    have z0:(0:Int)<(k:Int):=by omega
    have z1:decide ((0:Int)<(k:Int))=true:=decide_eq_true z0;have z2:decide (0<k)=true:=decide_eq_true (by omega);have hw:IntKind.i64.wrap ((k:Int) - 1)=(q:Int):=by rw[IntKind.wrap_i64];omega
    have w0:(0:Int)≤(q:Int):=by omega
    have w1:(q:Int)<(np:Int):=by omega
    have hqn:q<np:=by omega
    have hqk:q<k:=by omega
    obtain⟨b2,off2,ta2,tc2,tn2,s2,e2,hs2,_,hcell2⟩:=za KN q hqn;simp only[Option.some.injEq,Addr.mk.injEq,and_true] at e2;obtain⟨rfl,rfl⟩:=e2;have hlt:Op.bytesLess s2.toList s.toList=true:=by
     rw[zfn];have:=za LN q k hqk hkn;rw[za ES,hs2] at this;exact decide_eq_true this
    clear hq h0
    go_wp2_with fail
    have KS:=zaa (show wr.drew.cell? ⟨D,2,none⟩=some (.slice (some ⟨b,off,none⟩) np pc)∧wr.drew.cell? ⟨b,off+k*2+1,none⟩=some (.slice ta tn tc)∧wr.drew.cell? ⟨b,off+k*2,none⟩=some (.string s)∧wr.drew.cell? ⟨b,off+q*2,none⟩=some (.string s2) from⟨(za KD _ (za bZ)).2,(za HC _ (za bZ)).2,(za HC _ (za bZ)).1,(hcell2 _ (za bZ)).1⟩);refine wp_region_held_drew (S:=fun W=>W.cell? ⟨D,2,none⟩=some (.slice (some ⟨b,off,none⟩) np pc)∧W.cell? ⟨b,off+k*2+1,none⟩=some (.slice ta tn tc)∧W.cell? ⟨b,off+k*2,none⟩=some (.string s)∧W.cell? ⟨b,off+q*2,none⟩=some (.string s2)) (by kernel_rfl) ?_ (fun hHeld=>?_)
    ·try dsimp only
     exact za KS
    refine hT 0 ?_;refine hT 1 ?_;refine hT 2 ?_;refine hT 3 ?_;refine hT 4 ?_;refine hT 5 ?_;refine hT 6 ?_;refine hT 7 ?_;refine hT 8 ?_;refine hT 9 ?_;refine hT 10 ?_;refine hT 11 ?_;refine hT 12 ?_;refine hT 13 ?_;refine hT 14 ?_;refine hT 15 ?_;refine hT 16 ?_;refine hT 17 ?_;refine hT 18 ?_;refine hT 19 ?_;refine hT 20 ?_;refine hT 21 ?_;refine hT 22 ?_;refine hT 23 ?_;refine hT 24 ?_;refine hT 25 ?_;refine hT 26 ?_;refine hT 27 ?_;refine wpAnyH_done (by kernel_rfl) ?_ _
    go_wp2
    exact⟨⟨k+1,by omega,by go_num,bZ⟩,by simp[intOf];omega⟩
  ·as_aux_lemma =>
   have y1:¬ (k:Int)<(np:Int):=by omega
   go_wp2_with fail
   go_loopw [8,9,10,11] (fun i _ _ _ wr=>∃ k:Nat,k≤nr∧i=.int .i64 (k:Int)∧Hid (Below V2.heap.size V2 wr)) (fun i _ _ _ _=>nr - (intOf i).toNat)
   case atStart=>exact⟨0,by omega,rfl,HB⟩
   case round =>
    obtain⟨k,hk,rfl,HB⟩:=hrel;have k1:=(za KD _ (za HB)).1;by_cases hkn:k<nr
    ·as_aux_lemma =>
     have y0:(0:Int)≤(k:Int):=by omega
     have y1:(k:Int)<(nr:Int):=by omega
     obtain⟨b,off,rfl,hcell⟩:=za KQ k hkn;have HC:=zaa hcell;have hkl:k<rs.length:=by rw[za HNR];exact hkn
     have p0:=(hcell _ (za HB)).1;have p1:=(hcell _ (za HB)).2.1;have p2:=(hcell _ (za HB)).2.2
     have TH:=zaa (show ∃ q,∃ hq:q<np,(ps[q]'(by rw[za HNP];exact hq)).nm=rs[k].l from by
      obtain⟨p,hp,e⟩:=(za FS).th rs[k] (List.getElem_mem hkl);obtain⟨q,hq,rfl⟩:=List.getElem_of_mem hp
      exact⟨q,by rw[← za HNP];exact hq,e⟩)
     generalize hrt:rs[k]=x at *;have HRT:=zaa hrt;obtain⟨xh,xp,xl⟩:=x;dsimp only at *;have bX:=zaa (show Below wr.heap.size wr (wr.alloc (.cells #[.string xh,.string xp,.string xl] 56)) from(Below.refl _ _).alloc (Nat.le_refl _) _);have XX:=zaa (zad wr (.cells #[.string xh,.string xp,.string xl] 56));clear hcell hrt
     go_wp2_with fail
     generalize hX:wr.heap.size=X at *;have BX:=zaa ((za HB).trans ((za bX).mono (by have:=(za HB).size;omega)));generalize wr.alloc (.cells #[.string xh,.string xp,.string xl] 56)=U at *;have KX:=zaa (show ∀ W:World,Below U.heap.size U W→W.cell? ⟨X,0,none⟩=some (.string xh)∧W.cell? ⟨X,1,none⟩=some (.string xp)∧W.cell? ⟨X,2,none⟩=some (.string xl) from fun W hb=>⟨zab (zac hb (za XX)) 0 _ rfl,zab (zac hb (za XX)) 1 _ rfl,zab (zac hb (za XX)) 2 _ rfl⟩);clear p0 p1 p2 bX XX;go_loopw [10,11] (fun th i wr=>∃ (q:Nat) (t:Bool),q≤np∧i=.int .i64 (q:Int)∧th=.bool t∧Hid (thB t (∃ m,∃ hm:m<np,m<q∧(ps[m]'(by rw[za HNP];exact hm)).nm=xl))∧Hid (Below U.heap.size U wr)) (fun _ i _=>np - (intOf i).toNat)
     case atStart=>exact⟨0,false,by omega,rfl,rfl,zaa (by simp[thB]),zaa (Below.refl _ _)⟩
     case round =>
      obtain⟨q,t,hq,rfl,rfl,HT,HU⟩:=hrel;have HV:=zaa ((za BX).trans ((za HU).mono (za BX).size));have k2:=(za KD _ (za HV)).2;by_cases hqn:q<np
      ·as_aux_lemma =>
       have y2:(0:Int)≤(q:Int):=by omega
       have y3:(q:Int)<(np:Int):=by omega
       obtain⟨b3,off3,ta,tc,tn,s,rfl,hs,hts,hcell3⟩:=za KN q hqn;have ES:=zaa hs;have hC3:=zaa hcell3;clear hs hts hcell3;have uZ:=zaa ((za HU).drew);have vZ:=zaa ((za HV).drew);cases t with
       |true =>
        as_aux_lemma =>
        have HT2:=zaa (show thB true (∃ m,∃ hm:m<np,m<q+1∧(ps[m]'(by rw[za HNP];exact hm)).nm=xl) from by
         obtain⟨m,hm,h1,h2⟩:=(za HT).1 rfl
         exact⟨fun _=>⟨m,hm,by omega,h2⟩,fun _=>rfl⟩)
        go_wp2_with fail
        refine wp_region_held_drew (S:=fun W=>True) (by kernel_rfl) ?_ (fun hHeld=>?_)
        ·try dsimp only
         all_goals trivial
        refine hT 0 ?_;refine hT 1 ?_;refine hN 2 ?_;refine hN 3 ?_;refine hN 4 ?_;refine hN 5 ?_;refine hN 6 ?_;refine hN 7 ?_;refine hN 8 ?_;refine hN 9 ?_;refine hN 10 ?_;refine hT 11 ?_;refine hT 12 ?_;refine wpAnyH_done (by kernel_rfl) ?_ _
        go_wp2
        exact⟨⟨q+1,true,by omega,by go_num,rfl,HT2,uZ⟩,by simp[intOf];omega⟩
       |false =>
        as_aux_lemma =>
        have heq:(s.toList==xl.toList)=decide (s=xl):=zb s xl
        have HT2:=zaa (show thB (decide (s=xl)) (∃ m,∃ hm:m<np,m<q+1∧(ps[m]'(by rw[za HNP];exact hm)).nm=xl) from by
         constructor
         ·intro h;exact⟨q,hqn,by omega,by rw[za ES];exact of_decide_eq_true h⟩
         ·rintro⟨m,hm,h1,h2⟩;by_cases hmq:m=q
          ·subst hmq;rw[za ES] at h2;exact decide_eq_true h2
          ·have:=(za HT).2 ⟨m,hm,by omega,h2⟩
           cases this)
        generalize decide (s=xl)=t2 at *
        go_wp2_with fail
        have KS:=zaa (show wr.drew.cell? ⟨D,2,none⟩=some (.slice (some ⟨b3,off3,none⟩) np pc)∧wr.drew.cell? ⟨b3,off3+q*2,none⟩=some (.string s)∧wr.drew.cell? ⟨X,2,none⟩=some (.string xl) from⟨(za KD _ (za vZ)).2,(za hC3 _ (za vZ)).1,(za KX _ (za uZ)).2.2⟩);refine wp_region_held_drew (S:=fun W=>W.cell? ⟨D,2,none⟩=some (.slice (some ⟨b3,off3,none⟩) np pc)∧W.cell? ⟨b3,off3+q*2,none⟩=some (.string s)∧W.cell? ⟨X,2,none⟩=some (.string xl)) (by kernel_rfl) ?_ (fun hHeld=>?_)
        ·try dsimp only
         exact za KS
        refine hT 0 ?_;refine hT 1 ?_;refine hT 2 ?_;refine hT 3 ?_;refine hT 4 ?_;refine hT 5 ?_;refine hT 6 ?_;refine hT 7 ?_;refine hT 8 ?_;refine hT 9 ?_;refine hT 10 ?_;refine hT 11 ?_;refine hT 12 ?_;refine wpAnyH_done (by kernel_rfl) ?_ _
        go_wp2
        exact⟨⟨q+1,t2,by omega,by go_num,rfl,HT2,uZ⟩,by simp[intOf];omega⟩
      ·as_aux_lemma =>
       have y3:¬ (q:Int)<(np:Int):=by omega
       have ht:t=true:=(za HT).2 (by
        obtain⟨m,hm,e⟩:=za TH
        exact⟨m,hm,by omega,e⟩)
       subst ht;have HKD:=zaa (show ∀ W:World,Below V2.heap.size V2 W→W.cell? ⟨D,1,none⟩=some (.slice (some ⟨b,off,none⟩) nr rc) from fun W hb=>(za KD W hb).1);have uZ:=zaa ((za HU).drew);have vZ:=zaa ((za HV).drew);have FIN:=zaa (show Hid (Below V2.heap.size V2 wr.drew) from vZ);by_cases h0:k=0
       ·as_aux_lemma =>
        have z0:¬ (0:Int)<(k:Int):=by omega
        have z1:decide ((0:Int)<(k:Int))=false:=decide_eq_false z0;have z2:decide (0<k)=false:=decide_eq_false (by omega);clear h0
        go_wp2_with fail
        refine wp_region_held_drew (S:=fun W=>True) (by kernel_rfl) ?_ (fun hHeld=>?_)
        ·try dsimp only
         all_goals trivial
        refine hT 0 ?_;refine hT 1 ?_;refine hT 2 ?_;refine hT 3 ?_;refine hT 4 ?_;refine hT 5 ?_;refine hN 6 ?_;refine hN 7 ?_;refine hN 8 ?_;refine hN 9 ?_;refine hN 10 ?_;refine hN 11 ?_;refine hN 12 ?_;refine hN 13 ?_;refine hN 14 ?_;refine hN 15 ?_;refine hN 16 ?_;refine hN 17 ?_;refine hN 18 ?_;refine hN 19 ?_;refine hN 20 ?_;refine hN 21 ?_;refine hN 22 ?_;refine hN 23 ?_;refine hN 24 ?_;refine hN 25 ?_;refine hN 26 ?_;refine hN 27 ?_;refine hN 28 ?_;refine hN 29 ?_;refine hN 30 ?_;refine hN 31 ?_;refine hN 32 ?_;refine hN 33 ?_;refine hN 34 ?_;refine hN 35 ?_;refine hN 36 ?_;refine hN 37 ?_;refine hN 38 ?_;refine hN 39 ?_;refine hT 40 ?_;refine hT 41 ?_;refine wpAnyH_done (by kernel_rfl) ?_ _
        go_wp2
        exact⟨⟨k+1,by omega,by go_num,vZ⟩,by simp[intOf];omega⟩
       ·as_aux_lemma =>
        obtain⟨q2,hq2⟩:∃ q,k=q+1:=⟨k - 1,by omega⟩
        have z0:(0:Int)<(k:Int):=by omega
        have z1:decide ((0:Int)<(k:Int))=true:=decide_eq_true z0;have z2:decide (0<k)=true:=decide_eq_true (by omega);have hw:IntKind.i64.wrap ((k:Int) - 1)=(q2:Int):=by rw[IntKind.wrap_i64];omega
        have w0:(0:Int)≤(q2:Int):=by omega
        have w1:(q2:Int)<(nr:Int):=by omega
        have hqn2:q2<nr:=by omega
        have hqk2:q2<k:=by omega
        obtain⟨b4,off4,e4,hcell4⟩:=za KQ q2 hqn2;simp only[Option.some.injEq,Addr.mk.injEq,and_true] at e4;obtain⟨rfl,rfl⟩:=e4;have hlt:=za LR q2 k hqk2 hkn;rw[za HRT] at hlt;generalize hr2:rs[q2]'(by rw[za HNR];exact hqn2)=y at *;obtain⟨yh,yp,yl⟩:=y;dsimp only at hlt hcell4;have HC4:=zaa hcell4;clear hcell4 hr2 hq2 h0;have KS:=zaa (show wr.drew.cell? ⟨D,1,none⟩=some (.slice (some ⟨b,off,none⟩) nr rc)∧wr.drew.cell? ⟨b,off+q2*3,none⟩=some (.string yh)∧wr.drew.cell? ⟨b,off+q2*3+1,none⟩=some (.string yp)∧wr.drew.cell? ⟨X,0,none⟩=some (.string xh)∧wr.drew.cell? ⟨X,1,none⟩=some (.string xp) from⟨za HKD _ (za vZ),(za HC4 _ (za vZ)).1,(za HC4 _ (za vZ)).2.1,(za KX _ (za uZ)).1,(za KX _ (za uZ)).2.1⟩);rcases hlt with hlt|⟨he,hlt⟩
        ·as_aux_lemma =>
         have l1:Op.bytesLess yh.toList xh.toList=true:=by rw[zfn];exact decide_eq_true hlt
         have l2:(yh.toList==xh.toList)=false:=by rw[zb];exact decide_eq_false (fun h=>by subst h;exact Kord.irr _ hlt)
         clear hlt
         go_wp2_with fail
         refine wp_region_held_drew (S:=fun W=>W.cell? ⟨D,1,none⟩=some (.slice (some ⟨b,off,none⟩) nr rc)∧W.cell? ⟨b,off+q2*3,none⟩=some (.string yh)∧W.cell? ⟨b,off+q2*3+1,none⟩=some (.string yp)∧W.cell? ⟨X,0,none⟩=some (.string xh)∧W.cell? ⟨X,1,none⟩=some (.string xp)) (by kernel_rfl) ?_ (fun hHeld=>?_)
         ·try dsimp only
          exact za KS
         refine hT 0 ?_;refine hT 1 ?_;refine hT 2 ?_;refine hT 3 ?_;refine hT 4 ?_;refine hT 5 ?_;refine hT 6 ?_;refine hT 7 ?_;refine hT 8 ?_;refine hT 9 ?_;refine hT 10 ?_;refine hT 11 ?_;refine hT 12 ?_;refine hT 13 ?_;refine hT 14 ?_;refine hT 15 ?_;refine hT 16 ?_;refine hT 17 ?_;refine hT 18 ?_;refine hT 19 ?_;refine hT 20 ?_;refine hT 21 ?_;refine hT 22 ?_;refine hT 23 ?_;refine hT 24 ?_;refine hT 25 ?_;refine hT 26 ?_;refine hT 27 ?_;refine hN 28 ?_;refine hN 29 ?_;refine hN 30 ?_;refine hN 31 ?_;refine hN 32 ?_;refine hN 33 ?_;refine hN 34 ?_;refine hN 35 ?_;refine hN 36 ?_;refine hN 37 ?_;refine hT 38 ?_;refine hT 39 ?_;refine hT 40 ?_;refine hT 41 ?_;refine wpAnyH_done (by kernel_rfl) ?_ _
         go_wp2
         exact⟨⟨k+1,by omega,by go_num,vZ⟩,by simp[intOf];omega⟩
        ·as_aux_lemma =>
         dsimp only at he;subst he;have l1:Op.bytesLess yh.toList yh.toList=false:=by rw[zfn];exact decide_eq_false (fun h=>Kord.irr _ h)
         have l2:(yh.toList==yh.toList)=true:=by rw[zb];exact decide_eq_true rfl
         have l3:Op.bytesLess yp.toList xp.toList=true:=by rw[zfn];exact decide_eq_true hlt
         clear hlt
         go_wp2_with fail
         refine wp_region_held_drew (S:=fun W=>W.cell? ⟨D,1,none⟩=some (.slice (some ⟨b,off,none⟩) nr rc)∧W.cell? ⟨b,off+q2*3,none⟩=some (.string yh)∧W.cell? ⟨b,off+q2*3+1,none⟩=some (.string yp)∧W.cell? ⟨X,0,none⟩=some (.string yh)∧W.cell? ⟨X,1,none⟩=some (.string xp)) (by kernel_rfl) ?_ (fun hHeld=>?_)
         ·try dsimp only
          exact za KS
         refine hT 0 ?_;refine hT 1 ?_;refine hT 2 ?_;refine hT 3 ?_;refine hT 4 ?_;refine hT 5 ?_;refine hT 6 ?_;refine hT 7 ?_;refine hT 8 ?_;refine hT 9 ?_;refine hT 10 ?_;refine hT 11 ?_;refine hT 12 ?_;refine hT 13 ?_;refine hT 14 ?_;refine hT 15 ?_;refine hT 16 ?_;refine hT 17 ?_;refine hT 18 ?_;refine hT 19 ?_;refine hT 20 ?_;refine hT 21 ?_;refine hT 22 ?_;refine hT 23 ?_;refine hT 24 ?_;refine hT 25 ?_;refine hT 26 ?_;refine hT 27 ?_;refine hT 28 ?_;refine hT 29 ?_;refine hT 30 ?_;refine hT 31 ?_;refine hT 32 ?_;refine hT 33 ?_;refine hT 34 ?_;refine hT 35 ?_;refine hT 36 ?_;refine hT 37 ?_;refine hT 38 ?_;refine hT 39 ?_;refine hT 40 ?_;refine hT 41 ?_;refine wpAnyH_done (by kernel_rfl) ?_ _
         go_wp2
         exact⟨⟨k+1,by omega,by go_num,vZ⟩,by simp[intOf];omega⟩
    ·as_aux_lemma =>
     have y1:¬ (k:Int)<(nr:Int):=by omega
     have LV:=zaa (zdi wr (za MX wr ((za B2).trans ((za HB).mono (za B2).size))))
     go_wp2_with fail
     refine(za LV).mono ?_;rintro e U ⟨rfl,u⟩;have F:=zaa (((za B2).trans ((za HB).mono (za B2).size)).trans (u.mono ((za B2).trans ((za HB).mono (za B2).size)).size));clear u LV
     go_wp2
     go_ret
     exact⟨rfl,za F⟩
end Go.Proofs.YtjcjleaicjhpeaaGreatDoor
