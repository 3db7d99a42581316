/- Conf: both Loads of any bytes. -/
import Derived.Test.YtjcjleaicjhpeaaGreatDoorB33
import Derived.Test.YtjcjleaicjhpeaaGreatDoorB35
import Derived.Test.YtjcjleaicjhpeaaGreatDoorB24
import Derived.Deep.RegionHeld3
set_option linter.unusedVariables false
set_option maxRecDepth 20000
set_option maxHeartbeats 16000000
namespace Go.Proofs.YtjcjleaicjhpeaaGreatDoor
open Go.ChangeShapes Go.WideShapes Go.ChangeAt Go.RowKit
theorem zr (n:Nat) (lq:List Pq) (rs:List Rt) (cl:List Ls):zhi ⟨n,lq,rs,cl⟩=zqz n (lq.map Pq.po) rs cl ((zav (Sm.cf ⟨n,lq,rs,cl⟩)).length:Int):=by
 have e1:(lq.map Pq.po).map pnm=lq.map qnm:=by rw[List.map_map];rfl
 have e2:(lq.map Pq.po).all zbe=lq.all (fun q=>zbe q.po):=by rw[List.all_map];rfl
 have e3:zaz ⟨n,lq,rs,cl⟩=(fun r:Rt=>zbw r.h&&(zc5 r.p&&(za9 pnm r.l (lq.map Pq.po)).isSome)):=by
  funext r
  unfold zaz;dsimp only;rw[zke qnm Pq.po pnm (fun _=>rfl) r.l lq,Option.isSome_map]
 unfold zhi zqz;dsimp only;rw[e1,e2,e3];generalize zat (lq.map qnm)=A;generalize zat (rs.map rpl)=B;generalize zat (cl.map lid)=C;generalize decide (((zav (Sm.cf ⟨n,lq,rs,cl⟩)).length:Int)≤12000)=D;generalize lq.all (fun q=>zbe q.po)=E;generalize rs.all (fun r:Rt=>zbw r.h&&(zc5 r.p&&(za9 pnm r.l (lq.map Pq.po)).isSome))=F;generalize cl.all (zb3 (n:Int))=G;cases A <;> cases B <;> cases C <;> cases D <;> cases E <;> cases F <;> cases G <;> rfl
theorem zsn {e:Int} (h:zha e=true):zrq e:=by
 unfold zha at h;unfold zrq;exact of_decide_eq_true h
theorem zuy {l:List Nat} (hl:∀ c∈l,c<256) {n k1 k3 k4 e4:Nat} {lq:List Pq} {rs:List Rt} {cl:List Ls} {size:Int} (ld:LdK l n (lq.map Pq.po) rs cl k1 k3 k4 e4) (h:zqz n (lq.map Pq.po) rs cl size=true):SmL ⟨n,lq,rs,cl⟩:=by
 obtain⟨h1,h2,h3,h4,h5,h6,h7⟩:=zjt h;obtain⟨e1,k2,e2,e3,q1,q2,q3,q4⟩:=ld.eq;have p4:=zmt hl k3 e3;rw[q4] at p4;dsimp only at p4;refine⟨by dsimp only;omega,fun c hc=>?_,fun q hq=>?_,fun r hr=>⟨(h6 r hr).1,(h6 r hr).2.1⟩⟩
 ·have h8:=h7 c hc;have h9:=p4.2 c hc;unfold zt4 at h9;unfold zb3 at h8;simp only[Bool.and_eq_true,decide_eq_true_eq] at h8;exact⟨h8.1,⟨by omega,by omega⟩,zsn h8.2.2.1,⟨by omega,h8.2.2.2⟩⟩
 ·have h8:=h5 q.po (List.mem_map.2 ⟨q,hq,rfl⟩);unfold zbe at h8;simp only[Bool.and_eq_true] at h8;exact⟨h8.1,h8.2.1,h8.2.2⟩
theorem zqi {l:List Nat} {k e:Nat} (he:e≠0):zk l k e=e:=by unfold zk;rw[zic he];simp
theorem zqx {w w1 w2:World} {l:List Nat} (hl:∀ c∈l,c<256) {e e':Ending} (P:zhy w l e w1) (D:zf7 w1 l e' w2) :
  (∃ x:Int,e=.returned (.tuple #[.pointer none,.int .i64 x])∧e'=.returned (.tuple #[.pointer none,.int .i64 x])) ∨
  (∃ h r z,e=.returned (.tuple #[.pointer (some ⟨StH.S h,0,none⟩),.int .i64 0])∧e'=.returned (.tuple #[.pointer (some ⟨r,0,none⟩),.int .i64 0])∧PoB w2 h z∧RoB w2 r z∧zjn z=l):=by
 obtain⟨n,ps,rs,cl,k1,k3,k4,e4,ld,hb1,hr⟩:=P;obtain⟨n',lq,rs',cl',j1,j3,j4,f4,az,hb2,hk4,hd⟩:=D;have lk:=zqu hl;rw[az,zp6 ld] at lk;obtain⟨l1,l2⟩:=lk;dsimp only at l1 l2;subst l1;by_cases he:f4=0
 ·subst he;have eq:=l2 rfl;simp only[Prod.mk.injEq,and_true] at eq;obtain⟨⟨rfl,rfl,rfl,rfl,rfl,rfl⟩,rfl⟩:=eq;by_cases hk:j4<l.length
  ·have hE:zk l j4 0=4:=by simp[zk,zcx,hk]
   rw[hE] at hr;refine .inl ⟨4,?_,?_⟩
   ·rcases hr with⟨_,h⟩|⟨h,_⟩|⟨h,_⟩
    ·exact h
    ·cases h
    ·cases h
   ·rcases hd with⟨h,_⟩|⟨_,_,h⟩|⟨_,h,_⟩
    ·exact absurd rfl h
    ·exact h
    ·omega
  ·have hE:zk l j4 0=0:=by simp[zk,hk]
   have bk:=zr5 hl ld (by omega);have rm:=zr n' lq rs' cl';rw[← bk.2] at rm;rw[hE] at hr;cases hm:zqz n' (lq.map Pq.po) rs' cl' ((j3:Int) - (j1:Int)) with
   |false =>
    rw[hm] at hr rm;refine .inl ⟨4,?_,?_⟩
    ·rcases hr with⟨h,_⟩|⟨_,_,h⟩|⟨_,h,_⟩
     ·exact absurd rfl h
     ·exact h
     ·cases h
    ·rcases hd with⟨h,_⟩|⟨_,_,h⟩|⟨_,_,h,_⟩
     ·exact absurd rfl h
     ·exact h
     ·rw[rm] at h;cases h
   |true =>
    have sm:=zuy hl ld hm;have sb:=zld hl ld;rw[hm] at hr rm;rcases hr with⟨h,_⟩|⟨_,h,_⟩|⟨_,_,h,x,he,sx,ex,px,_⟩
    ·exact absurd rfl h
    ·cases h
    ·rcases hd with⟨h,_⟩|⟨_,h,_⟩|⟨_,_,_,r,kk,he',rt⟩
     ·exact absurd rfl h
     ·rcases h with h|h
      ·exact absurd h hk
      ·rw[rm] at h;cases h
     ·have e1:SmE x ⟨n',lq,rs',cl'⟩:=⟨ex.ver,ex.rs,ex.cl,px⟩
      refine .inr ⟨h,r,⟨n',lq,rs',cl'⟩,he,he',⟨x,sx.later hb2,e1,?_,e1.smL sm,?_⟩,⟨_,kk,rt,SmE.refl _,sb,sm⟩,bk.1⟩
      ·have hB:SmB x:=by
        refine⟨by rw[e1.len];exact sb.pn,by rw[e1.rs];exact sb.rn,by rw[e1.cl];exact sb.cn,by rw[e1.ver];exact sb.vr,by rw[e1.rs];exact sb.rs,fun p hp=>?_⟩;have hmem:p.po∈lq.map Pq.po:=by rw[← px];exact List.mem_map.2 ⟨p,hp,rfl⟩
        obtain⟨q,hq,e⟩:=List.mem_map.1 hmem;have:=sb.ps q hq;rw[e] at this;exact this
       exact hB.ok
      ·rw[e1.ver];exact sb.vr.2
 ·rw[zqi he] at hr;refine .inl ⟨(f4:Nat),?_,?_⟩
  ·rcases hr with⟨_,h⟩|⟨h,_⟩|⟨h,_⟩
   ·exact h
   ·exact absurd h he
   ·exact absurd h he
  ·rcases hd with⟨_,h⟩|⟨h,_⟩|⟨h,_⟩
   ·exact h
   ·exact absurd h he
   ·exact absurd h he
theorem zpd {w w1:World} {l:List Nat} {e:Ending} (P:zhy w l e w1):(∃ p x,e=.returned (.tuple #[.pointer p,.int .i64 x]))∧Below w.heap.size w w1:=by
 obtain⟨n,ps,rs,cl,k1,k3,k4,e4,ld,hb1,hr⟩:=P;refine⟨?_,hb1⟩;rcases hr with⟨_,h⟩|⟨_,_,h⟩|⟨_,_,hh,x,h,_⟩
 ·exact⟨_,_,h⟩
 ·exact⟨_,_,h⟩
 ·exact⟨_,_,h⟩
theorem zno {w w1:World} {l:List Nat} {e:Ending} (P:zf7 w l e w1):(∃ p x,e=.returned (.tuple #[.pointer p,.int .i64 x]))∧Below w.heap.size w w1:=by
 obtain⟨n,lq,rs,cl,k1,k3,k4,e4,ld,hb1,_,hr⟩:=P;refine⟨?_,hb1⟩;rcases hr with⟨_,h⟩|⟨_,_,h⟩|⟨_,_,_,r,kk,h,_⟩
 ·exact⟨_,_,h⟩
 ·exact⟨_,_,h⟩
 ·exact⟨_,_,h⟩
theorem zm9 (a1:Option Addr) (c1:Nat) (l1:List Nat) (w:World) (hc1:l1.length≤c1) (hm1:c1≤140737488355328) (hb1:BytesAt w a1 l1) (hz1:a1=none→c1=0) (hLz:Lz w) :
  Calls Tryz.prog 8 #[.slice a1 l1.length c1] w fun e w'=>e=.returned (.bool true)∧Below w.heap.size w w':=by
 have MX:=zaa (fun (W:World) (hb:Below w.heap.size w W)=>Mx.later hLz hb);have LV:=zaa (fun (W:World) (hb:Below w.heap.size w W)=>zm8 W (za MX W hb));have PC:=zaa (zpc a1 c1 l1 w hc1 (by simp only[maxLen];omega) hb1 hz1 hLz);have DC:=zaa (fun (W:World) (hb:Below w.heap.size w W)=>znn a1 c1 l1 W hc1 (by simp only[maxLen];omega) (hb1.later hb) hz1 (by omega));have HB:=zaa hb1.lt;have BA:=zaa (fun (W:World) (hb:Below w.heap.size w W)=>hb1.later hb);clear hc1 hm1 hb1 hz1 hLz;go_enter Tryz.func8,Tryz.ntmps8
 go_wp2_with fail
 refine(za PC).mono ?_;rintro e V P;obtain⟨⟨p,x,rfl⟩,b1⟩:=zpd P;have PH:=zaa P;have BV:=zaa b1;have RC:=zaa (za DC V b1);clear P b1 PC DC
 go_wp2_with fail
 refine(za RC).mono ?_;rintro e W D;obtain⟨⟨p',x',rfl⟩,b2⟩:=zno D;have TI:=zqx (za HB) (za PH) D;have BW:=zaa ((za BV).trans (b2.mono (za BV).size));clear D b2 RC PH BV;rcases TI with⟨y,h1,h2⟩|⟨h,r,z,h1,h2,hP,hR,hz⟩
 ·as_aux_lemma =>
  simp at h1 h2;obtain⟨rfl,rfl⟩:=h1;obtain⟨rfl,rfl⟩:=h2;have BD:=zaa ((za BW).drew)
  go_wp2_with fail
  refine wp_region_held_drew (S:=fun W=>True) (by kernel_rfl) ?_ (fun hHeld=>?_)
  ·try dsimp only
   all_goals trivial
  refine hO 0 (fun K hK=>?_);go_simp
  first
   |(go_at_call 13
     refine(za LV _ (za BD)).mono ?_;rintro e U0 ⟨rfl,u0⟩;have BD:=zaa ((za BD).trans (u0.mono (za BD).size))
     clear u0)
  go_wp2_with fail
  refine hK.out _ _ ?_ (fun hHeld=>?_)
  ·try dsimp only
   all_goals trivial
  clear hK K;refine hP ?_;refine hT 1 ?_;refine hT 2 ?_;refine hT 3 ?_;refine hT 4 ?_;refine hN 5 ?_;refine hN 6 ?_;refine zbr 7 (by kernel_rfl) rfl (by rfl) (by assumption) ?_;refine hP ?_;refine hN 8 ?_;refine hN 9 ?_;refine hN 12 ?_;refine hN 13 ?_;refine zbr 10 (by kernel_rfl) rfl (by rfl) (by assumption) ?_;refine hP ?_;refine hN 11 ?_;refine hN 14 ?_;refine hN 15 ?_;refine hT 16 ?_;refine hT 17 ?_;refine hT 18 ?_;refine wpAnyH_done (by kernel_rfl) ?_ _
  go_wp2
  go_ret
  exact⟨rfl,za BD⟩
 ·as_aux_lemma =>
  simp at h1 h2;obtain⟨rfl,rfl⟩:=h1;obtain⟨rfl,rfl⟩:=h2;have SC:=zaa (fun (U:World) (hb:Below W.heap.size W U)=>zl1 (hP.later hb) (hR.later hb));have PT:=zaa (fun (U:World) (hb:Below W.heap.size W U)=>(hP.later hb).put);rw[hz] at PT;have WR:=zaa (za BW).size;have BD:=zaa ((za BW).drew);have ZD:=zaa (show Below W.heap.size W W.drew from(Below.refl _ _).drew);clear hP hR hz
  go_wp2_with fail
  refine wp_region_held_drew (S:=fun W=>True) (by kernel_rfl) ?_ (fun hHeld=>?_)
  ·try dsimp only
   all_goals trivial
  refine wpAnyH_ready (rs:=[0]) (by kernel_rfl) (by simp) ?_;refine AllReadyH.cons rfl (fun K hK=>?_) ?_
  ·go_simp
   go_at_call 13
   refine(za LV _ (za BD)).mono ?_;rintro e U0 ⟨rfl,u0⟩;have BD:=zaa ((za BD).trans (u0.mono (za BD).size));have ZD:=zaa ((za ZD).trans (u0.mono (za ZD).size));clear u0
   go_wp2_with fail
   refine hK.out _ _ ?_ (fun hHeld=>?_)
   ·try dsimp only
    all_goals trivial
   clear hK K;refine hP ?_;refine hT 1 ?_;refine hT 2 ?_;refine hT 3 ?_;refine hT 4 ?_;refine hT 5 ?_;refine hT 6 ?_;refine wpAnyH_ready (rs:=[7]) (by kernel_rfl) (by simp) ?_;refine AllReadyH.cons rfl (fun K hK=>?_) ?_
   ·go_simp
    go_at_call 14
    refine(za SC _ (za ZD)).mono ?_;rintro e U1 ⟨rfl,u1⟩;have BD:=zaa ((za BD).trans (u1.mono (za BD).size));have ZD:=zaa ((za ZD).trans (u1.mono (za ZD).size));clear u1
    go_wp2_with fail
    refine hK.out _ _ ?_ (fun hHeld=>?_)
    ·try dsimp only
     all_goals trivial
    clear hK K;refine hP ?_;refine hT 8 ?_;refine hT 9 ?_;refine hT 12 ?_;refine wpAnyH_ready (rs:=[10,13]) (by kernel_rfl) (by simp) ?_;refine AllReadyH.cons rfl (fun K hK=>?_) ?_
    ·go_simp
     go_at_call 22
     refine(za PT _ (za ZD)).mono ?_;rintro e U4 ⟨sp1,n1,k1,rfl,hn1,ho1,u4⟩;have BD:=zaa ((za BD).trans (u4.mono (za BD).size));have P1:=zaa ho1.bytes;clear u4 ho1
     go_wp2_with fail
     refine hK.out _ _ ?_ (fun hHeld=>?_)
     ·try dsimp only
      all_goals trivial
     clear hK K;refine hP ?_;refine wpAnyH_ready (rs:=[11,13]) (by kernel_rfl) (by simp) ?_;refine AllReadyH.cons rfl (fun K hK=>?_) ?_
     ·have s1:=za3 n1 k1 (za hn1) (za P1);go_simp
      clear s1;refine hK.out _ _ ?_ (fun hHeld=>?_)
      ·try dsimp only
       all_goals trivial
      clear hK K;refine hP ?_;refine wpAnyH_ready (rs:=[13]) (by kernel_rfl) (by simp) ?_;refine AllReadyH.cons rfl (fun K hK=>?_) ?_
      ·have s2:=za3 l1.length c1 rfl (za BA _ (za BD));go_simp
       clear s2;refine hK.out _ _ ?_ (fun hHeld=>?_)
       ·try dsimp only
        all_goals trivial
       clear hK K;refine hP ?_;refine hT 14 ?_;refine hT 15 ?_;refine hT 16 ?_;refine hT 17 ?_;refine hT 18 ?_;refine wpAnyH_done (by kernel_rfl) ?_ _
       go_wp2
       go_ret
       exact⟨rfl,za BD⟩
      exact AllReadyH.nil
     refine AllReadyH.cons rfl (fun K hK=>?_) ?_
     ·have s2:=za3 l1.length c1 rfl (za BA _ (za BD));go_simp
      clear s2;refine hK.out _ _ ?_ (fun hHeld=>?_)
      ·try dsimp only
       all_goals trivial
      clear hK K;refine hP ?_;refine wpAnyH_ready (rs:=[11]) (by kernel_rfl) (by simp) ?_;refine AllReadyH.cons rfl (fun K hK=>?_) ?_
      ·have s1:=za3 n1 k1 (za hn1) (za P1);go_simp
       clear s1;refine hK.out _ _ ?_ (fun hHeld=>?_)
       ·try dsimp only
        all_goals trivial
       clear hK K;refine hP ?_;refine hT 14 ?_;refine hT 15 ?_;refine hT 16 ?_;refine hT 17 ?_;refine hT 18 ?_;refine wpAnyH_done (by kernel_rfl) ?_ _
       go_wp2
       go_ret
       exact⟨rfl,za BD⟩
      exact AllReadyH.nil
     exact AllReadyH.nil
    refine AllReadyH.cons rfl (fun K hK=>?_) ?_
    ·have s2:=za3 l1.length c1 rfl (za BA _ (za BD));go_simp
     clear s2;refine hK.out _ _ ?_ (fun hHeld=>?_)
     ·try dsimp only
      all_goals trivial
     clear hK K;refine hP ?_;refine wpAnyH_ready (rs:=[10]) (by kernel_rfl) (by simp) ?_;refine AllReadyH.cons rfl (fun K hK=>?_) ?_
     ·go_simp
      go_at_call 22
      refine(za PT _ (za ZD)).mono ?_;rintro e U4 ⟨sp1,n1,k1,rfl,hn1,ho1,u4⟩;have BD:=zaa ((za BD).trans (u4.mono (za BD).size));have P1:=zaa ho1.bytes;clear u4 ho1
      go_wp2_with fail
      refine hK.out _ _ ?_ (fun hHeld=>?_)
      ·try dsimp only
       all_goals trivial
      clear hK K;refine hP ?_;refine wpAnyH_ready (rs:=[11]) (by kernel_rfl) (by simp) ?_;refine AllReadyH.cons rfl (fun K hK=>?_) ?_
      ·have s1:=za3 n1 k1 (za hn1) (za P1);go_simp
       clear s1;refine hK.out _ _ ?_ (fun hHeld=>?_)
       ·try dsimp only
        all_goals trivial
       clear hK K;refine hP ?_;refine hT 14 ?_;refine hT 15 ?_;refine hT 16 ?_;refine hT 17 ?_;refine hT 18 ?_;refine wpAnyH_done (by kernel_rfl) ?_ _
       go_wp2
       go_ret
       exact⟨rfl,za BD⟩
      exact AllReadyH.nil
     exact AllReadyH.nil
    exact AllReadyH.nil
   exact AllReadyH.nil
  exact AllReadyH.nil
end Go.Proofs.YtjcjleaicjhpeaaGreatDoor
