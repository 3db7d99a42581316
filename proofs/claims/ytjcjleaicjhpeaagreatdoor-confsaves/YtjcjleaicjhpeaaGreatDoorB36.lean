/- Conf: saves: the walk. -/
import Derived.Test.YtjcjleaicjhpeaaGreatDoorB35
import Derived.Test.YtjcjleaicjhpeaaGreatDoorB23
import Derived.Deep.CutBlock
import Derived.Deep.DeepCutAuto
import Derived.Deep.RegionHeld3
set_option linter.unusedVariables false
set_option maxRecDepth 20000
set_option maxHeartbeats 16000000
namespace Go.Proofs.YtjcjleaicjhpeaaGreatDoor
open Go.ChangeShapes Go.WideShapes Go.ChangeAt Go.RowKit
theorem Po8.do2 {j b b2:Nat} {w:World} {h h2:StH} {z z2:Sm} {i:Nat} (p:Po8 j b w h z) (hj:j≤800) (c:Cmd) (a:Option Addr) (tc:Nat) (hc:CmdAt w c a tc) (hm:Mx w) (q:Po8 i b2 w h2 z2) (ap:zi3 h h2) :
  Calls Tryz.prog 18 #[.pointer (some ⟨h.S,0,none⟩),zar c a tc] w fun e w'=>e=.returned (.agg #[.int .i64 (doS c none 0 z).1.1,.int .i64 (doS c none 0 z).1.2])∧Po8 (j+1) b w' h (doS c none 0 z).2∧Po8 i b2 w' h2 z2∧Below b w w':=by
 refine(p.do hj c a tc hc hm).mono ?_;rintro e w' ⟨rfl,p2,u,_,x,s,cg⟩;exact⟨rfl,p2,q.beside s cg ap,u⟩
theorem zmw (a:Option Addr) (cc:Nat) (l:List CmdQ) (a2:Option Addr) (cc2:Nat) (l2:List CmdQ) (w:World) (hx:l.length≤maxLen) (hC:CmdsAt w a l) (hx2:l2.length≤maxLen) (hC2:CmdsAt w a2 l2) (hLz:Lz w) :
  Calls Tryz.prog 9 #[.slice a l.length cc,.slice a2 l2.length cc2] w fun e w'=>e=.returned (.bool true)∧Below w.heap.size w w':=by
 have MX:=zaa (fun (W:World) (hb:Below w.heap.size w W)=>Mx.later hLz hb);have LV:=zaa (fun (W:World) (hb:Below w.heap.size w W)=>zmi W (za MX W hb));have PL:=zaa (zmm a cc l w hx hC hLz);have HC:=zaa hC2;simp only[maxLen] at hx2;clear hx hC hLz hC2;go_enter Tryz.func9,Tryz.ntmps9
 go_wp2_with fail
 refine(za PL).mono ?_;rintro e V ⟨h,r,z,j,hj,rfl,P,R,B⟩;have BW:=zaa B;have PV:=zaa P;have FK:=zaa (P.put (by omega));clear P R B PL
 go_wp2_with fail
 refine(za FK).mono ?_;rintro e U1 ⟨sp,n,c,rfl,hn,ho,u1⟩;have PV1:=zaa ((za PV).later u1);have BW1:=zaa ((za BW).trans (u1.mono (za BW).size));have LK:=zaa ((za PV1).load (by omega) (za hn) ho (za MX _ (za BW1)));clear hn ho u1 FK
 go_wp2_with fail
 refine(za LK).mono ?_;rintro e U2 ⟨h2,rfl,q2,u2⟩;have AP:=zaa ((za PV1).apart q2 (Nat.le_refl _));have PF:=zaa ((za PV1).later u2);have QF:=zaa (q2.low (za BW1).size);have BF:=zaa ((za BW1).trans (u2.mono (za BW1).size));clear q2 u2 LK PV1 BW1 PV BW
 go_wp2_with fail
 go_loopw [10] (fun i wr=>∃ (t:Nat) (z2:Sm),t≤150∧i=.int .i64 (t:Int)∧Hid (Po8 (j+t) w.heap.size wr h z2)∧Hid (Po8 (j+t) w.heap.size wr h2 z2)∧Hid (Below w.heap.size w wr)) (fun i _=>150 - (intOf i).toNat)
 case atStart=>exact⟨0,z,by omega,rfl,PF,QF,BF⟩
 case round =>
  clear PF QF BF;obtain⟨t,z2,ht,rfl,PF,QF,BT⟩:=hrel;by_cases hjl:t<l2.length
  ·by_cases hj1:t<150
   ·as_aux_lemma =>
    have y1:(t:Int)<(l2.length:Int):=by omega
    have y2:(t:Int)<150:=by omega
    have y0:(0:Int)≤(t:Int):=by omega
    obtain⟨b,off,rfl,hcell⟩:=(za HC).cell t hjl;have ca:=zaa ((za HC).at_ _ (List.getElem_mem hjl));generalize l2[t]=q at *;obtain⟨⟨act,cli,seq,exp,host,pre,pool,ts⟩,ta,tc⟩:=q;dsimp only at *;have CE:=zaa (show ∀ W:World,Below w.heap.size w W→W.cell? ⟨b,off+t*8,none⟩=some (.int .i64 act)∧W.cell? ⟨b,off+t*8+1,none⟩=some (.int .i64 cli)∧W.cell? ⟨b,off+t*8+2,none⟩=some (.int .i64 seq)∧W.cell? ⟨b,off+t*8+3,none⟩=some (.int .i64 exp)∧W.cell? ⟨b,off+t*8+4,none⟩=some (.string host)∧W.cell? ⟨b,off+t*8+5,none⟩=some (.string pre)∧W.cell? ⟨b,off+t*8+6,none⟩=some (.string pool)∧W.cell? ⟨b,off+t*8+7,none⟩=some (.slice ta ts.length tc) from fun W hb=>⟨cell_later hb (hcell 0 (by omega)),cell_later hb (hcell 1 (by omega)),cell_later hb (hcell 2 (by omega)),cell_later hb (hcell 3 (by omega)),cell_later hb (hcell 4 (by omega)),cell_later hb (hcell 5 (by omega)),cell_later hb (hcell 6 (by omega)),cell_later hb (hcell 7 (by omega))⟩);have SH:=zaa (fun W=>zhf ⟨act,cli,seq,exp,host,pre,pool,ts⟩ ta tc W (za ca).tn.1 (za ca).th (za ca).tp (za ca).tl);have CT:=zaa (fun (W:World) (hb:Below w.heap.size w W)=>(za ca).later hb);have PD:=zaa (fun (W:World) (p:Po8 (j+t) w.heap.size W h z2) (q:Po8 (j+t) w.heap.size W h2 z2) (hb:Below w.heap.size w W)=>p.do2 (by omega) ⟨act,cli,seq,exp,host,pre,pool,ts⟩ ta tc (za CT W hb) (za MX W hb) q (za AP));have QD:=zaa (fun (W:World) (z3:Sm) (p:Po8 (j+t+1) w.heap.size W h z3) (q:Po8 (j+t) w.heap.size W h2 z2) (hb:Below w.heap.size w W)=>q.do2 (by omega) ⟨act,cli,seq,exp,host,pre,pool,ts⟩ ta tc (za CT W hb) (za MX W hb) p (za AP).symm)
    unfold zar at SH PD QD;dsimp only at SH PD QD;have BZ:=zaa ((za BT).drew);have CW:=zaa ((za CE) _ (za BZ));have PZ:=zaa ((za PF).later (show Below wr.heap.size wr wr.drew from(Below.refl _ _).drew));have QZ:=zaa ((za QF).later (show Below wr.heap.size wr wr.drew from(Below.refl _ _).drew));clear hcell ca PF QF BT;by_cases hs:zji ⟨act,cli,seq,exp,host,pre,pool,ts⟩=true
    ·as_aux_lemma =>
     rw[hs] at SH;generalize doS ⟨act,cli,seq,exp,host,pre,pool,ts⟩ none 0 z2=rr at *;obtain⟨⟨er,vr⟩,z3⟩:=rr;dsimp only at PD QD;have NE:=ztw er vr;clear hs
     go_wp2_with fail
     refine wp_region_held_drew (S:=fun W=>W.cell? ⟨b,off+t*8,none⟩=some (.int .i64 act)∧W.cell? ⟨b,off+t*8+1,none⟩=some (.int .i64 cli)∧W.cell? ⟨b,off+t*8+2,none⟩=some (.int .i64 seq)∧W.cell? ⟨b,off+t*8+3,none⟩=some (.int .i64 exp)∧W.cell? ⟨b,off+t*8+4,none⟩=some (.string host)∧W.cell? ⟨b,off+t*8+5,none⟩=some (.string pre)∧W.cell? ⟨b,off+t*8+6,none⟩=some (.string pool)∧W.cell? ⟨b,off+t*8+7,none⟩=some (.slice ta ts.length tc)) (by kernel_rfl) ?_ (fun hHeld=>?_)
     ·try dsimp only
      exact za CW
     refine hT 0 ?_;refine hT 1 ?_;refine hT 2 ?_;refine hT 3 ?_;refine hO 4 (fun K hK=>?_);go_simp
     first
      |(go_at_call 15
        refine(za SH _).mono ?_;rintro e X1 ⟨rfl,u1⟩;have PZ:=zaa ((za PZ).later u1);have QZ:=zaa ((za QZ).later u1);have BZ:=zaa ((za BZ).trans (u1.mono (za BZ).size));have CW:=zaa ((za CE) _ (za BZ))
        clear u1)
      |(go_at_call 18
        refine(za PD _ (za PZ) (za QZ) (za BZ)).mono ?_;rintro e X2 ⟨rfl,p2,q2,u2⟩;have PX:=zaa p2;have QZ:=zaa q2;have BZ:=zaa ((za BZ).trans u2);have CW:=zaa ((za CE) _ (za BZ))
        clear p2 u2 q2 PZ)
      |(go_at_call 18
        refine(za QD _ _ (za PX) (za QZ) (za BZ)).mono ?_;rintro e X3 ⟨rfl,p3,q3,u3⟩;have QX:=zaa p3;have PX:=zaa q3;have BZ:=zaa ((za BZ).trans u3);have CW:=zaa ((za CE) _ (za BZ))
        clear p3 u3 q3 QZ)
     go_wp2_with fail
     refine hK.out _ _ ?_ (fun hHeld=>?_)
     ·try dsimp only
      exact za CW
     clear hK K;refine hP ?_;refine hT 5 ?_;refine hT 6 ?_;refine hT 7 ?_;refine hT 8 ?_;refine hT 9 ?_;refine hT 10 ?_;refine hT 12 ?_;refine hT 13 ?_;refine hT 14 ?_;refine hT 15 ?_;refine hT 16 ?_;refine hO 11 (fun K hK=>?_);go_simp
     first
      |(go_at_call 15
        refine(za SH _).mono ?_;rintro e X1 ⟨rfl,u1⟩;have PZ:=zaa ((za PZ).later u1);have QZ:=zaa ((za QZ).later u1);have BZ:=zaa ((za BZ).trans (u1.mono (za BZ).size));have CW:=zaa ((za CE) _ (za BZ))
        clear u1)
      |(go_at_call 18
        refine(za PD _ (za PZ) (za QZ) (za BZ)).mono ?_;rintro e X2 ⟨rfl,p2,q2,u2⟩;have PX:=zaa p2;have QZ:=zaa q2;have BZ:=zaa ((za BZ).trans u2);have CW:=zaa ((za CE) _ (za BZ))
        clear p2 u2 q2 PZ)
      |(go_at_call 18
        refine(za QD _ _ (za PX) (za QZ) (za BZ)).mono ?_;rintro e X3 ⟨rfl,p3,q3,u3⟩;have QX:=zaa p3;have PX:=zaa q3;have BZ:=zaa ((za BZ).trans u3);have CW:=zaa ((za CE) _ (za BZ))
        clear p3 u3 q3 QZ)
     go_wp2_with fail
     refine hK.out _ _ ?_ (fun hHeld=>?_)
     ·try dsimp only
      exact za CW
     clear hK K;refine hP ?_;refine hO 17 (fun K hK=>?_);go_simp
     first
      |(go_at_call 15
        refine(za SH _).mono ?_;rintro e X1 ⟨rfl,u1⟩;have PZ:=zaa ((za PZ).later u1);have QZ:=zaa ((za QZ).later u1);have BZ:=zaa ((za BZ).trans (u1.mono (za BZ).size));have CW:=zaa ((za CE) _ (za BZ))
        clear u1)
      |(go_at_call 18
        refine(za PD _ (za PZ) (za QZ) (za BZ)).mono ?_;rintro e X2 ⟨rfl,p2,q2,u2⟩;have PX:=zaa p2;have QZ:=zaa q2;have BZ:=zaa ((za BZ).trans u2);have CW:=zaa ((za CE) _ (za BZ))
        clear p2 u2 q2 PZ)
      |(go_at_call 18
        refine(za QD _ _ (za PX) (za QZ) (za BZ)).mono ?_;rintro e X3 ⟨rfl,p3,q3,u3⟩;have QX:=zaa p3;have PX:=zaa q3;have BZ:=zaa ((za BZ).trans u3);have CW:=zaa ((za CE) _ (za BZ))
        clear p3 u3 q3 QZ)
     go_wp2_with fail
     refine hK.out _ _ ?_ (fun hHeld=>?_)
     ·try dsimp only
      exact za CW
     clear hK K;refine hP ?_;refine hT 18 ?_;refine hT 19 ?_;refine wpAnyH_done (by kernel_rfl) ?_ _
     go_wp2
     exact⟨⟨t+1,z3,by omega,by go_num,PX,QX,BZ⟩,by simp[intOf];omega⟩
    ·as_aux_lemma =>
     have hs0:zji ⟨act,cli,seq,exp,host,pre,pool,ts⟩=false:=by simpa using hs
     rw[hs0] at SH;clear hs hs0
     go_wp2_with fail
     refine wp_region_held_drew (S:=fun W=>W.cell? ⟨b,off+t*8,none⟩=some (.int .i64 act)∧W.cell? ⟨b,off+t*8+1,none⟩=some (.int .i64 cli)∧W.cell? ⟨b,off+t*8+2,none⟩=some (.int .i64 seq)∧W.cell? ⟨b,off+t*8+3,none⟩=some (.int .i64 exp)∧W.cell? ⟨b,off+t*8+4,none⟩=some (.string host)∧W.cell? ⟨b,off+t*8+5,none⟩=some (.string pre)∧W.cell? ⟨b,off+t*8+6,none⟩=some (.string pool)∧W.cell? ⟨b,off+t*8+7,none⟩=some (.slice ta ts.length tc)) (by kernel_rfl) ?_ (fun hHeld=>?_)
     ·try dsimp only
      exact za CW
     refine hT 0 ?_;refine hT 1 ?_;refine hT 2 ?_;refine hT 3 ?_;refine hO 4 (fun K hK=>?_);go_simp
     first
      |(go_at_call 15
        refine(za SH _).mono ?_;rintro e X1 ⟨rfl,u1⟩;have PZ:=zaa ((za PZ).later u1);have QZ:=zaa ((za QZ).later u1);have BZ:=zaa ((za BZ).trans (u1.mono (za BZ).size));have CW:=zaa ((za CE) _ (za BZ))
        clear u1)
     go_wp2_with fail
     refine hK.out _ _ ?_ (fun hHeld=>?_)
     ·try dsimp only
      exact za CW
     clear hK K;refine hP ?_;refine hT 5 ?_;refine hN 6 ?_;refine hN 7 ?_;refine hN 8 ?_;refine hN 9 ?_;refine hN 10 ?_;refine hN 12 ?_;refine hN 13 ?_;refine hN 14 ?_;refine hN 15 ?_;refine hN 16 ?_;refine zdv 11 (by kernel_rfl) rfl (by rfl) (by assumption) ?_;refine hP ?_;refine zdv 17 (by kernel_rfl) rfl (by rfl) (by assumption) ?_;refine hP ?_;refine hN 18 ?_;refine hT 19 ?_;refine wpAnyH_done (by kernel_rfl) ?_ _
     go_wp2
     exact⟨⟨t+1,z2,by omega,by go_num,zaa ((za PZ).mono (by omega)),zaa ((za QZ).mono (by omega)),BZ⟩,by simp[intOf];omega⟩
   ·as_aux_lemma =>
    have y1:(t:Int)<(l2.length:Int):=by omega
    have y2:¬ (t:Int)<150:=by omega
    clear HC;have BD:=zaa ((za BT).drew);have PE:=zaa (fun (W:World) (hb:Below wr.heap.size wr W)=>(za PF).later hb);have QE:=zaa (fun (W:World) (hb:Below wr.heap.size wr W)=>(za QF).later hb);have LC:=zaa (fun (W:World) (hb:Below w.heap.size w W)=>za LV W hb);have FC:=zaa (fun (W:World) (hb:Below wr.heap.size wr W)=>((za PE) W hb).conf (by omega));have GC:=zaa (fun (W:World) (hb:Below wr.heap.size wr W)=>((za QE) W hb).conf (by omega));have FP:=zaa (fun (W:World) (hb:Below wr.heap.size wr W)=>((za PE) W hb).put (by omega));have GP:=zaa (fun (W:World) (hb:Below wr.heap.size wr W)=>((za QE) W hb).put (by omega));generalize z2.cf=cf at *;generalize zhk z2=PS at *;have WR:=zaa (za BT).size;have ZD:=zaa (show Below wr.heap.size wr wr.drew from(Below.refl _ _).drew);clear PF QF PE QE BT LV
    go_wp2_with fail
    refine wp_region_held_drew (S:=fun W=>True) (by kernel_rfl) ?_ (fun hHeld=>?_)
    ·try dsimp only
     all_goals trivial
    refine wpAnyH_ready (rs:=[0]) (by kernel_rfl) (by simp) ?_;refine AllReadyH.cons rfl (fun K hK=>?_) ?_
    ·go_simp
     go_at_call 13
     refine(za LC _ (za BD)).mono ?_;rintro e U0 ⟨rfl,u0⟩;have BD:=zaa ((za BD).trans (u0.mono (za BD).size));have ZD:=zaa ((za ZD).trans (u0.mono (za ZD).size));clear u0
     go_wp2_with fail
     refine hK.out _ _ ?_ (fun hHeld=>?_)
     ·try dsimp only
      all_goals trivial
     clear hK K;refine hP ?_;refine hT 1 ?_;refine hT 2 ?_;refine hT 4 ?_;refine wpAnyH_ready (rs:=[3]) (by kernel_rfl) (by simp) ?_;refine AllReadyH.cons rfl (fun K hK=>?_) ?_
     ·go_simp
      go_at_call 19
      refine(za FC _ (za ZD)).mono ?_;rintro e U1 ⟨k1,rfl,cf1,u1,_,_⟩;have BD:=zaa ((za BD).trans (u1.mono (za BD).size));have ZD:=zaa ((za ZD).trans (u1.mono (za ZD).size));have CF1:=zaa cf1;clear u1 cf1
      go_wp2_with fail
      refine hK.out _ _ ?_ (fun hHeld=>?_)
      ·try dsimp only
       all_goals trivial
      clear hK K;refine hP ?_;refine wpAnyH_ready (rs:=[5]) (by kernel_rfl) (by simp) ?_;refine AllReadyH.cons rfl (fun K hK=>?_) ?_
      ·go_simp
       go_at_call 19
       refine(za GC _ (za ZD)).mono ?_;rintro e U2 ⟨k2,rfl,cf2,u2,_,_⟩;have SC:=zaa (zim ((za CF1).later u2) cf2);have BD:=zaa ((za BD).trans (u2.mono (za BD).size));have ZD:=zaa ((za ZD).trans (u2.mono (za ZD).size));clear u2 cf2
       go_wp2_with fail
       refine hK.out _ _ ?_ (fun hHeld=>?_)
       ·try dsimp only
        all_goals trivial
       clear hK K;refine hP ?_;refine wpAnyH_ready (rs:=[6]) (by kernel_rfl) (by simp) ?_;refine AllReadyH.cons rfl (fun K hK=>?_) ?_
       ·go_simp
        go_at_call 21
        refine(za SC).mono ?_;rintro e U3 ⟨rfl,u3⟩;have BD:=zaa ((za BD).trans (u3.mono (za BD).size));have ZD:=zaa ((za ZD).trans (u3.mono (za ZD).size));clear u3
        go_wp2_with fail
        refine hK.out _ _ ?_ (fun hHeld=>?_)
        ·try dsimp only
         all_goals trivial
        clear hK K;refine hP ?_;refine hT 7 ?_;refine hT 8 ?_;refine hT 9 ?_;refine hT 12 ?_;refine wpAnyH_ready (rs:=[10]) (by kernel_rfl) (by simp) ?_;refine AllReadyH.cons rfl (fun K hK=>?_) ?_
        ·go_simp
         go_at_call 22
         refine(za FP _ (za ZD)).mono ?_;rintro e U4 ⟨sp1,n1,c1,rfl,hn1,ho1,u4⟩;have BD:=zaa ((za BD).trans (u4.mono (za BD).size));have ZD:=zaa ((za ZD).trans (u4.mono (za ZD).size));have P1:=zaa ho1.bytes;clear u4 ho1
         go_wp2_with fail
         refine hK.out _ _ ?_ (fun hHeld=>?_)
         ·try dsimp only
          all_goals trivial
         clear hK K;refine hP ?_;refine wpAnyH_ready (rs:=[11,13]) (by kernel_rfl) (by simp) ?_;refine AllReadyH.cons rfl (fun K hK=>?_) ?_
         ·have s1:=za0 n1 c1 (za hn1) (za P1);go_simp
          clear s1;refine hK.out _ _ ?_ (fun hHeld=>?_)
          ·try dsimp only
           all_goals trivial
          clear hK K;refine hP ?_;refine wpAnyH_ready (rs:=[13]) (by kernel_rfl) (by simp) ?_;refine AllReadyH.cons rfl (fun K hK=>?_) ?_
          ·go_simp
           go_at_call 22
           refine(za GP _ (za ZD)).mono ?_;rintro e U5 ⟨sp2,n2,c2,rfl,hn2,ho2,u5⟩;have BD:=zaa ((za BD).trans (u5.mono (za BD).size));have P1:=zaa ((za P1).later u5);have P2:=zaa ho2.bytes;clear u5 ho2
           go_wp2_with fail
           refine hK.out _ _ ?_ (fun hHeld=>?_)
           ·try dsimp only
            all_goals trivial
           clear hK K;refine hP ?_;refine wpAnyH_ready (rs:=[14]) (by kernel_rfl) (by simp) ?_;refine AllReadyH.cons rfl (fun K hK=>?_) ?_
           ·have s2:=za0 n2 c2 (za hn2) (za P2);go_simp
            clear s2;refine hK.out _ _ ?_ (fun hHeld=>?_)
            ·try dsimp only
             all_goals trivial
            clear hK K;refine hP ?_;refine hT 15 ?_;refine hT 16 ?_;refine hT 17 ?_;refine wpAnyH_done (by kernel_rfl) ?_ _
            go_wp2
            go_ret
            exact⟨rfl,za BD⟩
           exact AllReadyH.nil
          exact AllReadyH.nil
         refine AllReadyH.cons rfl (fun K hK=>?_) ?_
         ·go_simp
          go_at_call 22
          refine(za GP _ (za ZD)).mono ?_;rintro e U5 ⟨sp2,n2,c2,rfl,hn2,ho2,u5⟩;have BD:=zaa ((za BD).trans (u5.mono (za BD).size));have P1:=zaa ((za P1).later u5);have P2:=zaa ho2.bytes;clear u5 ho2
          go_wp2_with fail
          refine hK.out _ _ ?_ (fun hHeld=>?_)
          ·try dsimp only
           all_goals trivial
          clear hK K;refine hP ?_;refine wpAnyH_ready (rs:=[11,14]) (by kernel_rfl) (by simp) ?_;refine AllReadyH.cons rfl (fun K hK=>?_) ?_
          ·have s1:=za0 n1 c1 (za hn1) (za P1);go_simp
           clear s1;refine hK.out _ _ ?_ (fun hHeld=>?_)
           ·try dsimp only
            all_goals trivial
           clear hK K;refine hP ?_;refine wpAnyH_ready (rs:=[14]) (by kernel_rfl) (by simp) ?_;refine AllReadyH.cons rfl (fun K hK=>?_) ?_
           ·have s2:=za0 n2 c2 (za hn2) (za P2);go_simp
            clear s2;refine hK.out _ _ ?_ (fun hHeld=>?_)
            ·try dsimp only
             all_goals trivial
            clear hK K;refine hP ?_;refine hT 15 ?_;refine hT 16 ?_;refine hT 17 ?_;refine wpAnyH_done (by kernel_rfl) ?_ _
            go_wp2
            go_ret
            exact⟨rfl,za BD⟩
           exact AllReadyH.nil
          refine AllReadyH.cons rfl (fun K hK=>?_) ?_
          ·have s2:=za0 n2 c2 (za hn2) (za P2);go_simp
           clear s2;refine hK.out _ _ ?_ (fun hHeld=>?_)
           ·try dsimp only
            all_goals trivial
           clear hK K;refine hP ?_;refine wpAnyH_ready (rs:=[11]) (by kernel_rfl) (by simp) ?_;refine AllReadyH.cons rfl (fun K hK=>?_) ?_
           ·have s1:=za0 n1 c1 (za hn1) (za P1);go_simp
            clear s1;refine hK.out _ _ ?_ (fun hHeld=>?_)
            ·try dsimp only
             all_goals trivial
            clear hK K;refine hP ?_;refine hT 15 ?_;refine hT 16 ?_;refine hT 17 ?_;refine wpAnyH_done (by kernel_rfl) ?_ _
            go_wp2
            go_ret
            exact⟨rfl,za BD⟩
           exact AllReadyH.nil
          exact AllReadyH.nil
         exact AllReadyH.nil
        exact AllReadyH.nil
       exact AllReadyH.nil
      exact AllReadyH.nil
     exact AllReadyH.nil
    exact AllReadyH.nil
  ·as_aux_lemma =>
   have y1:¬ (t:Int)<(l2.length:Int):=by omega
   clear HC;have BD:=zaa ((za BT).drew);have PE:=zaa (fun (W:World) (hb:Below wr.heap.size wr W)=>(za PF).later hb);have QE:=zaa (fun (W:World) (hb:Below wr.heap.size wr W)=>(za QF).later hb);have LC:=zaa (fun (W:World) (hb:Below w.heap.size w W)=>za LV W hb);have FC:=zaa (fun (W:World) (hb:Below wr.heap.size wr W)=>((za PE) W hb).conf (by omega));have GC:=zaa (fun (W:World) (hb:Below wr.heap.size wr W)=>((za QE) W hb).conf (by omega));have FP:=zaa (fun (W:World) (hb:Below wr.heap.size wr W)=>((za PE) W hb).put (by omega));have GP:=zaa (fun (W:World) (hb:Below wr.heap.size wr W)=>((za QE) W hb).put (by omega));generalize z2.cf=cf at *;generalize zhk z2=PS at *;have WR:=zaa (za BT).size;have ZD:=zaa (show Below wr.heap.size wr wr.drew from(Below.refl _ _).drew);clear PF QF PE QE BT LV
   go_wp2_with fail
   refine wp_region_held_drew (S:=fun W=>True) (by kernel_rfl) ?_ (fun hHeld=>?_)
   ·try dsimp only
    all_goals trivial
   refine wpAnyH_ready (rs:=[0]) (by kernel_rfl) (by simp) ?_;refine AllReadyH.cons rfl (fun K hK=>?_) ?_
   ·go_simp
    go_at_call 13
    refine(za LC _ (za BD)).mono ?_;rintro e U0 ⟨rfl,u0⟩;have BD:=zaa ((za BD).trans (u0.mono (za BD).size));have ZD:=zaa ((za ZD).trans (u0.mono (za ZD).size));clear u0
    go_wp2_with fail
    refine hK.out _ _ ?_ (fun hHeld=>?_)
    ·try dsimp only
     all_goals trivial
    clear hK K;refine hP ?_;refine hT 1 ?_;refine hT 2 ?_;refine hT 4 ?_;refine wpAnyH_ready (rs:=[3]) (by kernel_rfl) (by simp) ?_;refine AllReadyH.cons rfl (fun K hK=>?_) ?_
    ·go_simp
     go_at_call 19
     refine(za FC _ (za ZD)).mono ?_;rintro e U1 ⟨k1,rfl,cf1,u1,_,_⟩;have BD:=zaa ((za BD).trans (u1.mono (za BD).size));have ZD:=zaa ((za ZD).trans (u1.mono (za ZD).size));have CF1:=zaa cf1;clear u1 cf1
     go_wp2_with fail
     refine hK.out _ _ ?_ (fun hHeld=>?_)
     ·try dsimp only
      all_goals trivial
     clear hK K;refine hP ?_;refine wpAnyH_ready (rs:=[5]) (by kernel_rfl) (by simp) ?_;refine AllReadyH.cons rfl (fun K hK=>?_) ?_
     ·go_simp
      go_at_call 19
      refine(za GC _ (za ZD)).mono ?_;rintro e U2 ⟨k2,rfl,cf2,u2,_,_⟩;have SC:=zaa (zim ((za CF1).later u2) cf2);have BD:=zaa ((za BD).trans (u2.mono (za BD).size));have ZD:=zaa ((za ZD).trans (u2.mono (za ZD).size));clear u2 cf2
      go_wp2_with fail
      refine hK.out _ _ ?_ (fun hHeld=>?_)
      ·try dsimp only
       all_goals trivial
      clear hK K;refine hP ?_;refine wpAnyH_ready (rs:=[6]) (by kernel_rfl) (by simp) ?_;refine AllReadyH.cons rfl (fun K hK=>?_) ?_
      ·go_simp
       go_at_call 21
       refine(za SC).mono ?_;rintro e U3 ⟨rfl,u3⟩;have BD:=zaa ((za BD).trans (u3.mono (za BD).size));have ZD:=zaa ((za ZD).trans (u3.mono (za ZD).size));clear u3
       go_wp2_with fail
       refine hK.out _ _ ?_ (fun hHeld=>?_)
       ·try dsimp only
        all_goals trivial
       clear hK K;refine hP ?_;refine hT 7 ?_;refine hT 8 ?_;refine hT 9 ?_;refine hT 12 ?_;refine wpAnyH_ready (rs:=[10]) (by kernel_rfl) (by simp) ?_;refine AllReadyH.cons rfl (fun K hK=>?_) ?_
       ·go_simp
        go_at_call 22
        refine(za FP _ (za ZD)).mono ?_;rintro e U4 ⟨sp1,n1,c1,rfl,hn1,ho1,u4⟩;have BD:=zaa ((za BD).trans (u4.mono (za BD).size));have ZD:=zaa ((za ZD).trans (u4.mono (za ZD).size));have P1:=zaa ho1.bytes;clear u4 ho1
        go_wp2_with fail
        refine hK.out _ _ ?_ (fun hHeld=>?_)
        ·try dsimp only
         all_goals trivial
        clear hK K;refine hP ?_;refine wpAnyH_ready (rs:=[11,13]) (by kernel_rfl) (by simp) ?_;refine AllReadyH.cons rfl (fun K hK=>?_) ?_
        ·have s1:=za0 n1 c1 (za hn1) (za P1);go_simp
         clear s1;refine hK.out _ _ ?_ (fun hHeld=>?_)
         ·try dsimp only
          all_goals trivial
         clear hK K;refine hP ?_;refine wpAnyH_ready (rs:=[13]) (by kernel_rfl) (by simp) ?_;refine AllReadyH.cons rfl (fun K hK=>?_) ?_
         ·go_simp
          go_at_call 22
          refine(za GP _ (za ZD)).mono ?_;rintro e U5 ⟨sp2,n2,c2,rfl,hn2,ho2,u5⟩;have BD:=zaa ((za BD).trans (u5.mono (za BD).size));have P1:=zaa ((za P1).later u5);have P2:=zaa ho2.bytes;clear u5 ho2
          go_wp2_with fail
          refine hK.out _ _ ?_ (fun hHeld=>?_)
          ·try dsimp only
           all_goals trivial
          clear hK K;refine hP ?_;refine wpAnyH_ready (rs:=[14]) (by kernel_rfl) (by simp) ?_;refine AllReadyH.cons rfl (fun K hK=>?_) ?_
          ·have s2:=za0 n2 c2 (za hn2) (za P2);go_simp
           clear s2;refine hK.out _ _ ?_ (fun hHeld=>?_)
           ·try dsimp only
            all_goals trivial
           clear hK K;refine hP ?_;refine hT 15 ?_;refine hT 16 ?_;refine hT 17 ?_;refine wpAnyH_done (by kernel_rfl) ?_ _
           go_wp2
           go_ret
           exact⟨rfl,za BD⟩
          exact AllReadyH.nil
         exact AllReadyH.nil
        refine AllReadyH.cons rfl (fun K hK=>?_) ?_
        ·go_simp
         go_at_call 22
         refine(za GP _ (za ZD)).mono ?_;rintro e U5 ⟨sp2,n2,c2,rfl,hn2,ho2,u5⟩;have BD:=zaa ((za BD).trans (u5.mono (za BD).size));have P1:=zaa ((za P1).later u5);have P2:=zaa ho2.bytes;clear u5 ho2
         go_wp2_with fail
         refine hK.out _ _ ?_ (fun hHeld=>?_)
         ·try dsimp only
          all_goals trivial
         clear hK K;refine hP ?_;refine wpAnyH_ready (rs:=[11,14]) (by kernel_rfl) (by simp) ?_;refine AllReadyH.cons rfl (fun K hK=>?_) ?_
         ·have s1:=za0 n1 c1 (za hn1) (za P1);go_simp
          clear s1;refine hK.out _ _ ?_ (fun hHeld=>?_)
          ·try dsimp only
           all_goals trivial
          clear hK K;refine hP ?_;refine wpAnyH_ready (rs:=[14]) (by kernel_rfl) (by simp) ?_;refine AllReadyH.cons rfl (fun K hK=>?_) ?_
          ·have s2:=za0 n2 c2 (za hn2) (za P2);go_simp
           clear s2;refine hK.out _ _ ?_ (fun hHeld=>?_)
           ·try dsimp only
            all_goals trivial
           clear hK K;refine hP ?_;refine hT 15 ?_;refine hT 16 ?_;refine hT 17 ?_;refine wpAnyH_done (by kernel_rfl) ?_ _
           go_wp2
           go_ret
           exact⟨rfl,za BD⟩
          exact AllReadyH.nil
         refine AllReadyH.cons rfl (fun K hK=>?_) ?_
         ·have s2:=za0 n2 c2 (za hn2) (za P2);go_simp
          clear s2;refine hK.out _ _ ?_ (fun hHeld=>?_)
          ·try dsimp only
           all_goals trivial
          clear hK K;refine hP ?_;refine wpAnyH_ready (rs:=[11]) (by kernel_rfl) (by simp) ?_;refine AllReadyH.cons rfl (fun K hK=>?_) ?_
          ·have s1:=za0 n1 c1 (za hn1) (za P1);go_simp
           clear s1;refine hK.out _ _ ?_ (fun hHeld=>?_)
           ·try dsimp only
            all_goals trivial
           clear hK K;refine hP ?_;refine hT 15 ?_;refine hT 16 ?_;refine hT 17 ?_;refine wpAnyH_done (by kernel_rfl) ?_ _
           go_wp2
           go_ret
           exact⟨rfl,za BD⟩
          exact AllReadyH.nil
         exact AllReadyH.nil
        exact AllReadyH.nil
       exact AllReadyH.nil
      exact AllReadyH.nil
     exact AllReadyH.nil
    exact AllReadyH.nil
   exact AllReadyH.nil
end Go.Proofs.YtjcjleaicjhpeaaGreatDoor
