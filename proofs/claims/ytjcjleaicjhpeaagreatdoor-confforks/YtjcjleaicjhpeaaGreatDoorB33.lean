/- Conf: both stores tell the same. -/
import Derived.Test.YtjcjleaicjhpeaaGreatDoorB28
import Derived.Test.YtjcjleaicjhpeaaGreatDoorB31
import Derived.Test.YtjcjleaicjhpeaaGreatDoorB32
import Derived.Deep.CutBlock
import Derived.Deep.DeepCutAuto
import Derived.Test.YtjcjleaicjhpeaaGreatDoorB30
import Derived.Test.YtjcjleaicjhpeaaGreatDoorB22
import Derived.Deep.RegionHeld3
set_option linter.unusedVariables false
set_option maxRecDepth 20000
set_option maxHeartbeats 16000000
namespace Go.Proofs.YtjcjleaicjhpeaaGreatDoor
section
open Go.ChangeShapes Go.WideShapes Go.ChangeAt Go.RowKit
theorem Po8.conf {j b:Nat} {w:World} {h:StH} {z:Sm} (p:Po8 j b w h z) (hj:j≤800) :
  Calls Tryz.prog 19 #[.pointer (some ⟨h.S,0,none⟩)] w fun e w'=>∃ k,e=.returned (zb4 z.cf k)∧CfAt w' z.cf k∧Below w.heap.size w w'∧(∃ l,OwnPq w.heap.size w' k.pa k.pc l∧l.map Pq.po=z.ps.map Pq.po)∧zdx w.heap.size w' k.ra k.rc z.rs:=by
 obtain⟨x,h1,h2,h3,h4,h5⟩:=p.ex;have:=zc3 h1 (h4.ok (by omega));rw[h2.cf,h2.rs,h2.ps] at this;exact this
theorem Po8.put {j b:Nat} {w:World} {h:StH} {z:Sm} (p:Po8 j b w h z) (hj:j≤800) :
  Calls Tryz.prog 22 #[.pointer (some ⟨h.S,0,none⟩)] w fun e w'=>∃ sp n c,e=.returned (.slice sp n c)∧Hid ((zhj z).length=n)∧OwnB w.heap.size w' sp c (zhj z)∧Below w.heap.size w w':=by
 obtain⟨x,h1,h2,h3,h4,h5⟩:=p.ex;have:=zjy h1 (h4.ok (by omega)) h5 (by have:=h4.vr;omega);rw[h2.put] at this;exact this
theorem Po8.seen {j b:Nat} {w:World} {h:StH} {z:Sm} (p:Po8 j b w h z) (id:Int) (hid:-9223372036854775808≤id∧id≤9223372036854775807) :
  Calls Tryz.prog 17 #[.pointer (some ⟨h.S,0,none⟩),.int .i64 id] w fun e w'=>e=.returned (.tuple #[.int .i64 ((zau lid id z.cl).getD ⟨id,0,0,0⟩).seq,.agg #[.int .i64 ((zau lid id z.cl).getD ⟨id,0,0,0⟩).e,.int .i64 ((zau lid id z.cl).getD ⟨id,0,0,0⟩).ver]])∧Below w.heap.size w w':=by
 obtain⟨x,h1,h2,h3,h4,h5⟩:=p.ex;have:=zi3 h1 id hid;rw[h2.cl] at this;exact this
theorem Ro8.conf {j b:Nat} {w:World} {r:Nat} {z:Sm} (p:Ro8 j b w r z) (hj:j≤800) :
  Calls Tryz.prog 33 #[.pointer (some ⟨r,0,none⟩)] w fun e w'=>∃ k,e=.returned (zb4 z.cf k)∧CfAt w' z.cf k∧Below w.heap.size w w':=by
 obtain⟨x,k,h1,h2,h3,h4,h5⟩:=p.ex;have:=zi4 h1 h4 (by omega);rw[h2.cf] at this;exact this
theorem Ro8.put {j b:Nat} {w:World} {r:Nat} {z:Sm} (p:Ro8 j b w r z) (hj:j≤800) :
  Calls Tryz.prog 34 #[.pointer (some ⟨r,0,none⟩)] w fun e w'=>∃ sp n c,e=.returned (.slice sp n c)∧Hid ((zhj z).length=n)∧OwnB w.heap.size w' sp c (zhj z)∧Below w.heap.size w w':=by
 obtain⟨x,k,h1,h2,h3,h4,h5⟩:=p.ex;have:=zi7 h1 h4 (by omega) h5 (by have:=h4.vr;omega);rw[h2.put] at this;exact this
theorem Ro8.seen {j b:Nat} {w:World} {r:Nat} {z:Sm} (p:Ro8 j b w r z) (hj:j≤800) (id:Int) :
  Calls Tryz.prog 35 #[.pointer (some ⟨r,0,none⟩),.int .i64 id] w fun e w'=>e=.returned (.tuple #[.int .i64 ((zau lid id z.cl).getD ⟨id,0,0,0⟩).seq,.agg #[.int .i64 ((zau lid id z.cl).getD ⟨id,0,0,0⟩).e,.int .i64 ((zau lid id z.cl).getD ⟨id,0,0,0⟩).ver]])∧Below w.heap.size w w':=by
 obtain⟨x,k,h1,h2,h3,h4,h5⟩:=p.ex;have:=zg h1.lw rfl (by have:=h4.cn;omega) h1.hd id;rw[h2.cl] at this;exact this
theorem zg4 {j b:Nat} {w:World} {h:StH} {r:Nat} {z:Sm} (p:Po8 j b w h z) (q:Ro8 j b w r z) (hj:j≤800) :
  Calls Tryz.prog 14 #[.pointer (some ⟨h.S,0,none⟩),.pointer (some ⟨r,0,none⟩)] w fun e w'=>e=.returned (.bool true)∧Below w.heap.size w w':=by
 have FC:=zaa (fun (W:World) (hb:Below w.heap.size w W)=>(p.later hb).conf hj);have FP:=zaa (fun (W:World) (hb:Below w.heap.size w W)=>(p.later hb).put hj);have FS:=zaa (fun (W:World) (hb:Below w.heap.size w W) (k:Nat) (hk:k≤40)=>(p.later hb).seen ((k:Int) - 1) (by omega));have GC:=zaa (fun (W:World) (hb:Below w.heap.size w W)=>(q.later hb).conf hj);have GP:=zaa (fun (W:World) (hb:Below w.heap.size w W)=>(q.later hb).put hj);have GS:=zaa (fun (W:World) (hb:Below w.heap.size w W) (k:Nat)=>(q.later hb).seen hj ((k:Int) - 1));generalize z.cf=cf at *;generalize zhj z=PS at *;clear p q;have BD:=zaa (show Below w.heap.size w w.drew from(Below.refl _ _).drew);go_enter Tryz.func14,Tryz.ntmps14
 go_upto_block 0 with fail
 go_cut [24] (fun v wc=>v=.bool false∧Hid (Below w.heap.size w wc))
 case first =>
  go_wp2_with fail
  refine wp_region_held_drew (S:=fun W=>True) (by kernel_rfl) ?_ (fun hHeld=>?_)
  ·try dsimp only
   all_goals trivial
  refine hT 0 ?_;refine hT 2 ?_;refine wpAnyH_ready (rs:=[1]) (by kernel_rfl) (by simp) ?_;refine AllReadyH.cons rfl (fun K hK=>?_) ?_
  ·go_simp
   go_at_call 19
   refine(za FC _ (za BD)).mono ?_;rintro e U1 ⟨k1,rfl,cf1,u1,_,_⟩;have BD:=zaa ((za BD).trans (u1.mono (za BD).size));have CF1:=zaa cf1;clear u1 cf1
   go_wp2_with fail
   refine hK.out _ _ ?_ (fun hHeld=>?_)
   ·try dsimp only
    all_goals trivial
   clear hK K;refine hP ?_;refine wpAnyH_ready (rs:=[3]) (by kernel_rfl) (by simp) ?_;refine AllReadyH.cons rfl (fun K hK=>?_) ?_
   ·go_simp
    go_at_call 33
    refine(za GC _ (za BD)).mono ?_;rintro e U2 ⟨k2,rfl,cf2,u2⟩;have SC:=zaa (zj2 ((za CF1).later u2) cf2);have BD:=zaa ((za BD).trans (u2.mono (za BD).size));clear u2 cf2
    go_wp2_with fail
    refine hK.out _ _ ?_ (fun hHeld=>?_)
    ·try dsimp only
     all_goals trivial
    clear hK K;refine hP ?_;refine wpAnyH_ready (rs:=[4]) (by kernel_rfl) (by simp) ?_;refine AllReadyH.cons rfl (fun K hK=>?_) ?_
    ·go_simp
     go_at_call 21
     refine(za SC).mono ?_;rintro e U3 ⟨rfl,u3⟩;have BD:=zaa ((za BD).trans (u3.mono (za BD).size));clear u3
     go_wp2_with fail
     refine hK.out _ _ ?_ (fun hHeld=>?_)
     ·try dsimp only
      all_goals trivial
     clear hK K;refine hP ?_;refine hT 5 ?_;refine hT 6 ?_;refine hT 7 ?_;refine hT 10 ?_;refine wpAnyH_ready (rs:=[8]) (by kernel_rfl) (by simp) ?_;refine AllReadyH.cons rfl (fun K hK=>?_) ?_
     ·go_simp
      go_at_call 22
      refine(za FP _ (za BD)).mono ?_;rintro e U4 ⟨sp1,n1,c1,rfl,hn1,ho1,u4⟩;have BD:=zaa ((za BD).trans (u4.mono (za BD).size));have P1:=zaa ho1.bytes;clear u4 ho1
      go_wp2_with fail
      refine hK.out _ _ ?_ (fun hHeld=>?_)
      ·try dsimp only
       all_goals trivial
      clear hK K;refine hP ?_;refine wpAnyH_ready (rs:=[9,11]) (by kernel_rfl) (by simp) ?_;refine AllReadyH.cons rfl (fun K hK=>?_) ?_
      ·have s1:=zcd n1 c1 (za hn1) (za P1);go_simp
       clear s1;refine hK.out _ _ ?_ (fun hHeld=>?_)
       ·try dsimp only
        all_goals trivial
       clear hK K;refine hP ?_;refine wpAnyH_ready (rs:=[11]) (by kernel_rfl) (by simp) ?_;refine AllReadyH.cons rfl (fun K hK=>?_) ?_
       ·go_simp
        go_at_call 34
        refine(za GP _ (za BD)).mono ?_;rintro e U5 ⟨sp2,n2,c2,rfl,hn2,ho2,u5⟩;have BD:=zaa ((za BD).trans (u5.mono (za BD).size));have P1:=zaa ((za P1).later u5);have P2:=zaa ho2.bytes;clear u5 ho2
        go_wp2_with fail
        refine hK.out _ _ ?_ (fun hHeld=>?_)
        ·try dsimp only
         all_goals trivial
        clear hK K;refine hP ?_;refine wpAnyH_ready (rs:=[12]) (by kernel_rfl) (by simp) ?_;refine AllReadyH.cons rfl (fun K hK=>?_) ?_
        ·have s2:=zcd n2 c2 (za hn2) (za P2);go_simp
         clear s2;refine hK.out _ _ ?_ (fun hHeld=>?_)
         ·try dsimp only
          all_goals trivial
         clear hK K;refine hP ?_;refine hT 13 ?_;refine hT 14 ?_;refine wpAnyH_done (by kernel_rfl) ?_ _
         go_wp2_with fail
         go_meet
         case rel=>exact⟨rfl,BD⟩
        exact AllReadyH.nil
       exact AllReadyH.nil
      refine AllReadyH.cons rfl (fun K hK=>?_) ?_
      ·go_simp
       go_at_call 34
       refine(za GP _ (za BD)).mono ?_;rintro e U5 ⟨sp2,n2,c2,rfl,hn2,ho2,u5⟩;have BD:=zaa ((za BD).trans (u5.mono (za BD).size));have P1:=zaa ((za P1).later u5);have P2:=zaa ho2.bytes;clear u5 ho2
       go_wp2_with fail
       refine hK.out _ _ ?_ (fun hHeld=>?_)
       ·try dsimp only
        all_goals trivial
       clear hK K;refine hP ?_;refine wpAnyH_ready (rs:=[9,12]) (by kernel_rfl) (by simp) ?_;refine AllReadyH.cons rfl (fun K hK=>?_) ?_
       ·have s1:=zcd n1 c1 (za hn1) (za P1);go_simp
        clear s1;refine hK.out _ _ ?_ (fun hHeld=>?_)
        ·try dsimp only
         all_goals trivial
        clear hK K;refine hP ?_;refine wpAnyH_ready (rs:=[12]) (by kernel_rfl) (by simp) ?_;refine AllReadyH.cons rfl (fun K hK=>?_) ?_
        ·have s2:=zcd n2 c2 (za hn2) (za P2);go_simp
         clear s2;refine hK.out _ _ ?_ (fun hHeld=>?_)
         ·try dsimp only
          all_goals trivial
         clear hK K;refine hP ?_;refine hT 13 ?_;refine hT 14 ?_;refine wpAnyH_done (by kernel_rfl) ?_ _
         go_wp2_with fail
         go_meet
         case rel=>exact⟨rfl,BD⟩
        exact AllReadyH.nil
       refine AllReadyH.cons rfl (fun K hK=>?_) ?_
       ·have s2:=zcd n2 c2 (za hn2) (za P2);go_simp
        clear s2;refine hK.out _ _ ?_ (fun hHeld=>?_)
        ·try dsimp only
         all_goals trivial
        clear hK K;refine hP ?_;refine wpAnyH_ready (rs:=[9]) (by kernel_rfl) (by simp) ?_;refine AllReadyH.cons rfl (fun K hK=>?_) ?_
        ·have s1:=zcd n1 c1 (za hn1) (za P1);go_simp
         clear s1;refine hK.out _ _ ?_ (fun hHeld=>?_)
         ·try dsimp only
          all_goals trivial
         clear hK K;refine hP ?_;refine hT 13 ?_;refine hT 14 ?_;refine wpAnyH_done (by kernel_rfl) ?_ _
         go_wp2_with fail
         go_meet
         case rel=>exact⟨rfl,BD⟩
        exact AllReadyH.nil
       exact AllReadyH.nil
      exact AllReadyH.nil
     exact AllReadyH.nil
    exact AllReadyH.nil
   exact AllReadyH.nil
  exact AllReadyH.nil
 case rest =>
  obtain⟨rfl,BD⟩:=hcut
  go_wp2_with fail
  go_loopw [5,6,7,8,9] (fun k _ _ _ _ wr=>∃ t:Nat,t≤35∧k=.int .i64 ((t:Int) - 1)∧Hid (Below w.heap.size w wr)) (fun k _ _ _ _ _=>36 - ((intOf k)+1).toNat)
  case atStart=>exact⟨0,by omega,rfl,BD⟩
  case round =>
   obtain⟨t,ht,rfl,BB⟩:=hrel;by_cases htm:t<35
   ·as_aux_lemma =>
    have y1:(t:Int) - 1≤33:=by omega
    have C1:=zaa (za FS wr (za BB) t (by omega));have HG:=zaa (za GS);generalize hid:(zau lid ((t:Int) - 1) z.cl).getD ⟨(t:Int) - 1,0,0,0⟩=tl at *;have HI:=zaa hid;clear hid;obtain⟨ti,tseq,te,tver⟩:=tl;dsimp only at C1
    go_wp2_with fail
    refine(za C1).mono ?_;rintro e U1 ⟨rfl,u1⟩;have b1:=zaa ((za BB).trans (u1.mono (za BB).size));have b2:=zaa (show Below U1.heap.size U1 (U1.alloc (.cells #[.int .i64 te,.int .i64 tver] 38)) from(Below.refl _ _).alloc (Nat.le_refl _) _);have X2:=zaa (zad U1 (.cells #[.int .i64 te,.int .i64 tver] 38));have b3:=zaa ((za b1).trans ((za b2).mono (za b1).size));have C2:=zaa (za HG _ (za b3) t);rw[za HI] at C2;dsimp only at C2;clear u1 C1
    go_wp2_with fail
    refine(za C2).mono ?_;rintro e U3 ⟨rfl,u3⟩;have b4:=zaa ((za b3).trans (u3.mono (za b3).size));have b5:=zaa (show Below U3.heap.size U3 (U3.alloc (.cells #[.int .i64 te,.int .i64 tver] 38)) from(Below.refl _ _).alloc (Nat.le_refl _) _);have X5:=zac (za b5) (zac u3 (za X2));have X4:=zad U3 (.cells #[.int .i64 te,.int .i64 tver] 38);have b6:=zaa ((za b4).trans ((za b5).mono (za b4).size));have e0:=zab X5 0 (.int .i64 te) rfl;have e1:=zab X5 1 (.int .i64 tver) rfl;have g0:=zab X4 0 (.int .i64 te) rfl;have g1:=zab X4 1 (.int .i64 tver) rfl;have NE:=znx te tver;have hwr:IntKind.i64.wrap ((t:Int) - 1+1)=(t:Int):=by rw[IntKind.wrap_i64];omega
    clear u3 C2 X4 X5
    go_wp2
    exact⟨⟨t+1,by omega,congrArg (Value.int .i64) (by omega),b6⟩,by simp[intOf];omega⟩
   ·as_aux_lemma =>
    have y1:¬ (t:Int) - 1≤33:=by omega
    go_wp2
    go_ret
    exact⟨rfl,za BB⟩
theorem zjm (a:Option Addr) (cc:Nat) (l:List CmdQ) (a2:Option Addr) (cc2:Nat) (l2:List CmdQ) (w:World) (hx:l.length≤maxLen) (hC:CmdsAt w a l) (hx2:l2.length≤maxLen) (hC2:CmdsAt w a2 l2) (hLz:Lz w) :
  Calls Tryz.prog 10 #[.slice a l.length cc,.slice a2 l2.length cc2] w fun e w'=>e=.returned (.bool true)∧Below w.heap.size w w':=by
 have MX:=zaa (fun (W:World) (hb:Below w.heap.size w W)=>Mx.later hLz hb);have LV:=zaa (fun (W:World) (hb:Below w.heap.size w W)=>zjs W (za MX W hb));have PL:=zaa (zjx a cc l w hx hC hLz);have HC:=zaa hC2;simp only[maxLen] at hx2;clear hx hC hLz hC2;go_enter Tryz.func10,Tryz.ntmps10
 go_wp2_with fail
 refine(za PL).mono ?_;rintro e V ⟨h,r,z,j,hj,rfl,P,R,B⟩;have BW:=zaa B;have PV:=zaa P;have RV:=zaa R;have FK:=zaa (P.fork (by omega));clear P R B PL
 go_wp2_with fail
 refine(za FK).mono ?_;rintro e U1 ⟨h2,rfl,p1,u1⟩;have PF:=zaa p1;have BV:=zaa u1;have GK:=zaa (((za RV).later u1).fork (by omega));clear p1 u1 FK
 go_wp2_with fail
 refine(za GK).mono ?_;rintro e U2 ⟨r2,rfl,q2,u2⟩;have RF:=zaa (q2.low (za BV).size);have PF:=zaa ((za PF).later u2);have BV:=zaa ((za BV).trans (u2.mono (za BV).size));clear q2 u2 GK
 go_upto_block 0 with fail
 go_cut [10] (fun i wc=>∃ (t:Nat) (z2:Sm),t≤150∧Hid (Po8 (j+t) V.heap.size wc h2 z2)∧Hid (Ro8 (j+t) V.heap.size wc r2 z2)∧Hid (Below V.heap.size V wc))
 case first =>
  go_wp2_with fail
  go_loopw [10] (fun i wr=>∃ (t:Nat) (z2:Sm),t≤150∧i=.int .i64 (t:Int)∧Hid (Po8 (j+t) V.heap.size wr h2 z2)∧Hid (Ro8 (j+t) V.heap.size wr r2 z2)∧Hid (Below V.heap.size V wr)) (fun i _=>150 - (intOf i).toNat)
  case atStart=>exact⟨0,z,by omega,rfl,PF,RF,BV⟩
  case round =>
   obtain⟨t,z2,ht,rfl,PF,RF,BV⟩:=hrel;have BT:=zaa ((za BW).trans ((za BV).mono (za BW).size));by_cases hjl:t<l2.length
   ·by_cases hj1:t<150
    ·as_aux_lemma =>
     have y1:(t:Int)<(l2.length:Int):=by omega
     have y2:(t:Int)<150:=by omega
     have y0:(0:Int)≤(t:Int):=by omega
     obtain⟨b,off,rfl,hcell⟩:=(za HC).cell t hjl;have ca:=zaa ((za HC).at_ _ (List.getElem_mem hjl));generalize l2[t]=q at *;obtain⟨⟨act,cli,seq,exp,host,pre,pool,ts⟩,ta,tc⟩:=q;dsimp only at *;have CE:=zaa (show ∀ W:World,Below w.heap.size w W→W.cell? ⟨b,off+t*8,none⟩=some (.int .i64 act)∧W.cell? ⟨b,off+t*8+1,none⟩=some (.int .i64 cli)∧W.cell? ⟨b,off+t*8+2,none⟩=some (.int .i64 seq)∧W.cell? ⟨b,off+t*8+3,none⟩=some (.int .i64 exp)∧W.cell? ⟨b,off+t*8+4,none⟩=some (.string host)∧W.cell? ⟨b,off+t*8+5,none⟩=some (.string pre)∧W.cell? ⟨b,off+t*8+6,none⟩=some (.string pool)∧W.cell? ⟨b,off+t*8+7,none⟩=some (.slice ta ts.length tc) from fun W hb=>⟨cell_later hb (hcell 0 (by omega)),cell_later hb (hcell 1 (by omega)),cell_later hb (hcell 2 (by omega)),cell_later hb (hcell 3 (by omega)),cell_later hb (hcell 4 (by omega)),cell_later hb (hcell 5 (by omega)),cell_later hb (hcell 6 (by omega)),cell_later hb (hcell 7 (by omega))⟩);have SH:=zaa (fun W=>zga ⟨act,cli,seq,exp,host,pre,pool,ts⟩ ta tc W (za ca).tn.1 (za ca).th (za ca).tp (za ca).tl);have CT:=zaa (fun (W:World) (hb:Below w.heap.size w W)=>(za ca).later hb);have PD:=zaa (fun (W:World) (p:Po8 (j+t) V.heap.size W h2 z2) (hb:Below w.heap.size w W)=>p.do (by omega) ⟨act,cli,seq,exp,host,pre,pool,ts⟩ ta tc (za CT W hb) (za MX W hb));have RD:=zaa (fun (W:World) (p:Ro8 (j+t) V.heap.size W r2 z2) (hb:Below w.heap.size w W)=>p.do (by omega) ⟨act,cli,seq,exp,host,pre,pool,ts⟩ ta tc (za CT W hb))
     unfold zas at SH PD RD;dsimp only at SH PD RD;have WV:=zaa (za BW).size;have BZ:=zaa ((za BT).drew);have VZ:=zaa ((za BV).drew);have CW:=zaa ((za CE) _ (za BZ));have PZ:=zaa ((za PF).later (show Below wr.heap.size wr wr.drew from(Below.refl _ _).drew));have RZ:=zaa ((za RF).later (show Below wr.heap.size wr wr.drew from(Below.refl _ _).drew));clear hcell ca PF RF BT BV;by_cases hs:zho ⟨act,cli,seq,exp,host,pre,pool,ts⟩=true
     ·as_aux_lemma =>
      rw[hs] at SH;generalize doS ⟨act,cli,seq,exp,host,pre,pool,ts⟩ none 0 z2=rr at *;obtain⟨⟨er,vr⟩,z3⟩:=rr;dsimp only at PD RD;have NE:=znx er vr;clear hs
      go_wp2_with fail
      refine wp_region_held_drew (S:=fun W=>W.cell? ⟨b,off+t*8,none⟩=some (.int .i64 act)∧W.cell? ⟨b,off+t*8+1,none⟩=some (.int .i64 cli)∧W.cell? ⟨b,off+t*8+2,none⟩=some (.int .i64 seq)∧W.cell? ⟨b,off+t*8+3,none⟩=some (.int .i64 exp)∧W.cell? ⟨b,off+t*8+4,none⟩=some (.string host)∧W.cell? ⟨b,off+t*8+5,none⟩=some (.string pre)∧W.cell? ⟨b,off+t*8+6,none⟩=some (.string pool)∧W.cell? ⟨b,off+t*8+7,none⟩=some (.slice ta ts.length tc)) (by kernel_rfl) ?_ (fun hHeld=>?_)
      ·try dsimp only
       exact za CW
      refine hT 0 ?_;refine hT 1 ?_;refine hT 2 ?_;refine hT 3 ?_;refine hO 4 (fun K hK=>?_);go_simp
      first
       |(go_at_call 15
         refine(za SH _).mono ?_;rintro e X1 ⟨rfl,u1⟩;have PZ:=zaa ((za PZ).later u1);have RZ:=zaa ((za RZ).later u1);have VZ:=zaa ((za VZ).trans (u1.mono (za VZ).size));have BZ:=zaa ((za BZ).trans (u1.mono (za BZ).size));have CW:=zaa ((za CE) _ (za BZ))
         clear u1)
       |(go_at_call 18
         refine(za PD _ (za PZ) (za BZ)).mono ?_;rintro e X2 ⟨rfl,p2,u2,k2,_⟩;have PX:=zaa p2;have RZ:=zaa (k2 _ _ _ _ (za RZ));have VZ:=zaa ((za VZ).trans u2);have BZ:=zaa ((za BZ).trans (u2.mono (za WV)));have CW:=zaa ((za CE) _ (za BZ))
         clear p2 u2 k2 PZ)
       |(go_at_call 30
         refine(za RD _ (za RZ) (za BZ)).mono ?_;rintro e X3 ⟨rfl,p3,u3,k3⟩;have RX:=zaa p3;have PX:=zaa (k3 _ _ _ _ (za PX));have VZ:=zaa ((za VZ).trans u3);have BZ:=zaa ((za BZ).trans (u3.mono (za WV)));have CW:=zaa ((za CE) _ (za BZ))
         clear p3 u3 k3 RZ)
      go_wp2_with fail
      refine hK.out _ _ ?_ (fun hHeld=>?_)
      ·try dsimp only
       exact za CW
      clear hK K;refine hP ?_;refine hT 5 ?_;refine hT 6 ?_;refine hT 7 ?_;refine hT 8 ?_;refine hT 9 ?_;refine hT 10 ?_;refine hT 12 ?_;refine hT 13 ?_;refine hT 14 ?_;refine hT 15 ?_;refine hT 16 ?_;refine hO 11 (fun K hK=>?_);go_simp
      first
       |(go_at_call 15
         refine(za SH _).mono ?_;rintro e X1 ⟨rfl,u1⟩;have PZ:=zaa ((za PZ).later u1);have RZ:=zaa ((za RZ).later u1);have VZ:=zaa ((za VZ).trans (u1.mono (za VZ).size));have BZ:=zaa ((za BZ).trans (u1.mono (za BZ).size));have CW:=zaa ((za CE) _ (za BZ))
         clear u1)
       |(go_at_call 18
         refine(za PD _ (za PZ) (za BZ)).mono ?_;rintro e X2 ⟨rfl,p2,u2,k2,_⟩;have PX:=zaa p2;have RZ:=zaa (k2 _ _ _ _ (za RZ));have VZ:=zaa ((za VZ).trans u2);have BZ:=zaa ((za BZ).trans (u2.mono (za WV)));have CW:=zaa ((za CE) _ (za BZ))
         clear p2 u2 k2 PZ)
       |(go_at_call 30
         refine(za RD _ (za RZ) (za BZ)).mono ?_;rintro e X3 ⟨rfl,p3,u3,k3⟩;have RX:=zaa p3;have PX:=zaa (k3 _ _ _ _ (za PX));have VZ:=zaa ((za VZ).trans u3);have BZ:=zaa ((za BZ).trans (u3.mono (za WV)));have CW:=zaa ((za CE) _ (za BZ))
         clear p3 u3 k3 RZ)
      go_wp2_with fail
      refine hK.out _ _ ?_ (fun hHeld=>?_)
      ·try dsimp only
       exact za CW
      clear hK K;refine hP ?_;refine hO 17 (fun K hK=>?_);go_simp
      first
       |(go_at_call 15
         refine(za SH _).mono ?_;rintro e X1 ⟨rfl,u1⟩;have PZ:=zaa ((za PZ).later u1);have RZ:=zaa ((za RZ).later u1);have VZ:=zaa ((za VZ).trans (u1.mono (za VZ).size));have BZ:=zaa ((za BZ).trans (u1.mono (za BZ).size));have CW:=zaa ((za CE) _ (za BZ))
         clear u1)
       |(go_at_call 18
         refine(za PD _ (za PZ) (za BZ)).mono ?_;rintro e X2 ⟨rfl,p2,u2,k2,_⟩;have PX:=zaa p2;have RZ:=zaa (k2 _ _ _ _ (za RZ));have VZ:=zaa ((za VZ).trans u2);have BZ:=zaa ((za BZ).trans (u2.mono (za WV)));have CW:=zaa ((za CE) _ (za BZ))
         clear p2 u2 k2 PZ)
       |(go_at_call 30
         refine(za RD _ (za RZ) (za BZ)).mono ?_;rintro e X3 ⟨rfl,p3,u3,k3⟩;have RX:=zaa p3;have PX:=zaa (k3 _ _ _ _ (za PX));have VZ:=zaa ((za VZ).trans u3);have BZ:=zaa ((za BZ).trans (u3.mono (za WV)));have CW:=zaa ((za CE) _ (za BZ))
         clear p3 u3 k3 RZ)
      go_wp2_with fail
      refine hK.out _ _ ?_ (fun hHeld=>?_)
      ·try dsimp only
       exact za CW
      clear hK K;refine hP ?_;refine hT 18 ?_;refine hT 19 ?_;refine wpAnyH_done (by kernel_rfl) ?_ _
      go_wp2
      exact⟨⟨t+1,z3,by omega,by go_num,PX,RX,VZ⟩,by simp[intOf];omega⟩
     ·as_aux_lemma =>
      have hs0:zho ⟨act,cli,seq,exp,host,pre,pool,ts⟩=false:=by simpa using hs
      rw[hs0] at SH;clear hs hs0
      go_wp2_with fail
      refine wp_region_held_drew (S:=fun W=>W.cell? ⟨b,off+t*8,none⟩=some (.int .i64 act)∧W.cell? ⟨b,off+t*8+1,none⟩=some (.int .i64 cli)∧W.cell? ⟨b,off+t*8+2,none⟩=some (.int .i64 seq)∧W.cell? ⟨b,off+t*8+3,none⟩=some (.int .i64 exp)∧W.cell? ⟨b,off+t*8+4,none⟩=some (.string host)∧W.cell? ⟨b,off+t*8+5,none⟩=some (.string pre)∧W.cell? ⟨b,off+t*8+6,none⟩=some (.string pool)∧W.cell? ⟨b,off+t*8+7,none⟩=some (.slice ta ts.length tc)) (by kernel_rfl) ?_ (fun hHeld=>?_)
      ·try dsimp only
       exact za CW
      refine hT 0 ?_;refine hT 1 ?_;refine hT 2 ?_;refine hT 3 ?_;refine hO 4 (fun K hK=>?_);go_simp
      first
       |(go_at_call 15
         refine(za SH _).mono ?_;rintro e X1 ⟨rfl,u1⟩;have PZ:=zaa ((za PZ).later u1);have RZ:=zaa ((za RZ).later u1);have VZ:=zaa ((za VZ).trans (u1.mono (za VZ).size));have BZ:=zaa ((za BZ).trans (u1.mono (za BZ).size));have CW:=zaa ((za CE) _ (za BZ))
         clear u1)
      go_wp2_with fail
      refine hK.out _ _ ?_ (fun hHeld=>?_)
      ·try dsimp only
       exact za CW
      clear hK K;refine hP ?_;refine hT 5 ?_;refine hN 6 ?_;refine hN 7 ?_;refine hN 8 ?_;refine hN 9 ?_;refine hN 10 ?_;refine hN 12 ?_;refine hN 13 ?_;refine hN 14 ?_;refine hN 15 ?_;refine hN 16 ?_;refine zfe 11 (by kernel_rfl) rfl (by rfl) (by assumption) ?_;refine hP ?_;refine zfe 17 (by kernel_rfl) rfl (by rfl) (by assumption) ?_;refine hP ?_;refine hN 18 ?_;refine hT 19 ?_;refine wpAnyH_done (by kernel_rfl) ?_ _
      go_wp2
      exact⟨⟨t+1,z2,by omega,by go_num,zaa ((za PZ).mono (by omega)),zaa ((za RZ).mono (by omega)),VZ⟩,by simp[intOf];omega⟩
    ·as_aux_lemma =>
     have y1:(t:Int)<(l2.length:Int):=by omega
     have y2:¬ (t:Int)<150:=by omega
     go_wp2_with fail
     go_meet
     case rel=>exact⟨t,z2,ht,PF,RF,BV⟩
   ·as_aux_lemma =>
    have y1:¬ (t:Int)<(l2.length:Int):=by omega
    go_wp2_with fail
    go_meet
    case rel=>exact⟨t,z2,ht,PF,RF,BV⟩
 case rest =>
  obtain⟨t,z2,ht,PF,RF,BV⟩:=hcut;have PS:=zaa ((za PV).later (za BV));have RS:=zaa ((za RV).later (za BV));have BT:=zaa ((za BW).trans ((za BV).mono (za BW).size));have CF:=zaa ((za PS).conf (by omega));clear PV RV BV BW
  go_wp2_with fail
  refine(za CF).mono ?_;rintro e W1 ⟨⟨ra,rc,pa,pc⟩,rfl,cf,v1,⟨lq,hq,hpo⟩,hrt⟩;have hlq:lq.length=z.ps.length:=by
   have:=congrArg List.length hpo
   simpa using this
  have EC:zb4 z.cf ⟨ra,rc,pa,pc⟩=.agg #[.int .i64 z.ver,.slice ra z.rs.length rc,.slice pa lq.length pc]:=by simp[zb4,Sm.cf,hlq]
  rw[EC]
  have NR:=zaa (show z.rs.length≤1000∧lq.length≤1000 from by
   have h1:=(za PS).cfs.rn;have h2:=(za PS).cfs.pn;rw[show z.cf.rs.length=z.rs.length from rfl] at h1;rw[show z.cf.ps.length=z.ps.length from by simp[Sm.cf]] at h2
   omega)
  have NT:=zaa (show ∀ x∈lq,x.po.ts.length≤16 from fun x hx=>by
   refine(za PS).cfs.tn x.po ?_;show x.po∈z.ps.map Pq.po
   rw[← hpo]
   exact List.mem_map.2 ⟨x,hx,rfl⟩)
  have bD:=zaa (show Below W1.heap.size W1 (W1.alloc (.cells #[.int .i64 z.ver,.slice ra z.rs.length rc,.slice pa lq.length pc] 45)) from(Below.refl _ _).alloc (Nat.le_refl _) _);have BX:=zaa (v1.trans ((za bD).mono v1.size));have LD:=zaa (show wc.heap.size≤W1.heap.size from v1.size);have SHP:=zaa (Shp.mk8 (N:=wc.heap.size) (D:=W1.heap.size) (zad W1 (.cells #[.int .i64 z.ver,.slice ra z.rs.length rc,.slice pa lq.length pc] 45)) (hq.later (za bD)) (zae hrt (za bD)));clear cf v1 hq hpo hrt hlq CF bD EC;generalize hnr:z.rs.length=nr at *;generalize hnp:lq.length=np at *;have HNP:=zaa hnp;clear hnr hnp;have hnr2:=(za NR).1;have hnp2:=(za NR).2
  go_wp2_with fail
  generalize hD:W1.heap.size=D at *;generalize W1.alloc (.cells #[.int .i64 z.ver,.slice ra nr rc,.slice pa np pc] 45)=W2 at *;go_loopw [12,13] (fun i _ wr=>∃ u:Nat,u≤np∧i=.int .i64 (u:Int)∧Hid (Shp wr wc.heap.size D z.ver ra nr rc pa np pc lq)∧Hid (Below wc.heap.size wc wr)) (fun i _ _=>np - (intOf i).toNat)
  case atStart=>exact⟨0,by omega,rfl,SHP,BX⟩
  case round =>
   obtain⟨u,hu,rfl,SHP,BX⟩:=hrel;have d2:=zab (za SHP).dd 2 (.slice pa np pc) rfl;by_cases hun:u<np
   ·as_aux_lemma =>
    have y0:(0:Int)≤(u:Int):=by omega
    have y1:(u:Int)<(np:Int):=by omega
    have hul:u<lq.length:=by rw[za HNP];exact hun
    obtain⟨g,s,cs,rfl,hg,hb,h1,h2⟩:=(za SHP).ps u hul;have f1:=ze3 hb (u*2);have hnt:=za NT _ (List.getElem_mem hul);have SH2:=zaa ((za SHP).set h1 ⟨#[63]⟩);have BX2:=zaa (zc1 (za BX) (zag wr g (u*2) (.string ⟨#[63]⟩)) hg (za BX).size);have TSX:=zaa (fun (W:World) (S:Shp W wc.heap.size D z.ver (ra) nr rc (some ⟨g,0,none⟩) np pc lq)=>S.ts u hul);have PSX:=zaa (fun (W:World) (S:Shp W wc.heap.size D z.ver (ra) nr rc (some ⟨g,0,none⟩) np pc lq)=>S.ps u hul);generalize lq[u]=x at *;obtain⟨⟨nm,ts⟩,ta,tc⟩:=x;dsimp only at *;generalize hts:ts.length=nt at *;clear hts
    go_wp2_with fail
    clear d2 h1 h2 f1 hb SHP BX;generalize wr.setCell ⟨g,u*2,none⟩ (.string ⟨#[63]⟩)=Y at *;go_loopw [13] (fun i wr=>∃ m:Nat,m≤nt∧i=.int .i64 (m:Int)∧Hid (Shp wr wc.heap.size D z.ver ra nr rc (some ⟨g,0,none⟩) np pc lq)∧Hid (Below wc.heap.size wc wr)) (fun i _=>nt - (intOf i).toNat)
    case atStart=>exact⟨0,by omega,rfl,SH2,BX2⟩
    case round =>
     obtain⟨m,hm,rfl,SHP,BX⟩:=hrel;have d2:=zab (za SHP).dd 2 (.slice (some ⟨g,0,none⟩) np pc) rfl;obtain⟨g',s',cs',eg,hg',hb',h1',h2'⟩:=za PSX _ (za SHP);cases eg
     by_cases hmn:m<nt
     ·as_aux_lemma =>
      have y2:(0:Int)≤(m:Int):=by omega
      have y3:(m:Int)<(nt:Int):=by omega
      obtain⟨g3,s3,cs3,rfl,hg3,hb3,h3⟩:=za TSX _ (za SHP) m hmn;have f3:=ze3 hb3 (m*2);have SH3:=zaa ((za SHP).set h3 ⟨#[63]⟩);have BX3:=zaa (zc1 (za BX) (zag wr g3 (m*2) (.string ⟨#[63]⟩)) hg3 (za BX).size);clear h1' SHP
      go_wp2
      exact⟨⟨m+1,by omega,by go_num,SH3,BX3⟩,by simp[intOf];omega⟩
     ·as_aux_lemma =>
      have y3:¬ (m:Int)<(nt:Int):=by omega
      go_wp2
      exact⟨⟨u+1,by omega,by go_num,SHP,BX⟩,by simp[intOf];omega⟩
   ·as_aux_lemma =>
    have y1:¬ (u:Int)<(np:Int):=by omega
    go_wp2_with fail
    clear d2;go_loopw [14] (fun i wr=>∃ u:Nat,u≤nr∧i=.int .i64 (u:Int)∧Hid (Shp wr wc.heap.size D z.ver ra nr rc pa np pc lq)∧Hid (Below wc.heap.size wc wr)) (fun i _=>nr - (intOf i).toNat)
    case atStart=>exact⟨0,by omega,rfl,SHP,BX⟩
    case round =>
     obtain⟨u,hu,rfl,SHP,BX⟩:=hrel;have d1:=zab (za SHP).dd 1 (.slice ra nr rc) rfl;by_cases hun:u<nr
     ·as_aux_lemma =>
      have y2:(0:Int)≤(u:Int):=by omega
      have y3:(u:Int)<(nr:Int):=by omega
      obtain⟨g,s,cs,rfl,hg,hb,h1⟩:=(za SHP).rs u hun;have f1:=ze3 hb (u*3);have SH2:=zaa ((za SHP).set h1 ⟨#[63]⟩);have BX2:=zaa (zc1 (za BX) (zag wr g (u*3) (.string ⟨#[63]⟩)) hg (za BX).size);clear SHP BX
      go_wp2
      exact⟨⟨u+1,by omega,by go_num,SH2,BX2⟩,by simp[intOf];omega⟩
     ·as_aux_lemma =>
      have y3:¬ (u:Int)<(nr:Int):=by omega
      have PP:=zaa (((za PS).later (za BX)).put (by omega))
      go_wp2_with fail
      clear SHP d1;refine(za PP).mono ?_;rintro e Z1 ⟨sp,n,c,rfl,hn,ho,z1⟩;have OB:=zaa (show ∃ NB,wc.heap.size≤NB∧OwnB NB Z1 sp c (zhj z) from⟨wr.heap.size,(za BX).size,ho⟩);have BX:=zaa ((za BX).trans (z1.mono (za BX).size));have hln:=za hn;clear PP z1 ho hn;obtain⟨NB,hNB,hob⟩:=za OB;have OB:=zaa hob;have hmx:=Nat.le_trans hob.cap.1 hob.cap.2;rw[hln] at hmx;simp only[maxLen] at hmx;clear hob;generalize zhj z=bs0 at *
      go_wp2_with fail
      go_loopw [16] (fun i wr=>∃ (m:Nat) (bs:List Nat),m≤n∧i=.int .i64 (m:Int)∧bs.length=n∧Hid (OwnB NB wr sp c bs)∧Hid (Below wc.heap.size wc wr)) (fun i _=>n - (intOf i).toNat)
      case atStart=>exact⟨0,bs0,by omega,rfl,hln,OB,BX⟩
      case round =>
       clear OB BX hln;obtain⟨m,bs,hm,rfl,hln,OB,BX⟩:=hrel;by_cases hmn:m<n
       ·as_aux_lemma =>
        have y2:(0:Int)≤(m:Int):=by omega
        have y3:(m:Int)<(n:Int):=by omega
        obtain⟨g,rfl,hg,hcell,hfr,ho2,hgr,hsz⟩:=(za OB).setAt8 m (by omega) 255 (by omega);have ho3:=zaa ho2;have BX3:=zaa (zc1 (za BX) hgr (by omega) (za BX).size);clear ho2 hgr hsz OB BX
        go_wp2
        exact⟨⟨m+1,bs.set m 255,by omega,by go_num,by rw[List.length_set];exact hln,ho3,BX3⟩,by simp[intOf];omega⟩
       ·as_aux_lemma =>
        have y3:¬ (m:Int)<(n:Int):=by omega
        have BF:=zaa ((za BT).trans ((za BX).mono (za BT).size));have LQ:=zaa (za LV _ (za BF));have PS:=zaa ((za PS).later (za BX));have RS:=zaa ((za RS).later (za BX));have PF:=zaa ((za PF).later (za BX));have RF:=zaa ((za RF).later (za BX));have SM:=zaa (fun (W:World) (hb:Below wr.heap.size wr W)=>zg4 ((za PS).later hb) ((za RS).later hb) (by omega));have SF:=zaa (fun (W:World) (hb:Below wr.heap.size wr W)=>zg4 ((za PF).later hb) ((za RF).later hb) (by omega))
        go_wp2_with fail
        refine(za LQ).mono ?_;rintro e U ⟨rfl,u⟩;have SU:=zaa (za SM U u);have UB:=zaa u;have BU:=zaa ((za BF).trans (u.mono (za BF).size));clear u
        go_wp2_with fail
        refine(za SU).mono ?_;rintro e X ⟨rfl,x⟩;have UX:=zaa ((za UB).trans (x.mono (za UB).size));have SX:=zaa (za SF X (za UX));have BX:=zaa ((za BF).trans ((za UX).mono (za BF).size));clear x SU
        go_wp2_with fail
        refine(za SX).mono ?_;rintro e Y ⟨rfl,y⟩;have BY:=zaa ((za BX).trans (y.mono (za BX).size));clear y SX
        go_wp2
        go_ret
        exact⟨rfl,za BY⟩
end
end Go.Proofs.YtjcjleaicjhpeaaGreatDoor
