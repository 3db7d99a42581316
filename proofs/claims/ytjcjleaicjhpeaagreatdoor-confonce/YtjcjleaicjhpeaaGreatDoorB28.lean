/- Conf: play over both stores. -/
import Derived.Test.YtjcjleaicjhpeaaGreatDoorB26
import Derived.Test.YtjcjleaicjhpeaaGreatDoorB20
import Derived.Test.YtjcjleaicjhpeaaGreatDoorB01
import Derived.Laws.StructEq
import Derived.Test.YtjcjleaicjhpeaaGreatDoorB27
import Derived.Deep.CutBlock
import Derived.Deep.DeepCutAuto
set_option linter.unusedVariables false
set_option maxRecDepth 20000
set_option maxHeartbeats 16000000
namespace Go.Proofs.YtjcjleaicjhpeaaGreatDoor
section
open Go.ChangeShapes Go.WideShapes Go.ChangeAt Go.RowKit
theorem zm8 (a b c d:Int) (w:World):(Op.equal 38 (.agg #[.int .i64 a,.int .i64 b]) (.agg #[.int .i64 c,.int .i64 d])).run Tryz.prog w=.ok (a==c&&b==d) w:=by
 have u3:=Tryz.underlying3;have u5:=Tryz.underlying35;have a3:=Tryz.isAgg3;have a5:=Tryz.isAgg35;have z3:=Tryz.sizeOf3;have z5:=Tryz.sizeOf35;have hS:Tryz.prog.underlying 38=some (.struct (Tryz.prog.fieldsOf 38)):=by kernel_rfl
 have hp:Tryz.prog.stoodInHeld 38=false:=by kernel_rfl
 have:(Op.equalIn 10000 38 (.agg #[.int .i64 a,.int .i64 b]) (.agg #[.int .i64 c,.int .i64 d])).run Tryz.prog w=.ok (a==c&&b==d) w:=by
  rw[show(10000:Nat)=9999+1 from rfl,run_equalIn_agg w 9999 38 _ _ hS hp];simp only[Program.fieldsOf,Tryz.underlying38];go_simp
  by_cases h1:a=c <;> by_cases h2:b=d <;> simp[h1,h2]
 exact this
theorem zom (a b:Int) (W:World):(binOp .neq 38 (.agg #[.int .i64 a,.int .i64 b]) (.agg #[.int .i64 a,.int .i64 b])).run Tryz.prog W=.ok (.bool false) W:=by
 simp[go_sem,binOp,zm8]
theorem zlp (a b c d:Int) (W:World):(binOp .eql 38 (.agg #[.int .i64 a,.int .i64 b]) (.agg #[.int .i64 c,.int .i64 d])).run Tryz.prog W=.ok (.bool (a==c&&b==d)) W:=by
 simp[go_sem,binOp,zm8]
def zhk (w:World) (e:Ending) (w':World):Prop:=∃ h r z j,j≤150∧e=.returned (.tuple #[.pointer (some ⟨h.S,0,none⟩),.pointer (some ⟨r,0,none⟩),.bool true])∧Po8 j w.heap.size w' h z∧Ro8 j w.heap.size w' r z∧Below w.heap.size w w'
theorem zdl (a:Option Addr) (cc:Nat) (l:List CmdQ) (w:World) (hx:l.length≤maxLen) (hC:CmdsAt w a l) (hm:Mx w) :
  Calls Tryz.prog 12 #[.slice a l.length cc] w (zhk w):=by
 have MX:=zaa (fun (W:World) (hb:Below w.heap.size w W)=>hm.later hb);have HC:=zaa hC;have NC:=zaa (zhb w);have PE:=zaa (show ∀ e W,zhk w e W→zhk w e W from fun _ _ h=>h);simp only[maxLen] at hx;clear hC hm;go_enter Tryz.func12,Tryz.ntmps12
 go_wp2_with fail
 refine(za NC).mono ?_;rintro e V1 ⟨h,rfl,s1,b1,hS,hP,hR,hCC⟩;have PO:=zaa (show Po8 0 w.heap.size V1 h sm0 from⟨⟨sm0,s1,SmE.refl _,smI0,smi0,smL0⟩,hS,hP,hR,hCC⟩);have B1:=zaa b1;have RN:=zaa (zjp V1);clear s1 b1 hS hP hR hCC NC
 go_wp2_with fail
 refine(za RN).mono ?_;rintro e V2 ⟨r,rfl,t2,b2,hr⟩;have PO2:=zaa ((za PO).later b2);have RO2:=zaa (show Ro8 0 w.heap.size V2 r sm0 from⟨⟨sm0,_,t2,SmE.refl _,smI0,smi0,smL0⟩,Nat.le_trans (za B1).size hr⟩);have B2:=zaa ((za B1).trans (b2.mono (za B1).size));clear t2 b2 hr RN PO B1
 go_wp2_with fail
 go_loopw [7] (fun i wr=>∃ (j:Nat) (z:Sm),j≤150∧i=.int .i64 (j:Int)∧Hid (Po8 j w.heap.size wr h z)∧Hid (Ro8 j w.heap.size wr r z)∧Hid (Below w.heap.size w wr)) (fun i _=>150 - (intOf i).toNat)
 case atStart=>exact⟨0,sm0,by omega,rfl,PO2,RO2,B2⟩
 case round =>
  obtain⟨j,z,hj,rfl,P,R,B⟩:=hrel;by_cases hjl:j<l.length
  ·by_cases hj1:j<150
   ·as_aux_lemma =>
    have y1:(j:Int)<(l.length:Int):=by omega
    have y2:(j:Int)<150:=by omega
    have y0:(0:Int)≤(j:Int):=by omega
    have hjj:j+1≤150:=by omega
    obtain⟨b,off,rfl,hcell⟩:=(za HC).cell j hjl;have ca:=zaa ((za HC).at_ _ (List.getElem_mem hjl));generalize l[j]=q at *;obtain⟨⟨act,cli,seq,exp,host,pre,pool,ts⟩,ta,tc⟩:=q;dsimp only at *;have hcw:∀ W:World,Below w.heap.size w W→W.cell? ⟨b,off+j*8,none⟩=some (.int .i64 act)∧W.cell? ⟨b,off+j*8+1,none⟩=some (.int .i64 cli)∧W.cell? ⟨b,off+j*8+2,none⟩=some (.int .i64 seq)∧W.cell? ⟨b,off+j*8+3,none⟩=some (.int .i64 exp)∧W.cell? ⟨b,off+j*8+4,none⟩=some (.string host)∧W.cell? ⟨b,off+j*8+5,none⟩=some (.string pre)∧W.cell? ⟨b,off+j*8+6,none⟩=some (.string pool)∧W.cell? ⟨b,off+j*8+7,none⟩=some (.slice ta ts.length tc):=fun W hb=>⟨cell_later hb (hcell 0 (by omega)),cell_later hb (hcell 1 (by omega)),cell_later hb (hcell 2 (by omega)),cell_later hb (hcell 3 (by omega)),cell_later hb (hcell 4 (by omega)),cell_later hb (hcell 5 (by omega)),cell_later hb (hcell 6 (by omega)),cell_later hb (hcell 7 (by omega))⟩
    have CE:=zaa hcw;have bD:=zaa ((za B).trans (show Below w.heap.size wr wr.drew from((Below.refl _ _).drew).mono (za B).size));have CW:=zaa ((za CE) _ (za bD));have SH:=zaa (fun W=>zea ⟨act,cli,seq,exp,host,pre,pool,ts⟩ ta tc W (za ca).tn.1 (za ca).th (za ca).tp (za ca).tl);have CT:=zaa (fun (W:World) (hb:Below w.heap.size w W)=>(za ca).later hb);have PD:=zaa (fun (W:World) (p:Po8 j w.heap.size W h z) (hb:Below w.heap.size w W)=>p.do (by omega) ⟨act,cli,seq,exp,host,pre,pool,ts⟩ ta tc (za CT W hb) (za MX W hb));have RD:=zaa (fun (W:World) (p:Ro8 j w.heap.size W r z) (hb:Below w.heap.size w W)=>p.do (by omega) ⟨act,cli,seq,exp,host,pre,pool,ts⟩ ta tc (za CT W hb));unfold zam at SH PD RD;dsimp only at SH PD RD;have PW:=zaa ((za P).later (show Below wr.heap.size wr wr.drew from(Below.refl _ _).drew));have RW:=zaa ((za R).later (show Below wr.heap.size wr wr.drew from(Below.refl _ _).drew));have BW:=bD;clear hcell hcw ca P R;by_cases hs:zgu ⟨act,cli,seq,exp,host,pre,pool,ts⟩=true
    ·rw[hs] at SH;generalize doS ⟨act,cli,seq,exp,host,pre,pool,ts⟩ none 0 z=rr at *;obtain⟨⟨er,vr⟩,z'⟩:=rr;dsimp only at PD RD;have NE:=zom er vr;clear hs
     go_wp2_with fail
     refine wp_region_held_drew (S:=fun W=>W.cell? ⟨b,off+j*8,none⟩=some (.int .i64 act)∧W.cell? ⟨b,off+j*8+1,none⟩=some (.int .i64 cli)∧W.cell? ⟨b,off+j*8+2,none⟩=some (.int .i64 seq)∧W.cell? ⟨b,off+j*8+3,none⟩=some (.int .i64 exp)∧W.cell? ⟨b,off+j*8+4,none⟩=some (.string host)∧W.cell? ⟨b,off+j*8+5,none⟩=some (.string pre)∧W.cell? ⟨b,off+j*8+6,none⟩=some (.string pool)∧W.cell? ⟨b,off+j*8+7,none⟩=some (.slice ta ts.length tc)) (by kernel_rfl) ?_ (fun hHeld=>?_)
     ·try dsimp only
      exact za CW
     refine hT 0 ?_;refine hT 1 ?_;refine hT 2 ?_;refine hT 3 ?_;refine wpAnyH_ready (rs:=[4]) (by kernel_rfl) (by simp) ?_;refine AllReadyH.cons rfl (fun K hK=>?_) ?_
     ·go_simp
      go_at_call 15
      refine(za SH _).mono ?_;rintro e U1 ⟨rfl,u1⟩;have PW:=zaa ((za PW).later u1);have RW:=zaa ((za RW).later u1);have BW:=zaa ((za BW).trans (u1.mono (za BW).size));have CW:=zaa ((za CE) _ (za BW));clear u1
      go_wp2_with fail
      refine hK.out _ _ ?_ (fun hHeld=>?_)
      ·try dsimp only
       exact za CW
      clear hK K;refine hP ?_;refine hT 5 ?_;refine hT 6 ?_;refine hT 7 ?_;refine hT 8 ?_;refine hT 9 ?_;refine hT 10 ?_;refine hT 12 ?_;refine hT 13 ?_;refine hT 14 ?_;refine hT 15 ?_;refine hT 16 ?_;refine wpAnyH_ready (rs:=[11]) (by kernel_rfl) (by simp) ?_;refine AllReadyH.cons rfl (fun K hK=>?_) ?_
      ·go_simp
       go_at_call 18
       refine(za PD _ (za PW) (za BW)).mono ?_;rintro e U2 ⟨rfl,p2,u2,k2,_⟩;have PX:=zaa p2;have RW:=zaa (k2 _ _ _ _ (za RW));have BW:=zaa ((za BW).trans u2);have CW:=zaa ((za CE) _ (za BW));clear p2 u2 k2 PW;have PW:=PX;clear PX
       go_wp2_with fail
       refine hK.out _ _ ?_ (fun hHeld=>?_)
       ·try dsimp only
        exact za CW
       clear hK K;refine hP ?_;refine wpAnyH_ready (rs:=[17]) (by kernel_rfl) (by simp) ?_;refine AllReadyH.cons rfl (fun K hK=>?_) ?_
       ·go_simp
        go_at_call 30
        refine(za RD _ (za RW) (za BW)).mono ?_;rintro e U3 ⟨rfl,p3,u3,k3⟩;have RX:=zaa p3;have PW:=zaa (k3 _ _ _ _ (za PW));have BW:=zaa ((za BW).trans u3);have CW:=zaa ((za CE) _ (za BW));clear p3 u3 k3 RW;have RW:=RX;clear RX
        go_wp2_with fail
        refine hK.out _ _ ?_ (fun hHeld=>?_)
        ·try dsimp only
         exact za CW
        clear hK K;refine hP ?_;refine hT 18 ?_;refine hT 19 ?_;refine wpAnyH_done (by kernel_rfl) ?_ _
        go_wp2
        exact⟨⟨j+1,z',hjj,by go_num,PW,RW,BW⟩,by simp[intOf];omega⟩
       exact AllReadyH.nil
      exact AllReadyH.nil
     exact AllReadyH.nil
    ·have hs0:zgu ⟨act,cli,seq,exp,host,pre,pool,ts⟩=false:=by simpa using hs
     rw[hs0] at SH;clear hs hs0
     go_wp2_with fail
     refine wp_region_held_drew (S:=fun W=>W.cell? ⟨b,off+j*8,none⟩=some (.int .i64 act)∧W.cell? ⟨b,off+j*8+1,none⟩=some (.int .i64 cli)∧W.cell? ⟨b,off+j*8+2,none⟩=some (.int .i64 seq)∧W.cell? ⟨b,off+j*8+3,none⟩=some (.int .i64 exp)∧W.cell? ⟨b,off+j*8+4,none⟩=some (.string host)∧W.cell? ⟨b,off+j*8+5,none⟩=some (.string pre)∧W.cell? ⟨b,off+j*8+6,none⟩=some (.string pool)∧W.cell? ⟨b,off+j*8+7,none⟩=some (.slice ta ts.length tc)) (by kernel_rfl) ?_ (fun hHeld=>?_)
     ·try dsimp only
      exact za CW
     refine hT 0 ?_;refine hT 1 ?_;refine hT 2 ?_;refine hT 3 ?_;refine hO 4 (fun K hK=>?_);go_simp
     first
      |(go_at_call 15
        refine(za SH _).mono ?_;rintro e U1 ⟨rfl,u1⟩;have PW:=zaa ((za PW).later u1);have RW:=zaa ((za RW).later u1);have BW:=zaa ((za BW).trans (u1.mono (za BW).size));have CW:=zaa ((za CE) _ (za BW))
        clear u1)
     go_wp2_with fail
     refine hK.out _ _ ?_ (fun hHeld=>?_)
     ·try dsimp only
      exact za CW
     clear hK K;refine hP ?_;refine hT 5 ?_;refine hN 6 ?_;refine hN 7 ?_;refine hN 8 ?_;refine hN 9 ?_;refine hN 10 ?_;refine hN 12 ?_;refine hN 13 ?_;refine hN 14 ?_;refine hN 15 ?_;refine hN 16 ?_;refine ziq 11 (by kernel_rfl) rfl (by rfl) (by assumption) ?_;refine hP ?_;refine ziq 17 (by kernel_rfl) rfl (by rfl) (by assumption) ?_;refine hP ?_;refine hN 18 ?_;refine hT 19 ?_;refine wpAnyH_done (by kernel_rfl) ?_ _
     go_wp2
     exact⟨⟨j+1,z,hjj,by go_num,zaa ((za PW).mono (Nat.le_succ j)),zaa ((za RW).mono (Nat.le_succ j)),BW⟩,by simp[intOf];omega⟩
   ·as_aux_lemma =>
    have y1:(j:Int)<(l.length:Int):=by omega
    have y2:¬ (j:Int)<150:=by omega
    go_wp2_with fail
    go_ret3
    exact za PE _ _ ⟨h,r,z,j,hj,rfl,za P,za R,za B⟩
  ·as_aux_lemma =>
   have y1:¬ (j:Int)<(l.length:Int):=by omega
   go_wp2_with fail
   go_ret3
   exact za PE _ _ ⟨h,r,z,j,hj,rfl,za P,za R,za B⟩
theorem Po8.conf {j b:Nat} {w:World} {h:StH} {z:Sm} (p:Po8 j b w h z) (hj:j≤800) :
  Calls Tryz.prog 19 #[.pointer (some ⟨h.S,0,none⟩)] w fun e w'=>∃ k,e=.returned (zb1 z.cf k)∧CfAt w' z.cf k∧Below w.heap.size w w'∧(∃ l,OwnPq w.heap.size w' k.pa k.pc l∧l.map Pq.po=z.ps.map Pq.po)∧zdu w.heap.size w' k.ra k.rc z.rs:=by
 obtain⟨x,h1,h2,h3,h4,h5⟩:=p.ex;have:=zcu h1 (h4.ok (by omega));rw[h2.cf,h2.rs,h2.ps] at this;exact this
theorem Po8.put {j b:Nat} {w:World} {h:StH} {z:Sm} (p:Po8 j b w h z) (hj:j≤800) :
  Calls Tryz.prog 22 #[.pointer (some ⟨h.S,0,none⟩)] w fun e w'=>∃ sp n c,e=.returned (.slice sp n c)∧Hid ((zkd z).length=n)∧OwnB w.heap.size w' sp c (zkd z)∧Below w.heap.size w w':=by
 obtain⟨x,h1,h2,h3,h4,h5⟩:=p.ex;have:=zjn h1 (h4.ok (by omega)) h5 (by have:=h4.vr;omega);rw[h2.put] at this;exact this
theorem Po8.seen {j b:Nat} {w:World} {h:StH} {z:Sm} (p:Po8 j b w h z) (id:Int) (hid:-9223372036854775808≤id∧id≤9223372036854775807) :
  Calls Tryz.prog 17 #[.pointer (some ⟨h.S,0,none⟩),.int .i64 id] w fun e w'=>e=.returned (.tuple #[.int .i64 ((zap lid id z.cl).getD ⟨id,0,0,0⟩).seq,.agg #[.int .i64 ((zap lid id z.cl).getD ⟨id,0,0,0⟩).e,.int .i64 ((zap lid id z.cl).getD ⟨id,0,0,0⟩).ver]])∧Below w.heap.size w w':=by
 obtain⟨x,h1,h2,h3,h4,h5⟩:=p.ex;have:=zi3 h1 id hid;rw[h2.cl] at this;exact this
end
end Go.Proofs.YtjcjleaicjhpeaaGreatDoor
