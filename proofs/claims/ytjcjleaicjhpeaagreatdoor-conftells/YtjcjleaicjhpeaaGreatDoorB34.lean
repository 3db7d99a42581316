/- Conf: a route that was put is there: the walk. -/
import Derived.Test.YtjcjleaicjhpeaaGreatDoorB33
import Derived.Test.YtjcjleaicjhpeaaGreatDoorB28
import Derived.Test.YtjcjleaicjhpeaaGreatDoorB20
import Derived.Test.YtjcjleaicjhpeaaGreatDoorB22
import Derived.Deep.RegionHeld3
set_option linter.unusedVariables false
set_option maxRecDepth 20000
set_option maxHeartbeats 16000000
namespace Go.Proofs.YtjcjleaicjhpeaaGreatDoor
open Go.ChangeShapes Go.WideShapes Go.ChangeAt Go.RowKit
def thC (t:Bool) (P:Prop):Prop:=t=true↔P
def zma (l:List Rt) (k:Pl) (t:Nat):Nat:=((l.take t).filter (fun x=>decide (rpl x=k))).length
theorem zli (l:List Rt) (k:Pl) (t:Nat) (h:t<l.length):zma l k (t+1)=zma l k t+if rpl l[t]=k then 1 else 0:=by
 unfold zma;rw[zbj _ l t h,List.length_append];by_cases e:rpl l[t]=k
 ·rw[if_pos (decide_eq_true e),if_pos e];rfl
 ·rw[if_neg (by simp[e]),if_neg e];rfl
theorem znk (l:List Rt) (k:Pl) (t:Nat):zma l k t≤t:=zax _ l t
theorem zmu {w:World} {B:Nat} (h:TgsAt w (some ⟨B,0,none⟩) (za5 ⟨#[113]⟩).ts):CmdAt w (za5 ⟨#[113]⟩) (some ⟨B,0,none⟩) 1:=⟨h,by simp[za5];decide,by decide,by decide,by decide,⟨by simp[za5,maxLen],by simp[za5]⟩,by simp,by simp[za5],by simp[za5],by simp[za5],by simp[za5]⟩
theorem zl4 (w:World) (h p:ByteArray) (hh:h.size≤140737488355328) (hp:p.size≤140737488355328):CmdAt w (zaw h p ⟨#[113]⟩) none 0:=⟨zib w,by simp[zaw],hh,hp,by show ByteArray.size ⟨#[113]⟩≤_;decide,⟨by simp[zaw],by simp[zaw]⟩,by simp,by simp[zaw],by simp[zaw],by simp[zaw],by simp[zaw]⟩
theorem zmk (w:World) (h p:ByteArray) (hh:h.size≤140737488355328) (hp:p.size≤140737488355328):CmdAt w (zbo h p) none 0:=⟨zib w,by simp[zbo],hh,hp,by show ByteArray.size ⟨#[]⟩≤_;decide,⟨by simp[zbo],by simp[zbo]⟩,by simp,by simp[zbo],by simp[zbo],by simp[zbo],by simp[zbo]⟩
theorem zmf (a b:ByteArray) (W:World):(Instr.build 33 #[(4,.string a),(5,.string b)]).run Tryz.prog W=.ok (.agg #[.int .i64 0,.int .i64 0,.int .i64 0,.int .i64 0,.string a,.string b,.string ⟨#[]⟩,.slice none 0 0]) W:=run_build W 33 _ _ (by kernel_rfl)
theorem zme (a b:ByteArray) (W:World):(Instr.build 33 #[(0,.int .i64 4),(3,.int .i64 (-1)),(4,.string a),(5,.string b)]).run Tryz.prog W=.ok (.agg #[.int .i64 4,.int .i64 0,.int .i64 0,.int .i64 (-1),.string a,.string b,.string ⟨#[]⟩,.slice none 0 0]) W:=run_build W 33 _ _ (by kernel_rfl)
theorem zno (v:Int) (a b:Option Addr) (n m c d:Nat) (W:World):(Instr.field 45 (.agg #[.int .i64 v,.slice a n c,.slice b m d]) 1).run Tryz.prog W=.ok (.slice a n c) W:=by kernel_rfl
theorem eqRtE (a b c d e f:ByteArray) (w:World):(Op.equal 56 (.agg #[.string a,.string b,.string c]) (.agg #[.string d,.string e,.string f])).run Tryz.prog w=.ok (decide (a=d∧b=e∧c=f)) w:=by
 have u9:=Tryz.underlying9;have a9:=Tryz.isAgg9;have z9:=Tryz.sizeOf9;have hS:Tryz.prog.underlying 56=some (.struct (Tryz.prog.fieldsOf 56)):=by kernel_rfl
 have hp:Tryz.prog.stoodInHeld 56=false:=by kernel_rfl
 have:(Op.equalIn 10000 56 (.agg #[.string a,.string b,.string c]) (.agg #[.string d,.string e,.string f])).run Tryz.prog w=.ok (decide (a=d∧b=e∧c=f)) w:=by
  rw[show(10000:Nat)=9999+1 from rfl,run_equalIn_agg w 9999 56 _ _ hS hp];simp only[Program.fieldsOf,Tryz.underlying56];have h1:=zb a d;have h2:=zb b e;have h3:=zb c f;go_simp
  by_cases q1:a=d <;> by_cases q2:b=e <;> by_cases q3:c=f <;> simp_all
 exact this
theorem eqRt (a b c d e f:ByteArray) (W:World):(binOp .eql 56 (.agg #[.string a,.string b,.string c]) (.agg #[.string d,.string e,.string f])).run Tryz.prog W=.ok (.bool (decide (a=d∧b=e∧c=f))) W:=by
 simp[go_sem,binOp,eqRtE]
theorem zjw (a:Option Addr) (cc:Nat) (l:List CmdQ) (ho pr:ByteArray) (w:World) (hx:l.length≤maxLen) (hC:CmdsAt w a l) (hh0:ho.size≤maxLen) (hh:ho.size≤140737488355328) (hp0:pr.size≤maxLen) (hp:pr.size≤140737488355328) (hLz:Lz w) :
  Calls Tryz.prog 7 #[.slice a l.length cc,.string ho,.string pr] w fun e w'=>e=.returned (.bool true)∧Below w.heap.size w w':=by
 have MX:=zaa (fun (W:World) (hb:Below w.heap.size w W)=>Mx.later hLz hb);have LV:=zaa (fun (W:World) (hb:Below w.heap.size w W)=>zdi W (za MX W hb));have PL:=zaa (zdl a cc l w hx hC hLz);have SH:=zaa (fun (W:World)=>zea ⟨0,0,0,0,ho,pr,⟨#[]⟩,[]⟩ none 0 W (by simp) hh hp (by show ByteArray.size ⟨#[]⟩≤_;decide));have RQ:=zaa (fun (W:World)=>zl4 W ho pr hh hp);have DQ:=zaa (fun (W:World)=>zmk W ho pr hh hp);have HR:=zaa (fun (W:World)=>zb0 ho hh0 W);have PR:=zaa (fun (W:World)=>zbt pr hp0 W);unfold zam at SH;dsimp only at SH;clear hx hC hLz hh hp hh0 hp0;have bu:=zmf;go_enter Tryz.func7,Tryz.ntmps7
 go_wp2_with fail
 refine(za PL).mono ?_;rintro e V ⟨h,r,z,j,hj,rfl,P,R,B⟩;have BW:=zaa B;have PV:=zaa P;clear P R B PL;generalize hsm:zgu ⟨0,0,0,0,ho,pr,⟨#[]⟩,[]⟩=sm at *;clear hsm
 go_wp2_with fail
 refine(za SH _).mono ?_;rintro e U1 ⟨rfl,u1⟩;have BW:=zaa ((za BW).trans (u1.mono (za BW).size));have PV:=zaa ((za PV).later u1);clear u1 SH;cases sm with
 |false =>
  as_aux_lemma =>
  have LW:=zaa (za LV _ (za BW))
  go_wp2_with fail
  refine(za LW).mono ?_;rintro e U ⟨rfl,u⟩;have F:=zaa ((za BW).trans (u.mono (za BW).size));clear u LW
  go_wp2
  go_ret
  exact⟨rfl,za F⟩
 |true =>
 as_aux_lemma =>
 have LP:=zaa (zdj U1 ⟨#[113]⟩)
 go_wp2_with fail
 refine(za LP).mono ?_;rintro e U2 ⟨B,rfl,tg,u2⟩;rw[show zam (za5 ⟨#[113]⟩) (some ⟨B,0,none⟩) 1=.agg #[.int .i64 1,.int .i64 0,.int .i64 0,.int .i64 (-1),.string ⟨#[]⟩,.string ⟨#[]⟩,.string ⟨#[113]⟩,.slice (some ⟨B,0,none⟩) 1 1] from rfl];have BW:=zaa ((za BW).trans (u2.mono (za BW).size));have PV:=zaa ((za PV).later u2);have DB:=zaa ((za PV).do (by omega) (za5 ⟨#[113]⟩) (some ⟨B,0,none⟩) 1 (zmu tg) (za MX _ (za BW)));rw[show zam (za5 ⟨#[113]⟩) (some ⟨B,0,none⟩) 1=.agg #[.int .i64 1,.int .i64 0,.int .i64 0,.int .i64 (-1),.string ⟨#[]⟩,.string ⟨#[]⟩,.string ⟨#[113]⟩,.slice (some ⟨B,0,none⟩) 1 1] from rfl] at DB;clear tg u2 LP
 go_wp2_with fail
 refine(za DB).mono ?_;rintro e U3 ⟨rfl,p3,u3,_,x3,s3,cg3⟩;have BW:=zaa ((za BW).trans u3);have PV:=zaa p3;clear p3 u3 s3 cg3 DB;generalize doS (za5 ⟨#[113]⟩) none 0 z=rr at *;obtain⟨⟨er0,vr0⟩,z1⟩:=rr;dsimp only at PV ⊢;have CF:=zaa ((za PV).conf (by omega));have E1:=zaa (show ∀ k:CfH,zb1 z1.cf k=.agg #[.int .i64 z1.ver,.slice k.ra z1.rs.length k.rc,.slice k.pa z1.ps.length k.pc] from fun k=>by simp[zb1,Sm.cf]);simp only[za E1] at CF
 go_wp2_with fail
 refine(za CF).mono ?_;rintro e U4 ⟨⟨ra,rc,pa,pc⟩,rfl,cf,u4,_,_⟩;have BW:=zaa ((za BW).trans (u4.mono (za BW).size));have PV:=zaa ((za PV).later u4);have KR:=zaa (za PV).kr;have CF1:=zaa cf;clear cf u4 CF;generalize hnr1:z1.rs.length=nr at *;generalize hnp1:z1.ps.length=np at *;generalize hzv1:z1.ver=zv at *;have HNR:=zaa hnr1;have HNP:=zaa hnp1;have HZV:=zaa hzv1
 have SR1:=zaa (show nr≤64 from by
  have h3:=(za PV).cfs.rn;rw[show z1.cf.rs=z1.rs from rfl,hnr1] at h3
  exact h3)
 clear hnr1 hnp1 hzv1;have bD:=zaa (show Below U4.heap.size U4 (U4.alloc (.cells #[.int .i64 zv,.slice ra nr rc,.slice pa np pc] 45)) from(Below.refl _ _).alloc (Nat.le_refl _) _);have XD:=zaa (zad U4 (.cells #[.int .i64 zv,.slice ra nr rc,.slice pa np pc] 45));have BW:=zaa ((za BW).trans ((za bD).mono (za BW).size));have PV:=zaa ((za PV).later (za bD));have CF1:=zaa ((za CF1).later (za bD));have LR:=zaa (zfv (U4.alloc (.cells #[.int .i64 zv,.slice ra nr rc,.slice pa np pc] 45)) ho pr ⟨#[113]⟩)
 go_wp2_with fail
 generalize hD:U4.heap.size=D at *;generalize U4.alloc (.cells #[.int .i64 zv,.slice ra nr rc,.slice pa np pc] 45)=U5 at *;refine(za LR).mono ?_;rintro e U6 ⟨rfl,u6⟩;rw[show zam (zaw ho pr ⟨#[113]⟩) none 0=.agg #[.int .i64 3,.int .i64 0,.int .i64 0,.int .i64 (-1),.string ho,.string pr,.string ⟨#[113]⟩,.slice none 0 0] from rfl];have BW:=zaa ((za BW).trans (u6.mono (za BW).size));have PV:=zaa ((za PV).later u6);have CF1:=zaa ((za CF1).later u6);have XD:=zaa (zac u6 (za XD));have DB:=zaa ((za PV).do (by omega) (zaw ho pr ⟨#[113]⟩) none 0 (za RQ _) (za MX _ (za BW)));rw[show zam (zaw ho pr ⟨#[113]⟩) none 0=.agg #[.int .i64 3,.int .i64 0,.int .i64 0,.int .i64 (-1),.string ho,.string pr,.string ⟨#[113]⟩,.slice none 0 0] from rfl] at DB;have RP:=zaa (zl5 ho pr ⟨#[113]⟩ z1);clear u6 LR bD
 go_wp2_with fail
 refine(za DB).mono ?_;rintro e U7 ⟨rfl,p7,u7,_,x7,s7,cg7⟩;have BW:=zaa ((za BW).trans u7);have XD:=zaa (cg7.cells s7 (by decide) (za XD));have CF1:=zaa ((za CF1).chg s7 cg7);have PV:=zaa p7;clear p7 u7 s7 cg7 DB;generalize doS (zaw ho pr ⟨#[113]⟩) none 0 z1=rr at *;obtain⟨⟨er,vr⟩,z2⟩:=rr;dsimp only at PV RP ⊢;have bR:=zaa (show Below U7.heap.size U7 (U7.alloc (.cells #[.int .i64 er,.int .i64 vr] 38)) from(Below.refl _ _).alloc (Nat.le_refl _) _);have XR:=zaa (zad U7 (.cells #[.int .i64 er,.int .i64 vr] 38));have BW:=zaa ((za BW).trans ((za bR).mono (za BW).size));have XD:=zaa (zac (za bR) (za XD));have CF1:=zaa ((za CF1).later (za bR));have PV:=zaa ((za PV).later (za bR));have CF:=zaa ((za PV).conf (by omega));have E2:=zaa (show ∀ k:CfH,zb1 z2.cf k=.agg #[.int .i64 z2.ver,.slice k.ra z2.rs.length k.rc,.slice k.pa z2.ps.length k.pc] from fun k=>by simp[zb1,Sm.cf]);simp only[za E2] at CF
 go_wp2_with fail
 generalize hR:U7.heap.size=R at *;generalize U7.alloc (.cells #[.int .i64 er,.int .i64 vr] 38)=U8 at *;refine(za CF).mono ?_;rintro e U9 ⟨⟨ra2,rc2,pa2,pc2⟩,rfl,cf,u9,_,_⟩;have BW:=zaa ((za BW).trans (u9.mono (za BW).size));have PV:=zaa ((za PV).later u9);have KR2:=zaa (za PV).kr;have XD:=zaa (zac u9 (za XD));have XR:=zaa (zac u9 (za XR));have CF1:=zaa ((za CF1).later u9);have CF2:=zaa cf;clear cf u9 CF;generalize hnr2:z2.rs.length=nr2 at *;generalize hnp2:z2.ps.length=np2 at *;generalize hzv2:z2.ver=zv2 at *;have HNR2:=zaa hnr2;have HNP2:=zaa hnp2;have HZV2:=zaa hzv2;clear hnr2 hnp2 hzv2;have bF:=zaa (show Below U9.heap.size U9 (U9.alloc (.cells #[.int .i64 zv2,.slice ra2 nr2 rc2,.slice pa2 np2 pc2] 45)) from(Below.refl _ _).alloc (Nat.le_refl _) _);have XF:=zaa (zad U9 (.cells #[.int .i64 zv2,.slice ra2 nr2 rc2,.slice pa2 np2 pc2] 45));have BW:=zaa ((za BW).trans ((za bF).mono (za BW).size));have PV:=zaa ((za PV).later (za bF));have XD:=zaa (zac (za bF) (za XD));have XR:=zaa (zac (za bF) (za XR));have CF1:=zaa ((za CF1).later (za bF));have CF2:=zaa ((za CF2).later (za bF));have r0:=zab (za XR) 0 (.int .i64 er) rfl;rcases za RP with⟨he,hz,hn⟩|⟨he,h1,h2,hrs⟩
 ·as_aux_lemma =>
  clear RP;have hbe:(er==0)=false:=by simp[he]
  have LW:=zaa (za LV _ (za BW));have NP:=zaa (show er=14→¬ (zba ho=true∧zb2 pr=true) from fun e=>hn e (by decide));have HE:=zaa he;clear hn he;obtain rfl:nr2=nr:=by rw[← za HNR2,hz,za HNR]
  obtain rfl:np2=np:=by rw[← za HNP2,hz,za HNP]
  obtain rfl:zv2=zv:=by rw[← za HZV2,hz,za HZV]
  have CF1:=zaa (hz.symm ▸ za CF1);have HZ:=zaa hz;clear hz HNR HNP HZV HNR2 HNP2 HZV2
  go_wp2_with fail
  generalize hF:U9.heap.size=FD at *;generalize U9.alloc (.cells #[.int .i64 zv2,.slice ra2 nr2 rc2,.slice pa2 np2 pc2] 45)=W1 at *;refine(za LW).mono ?_;rintro e W2 ⟨rfl,w2⟩;have BW:=zaa ((za BW).trans (w2.mono (za BW).size));have XD:=zaa (zac w2 (za XD));have XR:=zaa (zac w2 (za XR));have XF:=zaa (zac w2 (za XF));have SC:=zaa (za3 ((za CF2).later w2) ((za CF1).later w2));rw[za E2,za E2] at SC;have d0:=zab (za XD) 0 _ rfl;have d1:=zab (za XD) 1 _ rfl;have d2:=zab (za XD) 2 _ rfl;have q0:=zab (za XF) 0 _ rfl;have q1:=zab (za XF) 1 _ rfl;have q2:=zab (za XF) 2 _ rfl;clear w2 LW r0
  go_wp2_with fail
  refine(za SC).mono ?_;rintro e W3 ⟨rfl,w3⟩;have BW:=zaa ((za BW).trans (w3.mono (za BW).size));have XR:=zaa (zac w3 (za XR));have r0:=zab (za XR) 0 (.int .i64 er) rfl;clear w3 SC d0 d1 d2 q0 q1 q2;by_cases h14:er=14
  ·as_aux_lemma =>
   have hb14:(er==14)=true:=by rw[h14];rfl
   have N2:=zaa (za NP h14);have HRW:=zaa (za HR W3);have H14:=zaa h14;clear h14;cases hh:zba ho with
   |false =>
    as_aux_lemma =>
    rw[hh] at HRW;clear N2 hh
    go_wp2_with fail
    refine(za HRW).mono ?_;rintro e W4 ⟨rfl,rfl⟩;clear HRW
    go_wp2
    go_ret
    exact⟨rfl,za BW⟩
   |true =>
    as_aux_lemma =>
    rw[hh] at HRW;have hpf:zb2 pr=false:=by
     cases hq:zb2 pr with
     |false=>rfl
     |true=>exact absurd ⟨hh,hq⟩ (za N2)
    have PRW:=zaa (za PR W3);rw[hpf] at PRW;clear N2 hh hpf
    go_wp2_with fail
    refine(za HRW).mono ?_;rintro e W4 ⟨rfl,rfl⟩;clear HRW
    go_wp2_with fail
    refine(za PRW).mono ?_;rintro e W5 ⟨rfl,rfl⟩;clear PRW
    go_wp2
    go_ret
    exact⟨rfl,za BW⟩
  ·as_aux_lemma =>
   have hb14:(er==14)=false:=by simp[h14]
   have hd14:decide (er=14)=false:=decide_eq_false h14;clear NP
   go_wp2
   go_ret
   exact⟨rfl,za BW⟩
 ·as_aux_lemma =>
  subst he;have HH1:=zaa h1;have HH2:=zaa h2;have HRS:=zaa hrs;have SR:=zaa (za PV).cfs.rn;have SR:Hid (nr2≤64):=by
   have h3:=za SR;rw[show z2.cf.rs=z2.rs from rfl,za HNR2] at h3;exact zaa h3
  have hnn:=za SR;have hnn1:=za SR1;have RT1:=zaa (za CF1).rts;have RT2:=zaa (za CF2).rts;have RT1:Hid (RtsAt _ ra z1.rs):=RT1;have RT2:Hid (RtsAt _ ra2 z2.rs):=RT2;have ASELF:=zaa (show(⟨ho,pr,⟨#[113]⟩⟩:Rt)∈z2.rs by rw[hrs];exact zh3 rpl _ _)
  have MEM:=zaa (show ∀ x∈z2.rs,rpl x≠(ho,pr)→x∈z1.rs from fun x hx hne=>by
   rw[hrs] at hx;rcases zdk rpl _ x z1.rs hx with rfl|hx
   ·exact absurd rfl hne
   ·exact hx)
  have KEY:=zaa (show ∀ x∈z2.rs,rpl x=(ho,pr)→x.l=⟨#[113]⟩ from fun x hx he=>by
   rw[(za KR2).same hx (za ASELF) he])
  have CNT:=zaa (show(z2.rs.filter (fun x=>decide (rpl x=(ho,pr)))).length=1 by
   rw[zlj rpl (ho,pr) z2.rs (za KR2),hrs];rw[show zap rpl (ho,pr) (zbk rpl ⟨ho,pr,⟨#[113]⟩⟩ z1.rs)=some ⟨ho,pr,⟨#[113]⟩⟩ from zd4 rpl ⟨ho,pr,⟨#[113]⟩⟩ z1.rs]
   rfl)
  have GET:=zaa (show(zap rpl (ho,pr) z2.rs).isSome by
   rw[hrs,show zap rpl (ho,pr) (zbk rpl ⟨ho,pr,⟨#[113]⟩⟩ z1.rs)=some ⟨ho,pr,⟨#[113]⟩⟩ from zd4 rpl ⟨ho,pr,⟨#[113]⟩⟩ z1.rs]
   rfl)
  clear RP h1 h2 hrs
  go_wp2_with fail
  generalize hF:U9.heap.size=FD at *;generalize U9.alloc (.cells #[.int .i64 zv2,.slice ra2 nr2 rc2,.slice pa2 np2 pc2] 45)=W1 at *;have KD:=zaa (show ∀ W:World,Below W1.heap.size W1 W→W.cell? ⟨D,1,none⟩=some (.slice ra nr rc)∧W.cell? ⟨FD,1,none⟩=some (.slice ra2 nr2 rc2) from fun W hb=>⟨zab (zac hb (za XD)) 1 _ rfl,zab (zac hb (za XF)) 1 _ rfl⟩);clear r0;go_loopw [13,14,15,16,17] (fun f i _ _ _ wr=>∃ t:Nat,t≤nr2∧i=.int .i64 (t:Int)∧f=.int .i64 (zma z2.rs (ho,pr) t:Int)∧Hid (Below W1.heap.size W1 wr)) (fun _ i _ _ _ _=>nr2 - (intOf i).toNat)
  case atStart=>exact⟨0,by omega,rfl,rfl,zaa (Below.refl _ _)⟩
  case round =>
   obtain⟨t,ht,rfl,rfl,HB⟩:=hrel;have f1:=(za KD _ (za HB)).2;by_cases htn:t<nr2
   ·as_aux_lemma =>
    have y0:(0:Int)≤(t:Int):=by omega
    have y1:(t:Int)<(nr2:Int):=by omega
    have htl:t<z2.rs.length:=by rw[za HNR2];exact htn
    obtain⟨b,off,rfl,q0,q1,q2⟩:=(za RT2).cell t htl;have p0:=cell_later (za HB) q0;have p1:=cell_later (za HB) q1;have p2:=cell_later (za HB) q2;have XM:=zaa (List.getElem_mem htl);have CS:=zaa (zli z2.rs (ho,pr) t htl);have CL:=znk z2.rs (ho,pr) t;generalize z2.rs[t]=x at *;obtain⟨xh,xp,xl⟩:=x;dsimp only at p0 p1 p2;clear q0 q1 q2;have bX:=zaa (show Below wr.heap.size wr (wr.alloc (.cells #[.string xh,.string xp,.string xl] 56)) from(Below.refl _ _).alloc (Nat.le_refl _) _);have XX:=zaa (zad wr (.cells #[.string xh,.string xp,.string xl] 56));have x0:=zab (za XX) 0 (.string xh) rfl;have x1:=zab (za XX) 1 (.string xp) rfl;have x2:=zab (za XX) 2 (.string xl) rfl;have s0:=zb xh ho;have s1:=zb xp pr;have BX:=zaa ((za HB).trans ((za bX).mono (za HB).size));generalize hcn:zma z2.rs (ho,pr) t=cn at *;clear hcn;by_cases hq:xh=ho∧xp=pr
    ·as_aux_lemma =>
     obtain⟨e1,e2⟩:=hq;rw[decide_eq_true e1] at s0;rw[decide_eq_true e2] at s1;obtain rfl:xl=⟨#[113]⟩:=za KEY _ (za XM) (by rw[← e1,← e2];rfl);have C2:=zaa (show zma z2.rs (ho,pr) (t+1)=cn+1 by rw[za CS,if_pos (by rw[← e1,← e2];rfl)]);have hwr:IntKind.i64.wrap ((cn:Int)+1)=((cn+1:Nat):Int):=by rw[IntKind.wrap_i64];omega
     clear e1 e2 CS
     go_wp2
     exact⟨⟨t+1,by omega,by go_num,by rw[za C2];rfl,BX⟩,by simp[intOf];omega⟩
    ·as_aux_lemma =>
     have XIN:=zaa (za MEM _ (za XM) (fun e=>hq ⟨congrArg Prod.fst e,congrArg Prod.snd e⟩));have C2:=zaa (show zma z2.rs (ho,pr) (t+1)=cn by rw[za CS,if_neg (fun e=>hq ⟨congrArg Prod.fst e,congrArg Prod.snd e⟩)];rfl);have hd:decide (xh=ho∧xp=pr)=false:=decide_eq_false hq;clear hd;by_cases e1:xh=ho
     ·as_aux_lemma =>
      have e2:¬ xp=pr:=fun e=>hq ⟨e1,e⟩;rw[decide_eq_true e1] at s0;rw[decide_eq_false e2] at s1;clear e1 e2 hq CS
      go_wp2_with fail
      generalize hX:wr.heap.size=X at *;generalize wr.alloc (.cells #[.string xh,.string xp,.string xl] 56)=X1 at *;have KX:=zaa (show ∀ W:World,Below X1.heap.size X1 W→W.cell? ⟨X,0,none⟩=some (.string xh)∧W.cell? ⟨X,1,none⟩=some (.string xp)∧W.cell? ⟨X,2,none⟩=some (.string xl) from fun W hb=>⟨zab (zac hb (za XX)) 0 _ rfl,zab (zac hb (za XX)) 1 _ rfl,zab (zac hb (za XX)) 2 _ rfl⟩);clear p0 p1 p2 x0 x1 x2 s0 s1 bX XX;go_loopw [16,17] (fun kp i wr=>∃ (u:Nat) (bb:Bool),u≤nr∧i=.int .i64 (u:Int)∧kp=.bool bb∧Hid (thC bb (∃ m,∃ hm:m<nr,m<u∧z1.rs[m]'(by rw[za HNR];exact hm)=⟨xh,xp,xl⟩))∧Hid (Below X1.heap.size X1 wr)) (fun _ i _=>nr - (intOf i).toNat)
      case atStart=>exact⟨0,false,by omega,rfl,rfl,zaa (by simp[thC]),zaa (Below.refl _ _)⟩
      case round =>
       obtain⟨u,bb,hu,rfl,rfl,HT,HU⟩:=hrel;have HV:=zaa ((za BX).trans ((za HU).mono (za BX).size));have g1:=(za KD _ (za HV)).1;by_cases hun:u<nr
       ·as_aux_lemma =>
        have y2:(0:Int)≤(u:Int):=by omega
        have y3:(u:Int)<(nr:Int):=by omega
        have hul:u<z1.rs.length:=by rw[za HNR];exact hun
        have uZ:=zaa ((za HU).drew);have vZ:=zaa ((za HV).drew);cases bb with
        |true =>
         as_aux_lemma =>
         have HT2:=zaa (show thC true (∃ m,∃ hm:m<nr,m<u+1∧z1.rs[m]'(by rw[za HNR];exact hm)=⟨xh,xp,xl⟩) from by
          obtain⟨m,hm,h1,h2⟩:=(za HT).1 rfl
          exact⟨fun _=>⟨m,hm,by omega,h2⟩,fun _=>rfl⟩)
         go_wp2_with fail
         refine wp_region_held_drew (S:=fun W=>True) (by kernel_rfl) ?_ (fun hHeld=>?_)
         ·try dsimp only
          all_goals trivial
         refine hT 0 ?_;refine hT 1 ?_;refine hN 2 ?_;refine hN 3 ?_;refine hN 4 ?_;refine hN 5 ?_;refine hN 6 ?_;refine hN 7 ?_;refine hN 8 ?_;refine hT 9 ?_;refine hT 10 ?_;refine wpAnyH_done (by kernel_rfl) ?_ _
         go_wp2
         exact⟨⟨u+1,true,by omega,by go_num,rfl,HT2,uZ⟩,by simp[intOf];omega⟩
        |false =>
         as_aux_lemma =>
         obtain⟨b3,o3,rfl,q0,q1,q2⟩:=(za RT1).cell u hul
         have HT2:=zaa (show thC (decide (z1.rs[u].h=xh∧z1.rs[u].p=xp∧z1.rs[u].l=xl)) (∃ m,∃ hm:m<nr,m<u+1∧z1.rs[m]'(by rw[za HNR];exact hm)=⟨xh,xp,xl⟩) from by
          constructor
          ·intro e;obtain⟨e1,e2,e3⟩:=of_decide_eq_true e;refine⟨u,hun,by omega,?_⟩;rw[← e1,← e2,← e3]
          ·rintro⟨m,hm,h1,h2⟩;by_cases hmu:m=u
           ·subst hmu;exact decide_eq_true ⟨congrArg Rt.h h2,congrArg Rt.p h2,congrArg Rt.l h2⟩
           ·have:=(za HT).2 ⟨m,hm,by omega,h2⟩
            cases this)
         have EQ:=eqRt z1.rs[u].h z1.rs[u].p z1.rs[u].l xh xp xl;have KS:=zaa (show wr.drew.cell? ⟨D,1,none⟩=some (.slice (some ⟨b3,o3,none⟩) nr rc)∧wr.drew.cell? ⟨b3,o3+u*3,none⟩=some (.string z1.rs[u].h)∧wr.drew.cell? ⟨b3,o3+u*3+1,none⟩=some (.string z1.rs[u].p)∧wr.drew.cell? ⟨b3,o3+u*3+2,none⟩=some (.string z1.rs[u].l)∧wr.drew.cell? ⟨X,0,none⟩=some (.string xh)∧wr.drew.cell? ⟨X,1,none⟩=some (.string xp)∧wr.drew.cell? ⟨X,2,none⟩=some (.string xl) from⟨(za KD _ (za vZ)).1,cell_later (za vZ) q0,cell_later (za vZ) q1,cell_later (za vZ) q2,za KX _ (za uZ)⟩);clear q0 q1 q2;generalize z1.rs[u]=y at *;obtain⟨yh,yp,yl⟩:=y;dsimp only at EQ KS HT2;generalize hbb:decide (yh=xh∧yp=xp∧yl=xl)=b9 at *;clear hbb
         go_wp2_with fail
         refine wp_region_held_drew (S:=fun W=>W.cell? ⟨D,1,none⟩=some (.slice (some ⟨b3,o3,none⟩) nr rc)∧W.cell? ⟨b3,o3+u*3,none⟩=some (.string yh)∧W.cell? ⟨b3,o3+u*3+1,none⟩=some (.string yp)∧W.cell? ⟨b3,o3+u*3+2,none⟩=some (.string yl)∧W.cell? ⟨X,0,none⟩=some (.string xh)∧W.cell? ⟨X,1,none⟩=some (.string xp)∧W.cell? ⟨X,2,none⟩=some (.string xl)) (by kernel_rfl) ?_ (fun hHeld=>?_)
         ·try dsimp only
          exact za KS
         refine hT 0 ?_;refine hT 1 ?_;refine hT 2 ?_;refine hT 3 ?_;refine hT 4 ?_;refine hT 5 ?_;refine hT 6 ?_;refine hT 7 ?_;refine hT 8 ?_;refine hT 9 ?_;refine hT 10 ?_;refine wpAnyH_done (by kernel_rfl) ?_ _
         go_wp2
         exact⟨⟨u+1,b9,by omega,by go_num,rfl,HT2,uZ⟩,by simp[intOf];omega⟩
       ·as_aux_lemma =>
        have y3:¬ (u:Int)<(nr:Int):=by omega
        have hbt:bb=true:=(za HT).2 (by
         obtain⟨m,hm,e⟩:=List.getElem_of_mem (za XIN);have hm2:m<nr:=by rw[← za HNR];exact hm
         exact⟨m,hm2,by omega,e⟩)
        subst hbt
        go_wp2
        exact⟨⟨t+1,by omega,by go_num,by rw[za C2],HV⟩,by simp[intOf];omega⟩
     ·as_aux_lemma =>
      rw[decide_eq_false e1] at s0;clear e1 hq CS
      go_wp2_with fail
      generalize hX:wr.heap.size=X at *;generalize wr.alloc (.cells #[.string xh,.string xp,.string xl] 56)=X1 at *;have KX:=zaa (show ∀ W:World,Below X1.heap.size X1 W→W.cell? ⟨X,0,none⟩=some (.string xh)∧W.cell? ⟨X,1,none⟩=some (.string xp)∧W.cell? ⟨X,2,none⟩=some (.string xl) from fun W hb=>⟨zab (zac hb (za XX)) 0 _ rfl,zab (zac hb (za XX)) 1 _ rfl,zab (zac hb (za XX)) 2 _ rfl⟩);clear p0 p1 p2 x0 x1 x2 s0 s1 bX XX;go_loopw [16,17] (fun kp i wr=>∃ (u:Nat) (bb:Bool),u≤nr∧i=.int .i64 (u:Int)∧kp=.bool bb∧Hid (thC bb (∃ m,∃ hm:m<nr,m<u∧z1.rs[m]'(by rw[za HNR];exact hm)=⟨xh,xp,xl⟩))∧Hid (Below X1.heap.size X1 wr)) (fun _ i _=>nr - (intOf i).toNat)
      case atStart=>exact⟨0,false,by omega,rfl,rfl,zaa (by simp[thC]),zaa (Below.refl _ _)⟩
      case round =>
       obtain⟨u,bb,hu,rfl,rfl,HT,HU⟩:=hrel;have HV:=zaa ((za BX).trans ((za HU).mono (za BX).size));have g1:=(za KD _ (za HV)).1;by_cases hun:u<nr
       ·as_aux_lemma =>
        have y2:(0:Int)≤(u:Int):=by omega
        have y3:(u:Int)<(nr:Int):=by omega
        have hul:u<z1.rs.length:=by rw[za HNR];exact hun
        have uZ:=zaa ((za HU).drew);have vZ:=zaa ((za HV).drew);cases bb with
        |true =>
         as_aux_lemma =>
         have HT2:=zaa (show thC true (∃ m,∃ hm:m<nr,m<u+1∧z1.rs[m]'(by rw[za HNR];exact hm)=⟨xh,xp,xl⟩) from by
          obtain⟨m,hm,h1,h2⟩:=(za HT).1 rfl
          exact⟨fun _=>⟨m,hm,by omega,h2⟩,fun _=>rfl⟩)
         go_wp2_with fail
         refine wp_region_held_drew (S:=fun W=>True) (by kernel_rfl) ?_ (fun hHeld=>?_)
         ·try dsimp only
          all_goals trivial
         refine hT 0 ?_;refine hT 1 ?_;refine hN 2 ?_;refine hN 3 ?_;refine hN 4 ?_;refine hN 5 ?_;refine hN 6 ?_;refine hN 7 ?_;refine hN 8 ?_;refine hT 9 ?_;refine hT 10 ?_;refine wpAnyH_done (by kernel_rfl) ?_ _
         go_wp2
         exact⟨⟨u+1,true,by omega,by go_num,rfl,HT2,uZ⟩,by simp[intOf];omega⟩
        |false =>
         as_aux_lemma =>
         obtain⟨b3,o3,rfl,q0,q1,q2⟩:=(za RT1).cell u hul
         have HT2:=zaa (show thC (decide (z1.rs[u].h=xh∧z1.rs[u].p=xp∧z1.rs[u].l=xl)) (∃ m,∃ hm:m<nr,m<u+1∧z1.rs[m]'(by rw[za HNR];exact hm)=⟨xh,xp,xl⟩) from by
          constructor
          ·intro e;obtain⟨e1,e2,e3⟩:=of_decide_eq_true e;refine⟨u,hun,by omega,?_⟩;rw[← e1,← e2,← e3]
          ·rintro⟨m,hm,h1,h2⟩;by_cases hmu:m=u
           ·subst hmu;exact decide_eq_true ⟨congrArg Rt.h h2,congrArg Rt.p h2,congrArg Rt.l h2⟩
           ·have:=(za HT).2 ⟨m,hm,by omega,h2⟩
            cases this)
         have EQ:=eqRt z1.rs[u].h z1.rs[u].p z1.rs[u].l xh xp xl;have KS:=zaa (show wr.drew.cell? ⟨D,1,none⟩=some (.slice (some ⟨b3,o3,none⟩) nr rc)∧wr.drew.cell? ⟨b3,o3+u*3,none⟩=some (.string z1.rs[u].h)∧wr.drew.cell? ⟨b3,o3+u*3+1,none⟩=some (.string z1.rs[u].p)∧wr.drew.cell? ⟨b3,o3+u*3+2,none⟩=some (.string z1.rs[u].l)∧wr.drew.cell? ⟨X,0,none⟩=some (.string xh)∧wr.drew.cell? ⟨X,1,none⟩=some (.string xp)∧wr.drew.cell? ⟨X,2,none⟩=some (.string xl) from⟨(za KD _ (za vZ)).1,cell_later (za vZ) q0,cell_later (za vZ) q1,cell_later (za vZ) q2,za KX _ (za uZ)⟩);clear q0 q1 q2;generalize z1.rs[u]=y at *;obtain⟨yh,yp,yl⟩:=y;dsimp only at EQ KS HT2;generalize hbb:decide (yh=xh∧yp=xp∧yl=xl)=b9 at *;clear hbb
         go_wp2_with fail
         refine wp_region_held_drew (S:=fun W=>W.cell? ⟨D,1,none⟩=some (.slice (some ⟨b3,o3,none⟩) nr rc)∧W.cell? ⟨b3,o3+u*3,none⟩=some (.string yh)∧W.cell? ⟨b3,o3+u*3+1,none⟩=some (.string yp)∧W.cell? ⟨b3,o3+u*3+2,none⟩=some (.string yl)∧W.cell? ⟨X,0,none⟩=some (.string xh)∧W.cell? ⟨X,1,none⟩=some (.string xp)∧W.cell? ⟨X,2,none⟩=some (.string xl)) (by kernel_rfl) ?_ (fun hHeld=>?_)
         ·try dsimp only
          exact za KS
         refine hT 0 ?_;refine hT 1 ?_;refine hT 2 ?_;refine hT 3 ?_;refine hT 4 ?_;refine hT 5 ?_;refine hT 6 ?_;refine hT 7 ?_;refine hT 8 ?_;refine hT 9 ?_;refine hT 10 ?_;refine wpAnyH_done (by kernel_rfl) ?_ _
         go_wp2
         exact⟨⟨u+1,b9,by omega,by go_num,rfl,HT2,uZ⟩,by simp[intOf];omega⟩
       ·as_aux_lemma =>
        have y3:¬ (u:Int)<(nr:Int):=by omega
        have hbt:bb=true:=(za HT).2 (by
         obtain⟨m,hm,e⟩:=List.getElem_of_mem (za XIN);have hm2:m<nr:=by rw[← za HNR];exact hm
         exact⟨m,hm2,by omega,e⟩)
        subst hbt
        go_wp2
        exact⟨⟨t+1,by omega,by go_num,by rw[za C2],HV⟩,by simp[intOf];omega⟩
   ·as_aux_lemma =>
    have y1:¬ (t:Int)<(nr2:Int):=by omega
    have hc1:zma z2.rs (ho,pr) t=1:=by
     unfold zma;rw[List.take_of_length_le (by rw[za HNR2];omega)];exact za CNT
    rw[hc1];have BX:=zaa ((za BW).trans ((za HB).mono (za BW).size));have PX:=zaa ((za PV).later (za HB));have D1:=zaa ((za PX).do (by omega) (zbo ho pr) none 0 (za DQ _) (za MX _ (za BX)));rw[show zam (zbo ho pr) none 0=.agg #[.int .i64 4,.int .i64 0,.int .i64 0,.int .i64 (-1),.string ho,.string pr,.string ⟨#[]⟩,.slice none 0 0] from rfl] at D1;obtain⟨dy1,dy2⟩:=zml (za HH1) (za HH2) (za GET);have DN:=zaa (znn (z:=(doS (zbo ho pr) none 0 z2).2) (za HH1) (za HH2) (by rw[dy2];exact zly rpl (ho,pr) z2.rs))
    have LEN:=zaa (show ∀ z3:Sm,z3.rs=(doS (zbo ho pr) none 0 z2).2.rs→z3.rs.length+1=nr2 from fun z3 e=>by
     have h1:=zj8 rpl (ho,pr) z2.rs;rw[za CNT,za HNR2] at h1;rw[e,dy2]
     exact h1)
    have XF2:=zaa (zac (za HB) (za XF));have bu2:=zme ho pr;clear dy2 hc1;generalize doS (zbo ho pr) none 0 z2=rr at *;obtain⟨⟨e8,v8⟩,z3⟩:=rr;dsimp only at *;subst dy1
    go_wp2_with fail
    refine(za D1).mono ?_;rintro e Y1 ⟨rfl,p1,u1,_,x1,s1,cg1⟩;have BX:=zaa ((za BX).trans u1);have XF2:=zaa (cg1.cells s1 (by decide) (za XF2));have PX:=zaa p1;clear p1 u1 s1 cg1 D1;have bT:=zaa (show Below Y1.heap.size Y1 (Y1.alloc (.cells #[.int .i64 0,.int .i64 v8] 38)) from(Below.refl _ _).alloc (Nat.le_refl _) _);have XT:=zaa (zad Y1 (.cells #[.int .i64 0,.int .i64 v8] 38));have BX:=zaa ((za BX).trans ((za bT).mono (za BX).size));have XF2:=zaa (zac (za bT) (za XF2));have PX:=zaa ((za PX).later (za bT));have D2:=zaa ((za PX).do (by omega) (zbo ho pr) none 0 (za DQ _) (za MX _ (za BX)));rw[show zam (zbo ho pr) none 0=.agg #[.int .i64 4,.int .i64 0,.int .i64 0,.int .i64 (-1),.string ho,.string pr,.string ⟨#[]⟩,.slice none 0 0] from rfl] at D2;obtain⟨dn1,dn2⟩:=za DN;have LEN2:=zaa (za LEN _ dn2);clear DN LEN dn2;generalize doS (zbo ho pr) none 0 z3=rr at *;obtain⟨⟨e9,v9⟩,z4⟩:=rr;dsimp only at *;subst dn1
    go_wp2_with fail
    generalize hTD:Y1.heap.size=T at *;generalize Y1.alloc (.cells #[.int .i64 0,.int .i64 v8] 38)=Y2 at *;refine(za D2).mono ?_;rintro e Y3 ⟨rfl,p3,u3,_,x3,s3,cg3⟩;have BX:=zaa ((za BX).trans u3);have XF2:=zaa (cg3.cells s3 (by decide) (za XF2));have XT:=zaa (cg3.cells s3 (by decide) (za XT));have PX:=zaa p3;clear p3 u3 s3 cg3 D2;have bS:=zaa (show Below Y3.heap.size Y3 (Y3.alloc (.cells #[.int .i64 8,.int .i64 v9] 38)) from(Below.refl _ _).alloc (Nat.le_refl _) _);have XS:=zaa (zad Y3 (.cells #[.int .i64 8,.int .i64 v9] 38));have BX:=zaa ((za BX).trans ((za bS).mono (za BX).size));have XF2:=zaa (zac (za bS) (za XF2));have XT:=zaa (zac (za bS) (za XT));have PX:=zaa ((za PX).later (za bS));have E4:=zaa (show ∀ k:CfH,zb1 z4.cf k=.agg #[.int .i64 z4.ver,.slice k.ra z4.rs.length k.rc,.slice k.pa z4.ps.length k.pc] from fun k=>by simp[zb1,Sm.cf]);have CF4:=zaa (fun (W:World) (p:Po8 (j+1+1+1+1) w.heap.size W h z4)=>p.conf (by omega));simp only[za E4] at CF4;have hl4:=za LEN2;obtain⟨n4,hn4⟩:∃ n:Nat,z4.rs.length=n:=⟨_,rfl⟩
    rw[hn4] at CF4 hl4;have hwr:IntKind.i64.wrap ((nr2:Int) - 1)=(n4:Int):=by rw[IntKind.wrap_i64];omega
    have fl:=zno;clear E4 hn4 hl4 LEN2
    go_wp2_with fail
    generalize hS:Y3.heap.size=SS at *;generalize Y3.alloc (.cells #[.int .i64 8,.int .i64 v9] 38)=Y4 at *;have KF:=zaa (show ∀ W:World,Below Y4.heap.size Y4 W→W.cell? ⟨T,0,none⟩=some (.int .i64 0)∧W.cell? ⟨SS,0,none⟩=some (.int .i64 8)∧W.cell? ⟨FD,1,none⟩=some (.slice ra2 nr2 rc2) from fun W hb=>⟨zab (zac hb (za XT)) 0 _ rfl,zab (zac hb (za XS)) 0 _ rfl,zab (zac hb (za XF2)) 1 _ rfl⟩);have bZ:=zaa (show Below Y4.heap.size Y4 Y4.drew from(Below.refl _ _).drew);have KB:=zaa (za KF _ (za bZ));have LW:=zaa (za LV _ ((za BX).trans ((za bZ).mono (za BX).size)));refine wp_region_held_drew (S:=fun W=>W.cell? ⟨T,0,none⟩=some (.int .i64 0)∧W.cell? ⟨SS,0,none⟩=some (.int .i64 8)∧W.cell? ⟨FD,1,none⟩=some (.slice ra2 nr2 rc2)) (by kernel_rfl) ?_ (fun hHeld=>?_)
    ·try dsimp only
     first|exact za K2|exact za K1|exact za KB
    refine hO 0 (fun K hK=>?_);go_simp
    first
     |(go_at_call 13
       refine(za LW).mono ?_;rintro e Y5 ⟨rfl,u5⟩;have b5:=zaa ((za bZ).trans (u5.mono (za bZ).size));have K1:=zaa (za KF _ (za b5));have C4:=zaa (za CF4 _ ((za PX).later (za b5)))
       clear u5)
     |(go_at_call 19
       refine(za C4).mono ?_;rintro e Y6 ⟨⟨ra4,rc4,pa4,pc4⟩,rfl,cf4,u6,_,_⟩;have b6:=zaa ((za b5).trans (u6.mono (za b5).size));have K2:=zaa (za KF _ (za b6))
       clear u6 cf4)
    go_wp2_with fail
    refine hK.out _ _ ?_ (fun hHeld=>?_)
    ·try dsimp only
     first|exact za K2|exact za K1|exact za KB
    clear hK K;refine hP ?_;refine hT 1 ?_;refine hT 2 ?_;refine hT 3 ?_;refine hT 4 ?_;refine hT 5 ?_;refine hT 6 ?_;refine hT 7 ?_;refine hT 8 ?_;refine hT 9 ?_;refine hT 10 ?_;refine hT 11 ?_;refine hT 12 ?_;refine hT 13 ?_;refine hT 14 ?_;refine hT 15 ?_;refine hT 16 ?_;refine hT 20 ?_;refine hT 21 ?_;refine hT 22 ?_;refine hT 23 ?_;refine hO 17 (fun K hK=>?_);go_simp
    first
     |(go_at_call 13
       refine(za LW).mono ?_;rintro e Y5 ⟨rfl,u5⟩;have b5:=zaa ((za bZ).trans (u5.mono (za bZ).size));have K1:=zaa (za KF _ (za b5));have C4:=zaa (za CF4 _ ((za PX).later (za b5)))
       clear u5)
     |(go_at_call 19
       refine(za C4).mono ?_;rintro e Y6 ⟨⟨ra4,rc4,pa4,pc4⟩,rfl,cf4,u6,_,_⟩;have b6:=zaa ((za b5).trans (u6.mono (za b5).size));have K2:=zaa (za KF _ (za b6))
       clear u6 cf4)
    go_wp2_with fail
    refine hK.out _ _ ?_ (fun hHeld=>?_)
    ·try dsimp only
     first|exact za K2|exact za K1|exact za KB
    clear hK K;refine hP ?_;refine hT 18 ?_;refine hT 19 ?_;refine hT 24 ?_;refine hT 25 ?_;refine hT 26 ?_;refine wpAnyH_done (by kernel_rfl) ?_ _;have F:=zaa ((za BX).trans ((za b6).mono (za BX).size))
    go_wp2
    go_ret
    exact⟨rfl,za F⟩
end Go.Proofs.YtjcjleaicjhpeaaGreatDoor
