/- Conf: a client's command that is done again: the walk. -/
import Derived.Test.YtjcjleaicjhpeaaGreatDoorB31
import Derived.Test.YtjcjleaicjhpeaaGreatDoorB28
import Derived.Test.YtjcjleaicjhpeaaGreatDoorB20
import Derived.Deep.RegionHeld3
set_option linter.unusedVariables false
set_option maxRecDepth 20000
set_option maxHeartbeats 16000000
namespace Go.Proofs.YtjcjleaicjhpeaaGreatDoor
open Go.ChangeShapes Go.WideShapes Go.ChangeAt Go.RowKit
theorem Po8.aside {j b:Nat} {w w':World} {h:StH} {z:Sm} (p:Po8 j b w h z) {r:Nat} {cs:Array Value} {T:TypeId} (hg:w.grownBy w' (some r)) (hr:w.heap[r]? = some (.cells cs T (0,0))) (hT:T≠79) (hcs:∀ (k:Nat) (t:ByteArray),cs[k]?≠some (Value.string t)):Po8 j b w' h z:=by
 obtain⟨x,h1,h2⟩:=p.ex;exact⟨⟨x,h1.aside hg hr hcs (fun e=>(h1.notCells hT hr).2.1 e.symm),h2⟩,p.nw⟩
theorem zms {w:World} {B:Nat} (h:TgsAt w (some ⟨B,0,none⟩) (za5 ⟨#[98]⟩).ts):CmdAt w (za5 ⟨#[98]⟩) (some ⟨B,0,none⟩) 1:=⟨h,by simp[za5];decide,by decide,by decide,by decide,⟨by simp[za5,maxLen],by simp[za5]⟩,by simp,by simp[za5],by simp[za5],by simp[za5],by simp[za5]⟩
theorem zky (a:Option Addr) (cc:Nat) (l:List CmdQ) (c:Cmd) (q:Option Addr×Nat) (n:Nat) (w:World) (hx:l.length≤maxLen) (hC:CmdsAt w a l) (hc:CmdAt w c q.1 q.2) (hn:n<256) (hLz:Lz w) :
  Calls Tryz.prog 4 #[.slice a l.length cc,zam c q.1 q.2,.int .u8 (n:Int)] w fun e w'=>e=.returned (.bool true)∧Below w.heap.size w w':=by
 obtain⟨ta,tc⟩:=q;dsimp only at hc;have MX:=zaa (fun (W:World) (hb:Below w.heap.size w W)=>Mx.later hLz hb);have HCA:=zaa hc;have LV:=zaa (fun (W:World) (hb:Below w.heap.size w W)=>zdi W (za MX W hb));have CS:=zaa (fun (hk:zak c=0)=>(zbi hk).1);unfold zam;have T0:=zaa (fun (z:Sm) (h1:zak c=0) (h2:c.cli≠0) (h3:c.seq<(zbg c z).seq)=>zm2 h1 h2 h3);have T1:=zaa (fun (z:Sm) (h1:zak c=0) (h2:c.cli≠0) (h3:¬ c.seq<(zbg c z).seq)=>znz h1 h2 h3);have T2:=zaa (fun (z:Sm) (r:Int×Int) (h1:zak c=0) (h2:c.cli≠0) (t:zm c r z)=>zl9 h1 h2 t);have EC:=zaa (show ∀ (A:Option Addr) (k:Nat),zam c A k=zam c A k from fun _ _=>rfl);have b1:=zaa (show Below w.heap.size w (w.alloc (.cells (zal c ta tc) 33)) from(Below.refl _ _).alloc (Nat.le_refl _) _);have XC:=zaa (zad w (.cells (zal c ta tc) 33));have PL:=zaa (zdl a cc l _ hx (hC.later (za b1)) (za MX _ (za b1)));have SH:=zaa (fun (W:World)=>zea c ta tc W hc.tn.1 hc.th hc.tp hc.tl);have CK:=zaa (fun (W:World) (hb:Below w.heap.size w W)=>zgb c ta tc W (hc.later hb) (za MX W hb));have PD:=zaa (fun (W:World) (j:Nat) (b:Nat) (h:StH) (z:Sm) (hj:j≤800) (p:Po8 j b W h z) (hb:Below w.heap.size w W)=>p.do hj c ta tc (hc.later hb) (za MX W hb));have hic:=hc.ic;unfold zam at SH CK PD;obtain⟨act,cli,seq,exp,host,pre,pool,ts⟩:=c;dsimp only at *;clear hx hC hLz hc;unfold zal at *;dsimp only at *;go_enter Tryz.func4,Tryz.ntmps4
 go_wp2_with fail
 have LQ:=zaa (show w.heap.size<(w.alloc (.cells #[.int .i64 act,.int .i64 cli,.int .i64 seq,.int .i64 exp,.string host,.string pre,.string pool,.slice ta ts.length tc] 33)).heap.size from(Array.getElem?_eq_some_iff.1 (za XC)).1);generalize w.alloc (.cells #[.int .i64 act,.int .i64 cli,.int .i64 seq,.int .i64 exp,.string host,.string pre,.string pool,.slice ta ts.length tc] 33)=W1 at *;refine(za PL).mono ?_;rintro e V ⟨h,r,z,j,hj,rfl,P,R,B⟩;have BW:=zaa ((za b1).trans (B.mono (by have:=za LQ;omega)));have KB:=zaa B;have KC:=zaa (zac B (za XC));have PV:=zaa P;clear P R B PL XC b1;have k0:=zab (za KC) 0 (.int .i64 act) rfl;have k1:=zab (za KC) 1 (.int .i64 cli) rfl;have k2:=zab (za KC) 2 (.int .i64 seq) rfl;have k3:=zab (za KC) 3 (.int .i64 exp) rfl;have k4:=zab (za KC) 4 (.string host) rfl;have k5:=zab (za KC) 5 (.string pre) rfl;have k6:=zab (za KC) 6 (.string pool) rfl;have k7:=zab (za KC) 7 (.slice ta ts.length tc) rfl;by_cases hs:zgu ⟨act,cli,seq,exp,host,pre,pool,ts⟩=true
 ·rw[hs] at SH
  go_wp2_with fail
  refine(za SH _).mono ?_;rintro e U1 ⟨rfl,u1⟩;have BW:=zaa ((za BW).trans (u1.mono (by have:=(za BW).size;omega)));have KC:=zaa (zac u1 (za KC));have PV:=zaa ((za PV).later u1);clear u1 SH KB;clear k0 k1 k2 k3 k4 k5 k6 k7;have k0:=zab (za KC) 0 (.int .i64 act) rfl;have k1:=zab (za KC) 1 (.int .i64 cli) rfl;have k2:=zab (za KC) 2 (.int .i64 seq) rfl;have k3:=zab (za KC) 3 (.int .i64 exp) rfl;have k4:=zab (za KC) 4 (.string host) rfl;have k5:=zab (za KC) 5 (.string pre) rfl;have k6:=zab (za KC) 6 (.string pool) rfl;have k7:=zab (za KC) 7 (.slice ta ts.length tc) rfl;have CKW:=zaa (za CK _ (za BW));have KB:=KC;generalize hck:zak ⟨act,cli,seq,exp,host,pre,pool,ts⟩=ck at *
  go_wp2_with fail
  refine(za CKW).mono ?_;rintro e U2 ⟨rfl,u2⟩;have BW:=zaa ((za BW).trans (u2.mono (by have:=(za BW).size;omega)));have KC:=zaa (zac u2 (za KC));have PV:=zaa ((za PV).later u2);clear u2 CKW CK;clear k0 k1 k2 k3 k4 k5 k6 k7;have k0:=zab (za KC) 0 (.int .i64 act) rfl;have k1:=zab (za KC) 1 (.int .i64 cli) rfl;have k2:=zab (za KC) 2 (.int .i64 seq) rfl;have k3:=zab (za KC) 3 (.int .i64 exp) rfl;have k4:=zab (za KC) 4 (.string host) rfl;have k5:=zab (za KC) 5 (.string pre) rfl;have k6:=zab (za KC) 6 (.string pool) rfl;have k7:=zab (za KC) 7 (.slice ta ts.length tc) rfl;by_cases h0:ck=0
  ·by_cases hcl:cli=0
   ·as_aux_lemma =>
    subst hcl;subst h0;have LW:=zaa (za LV _ (za BW));clear KC KB
    go_wp2_with fail
    refine(za LW).mono ?_;rintro e U ⟨rfl,u⟩;have F:=zaa ((za BW).trans (u.mono (za BW).size));clear u LW
    go_wp2
    go_ret
    exact⟨rfl,za F⟩
   ·as_aux_lemma =>
    subst h0;have hbe:(cli==0)=false:=by simp[hcl]
    have SN:=zaa (show Calls _ _ _ _ _ from(za PV).seen cli hic);rw[show(zap lid cli z.cl).getD ⟨cli,0,0,0⟩=zbg ⟨act,cli,seq,exp,host,pre,pool,ts⟩ z from rfl] at SN;have T0z:=zaa (za T0 z rfl hcl);have T1z:=zaa (za T1 z rfl hcl);have T2z:=zaa (fun (z2:Sm) (r:Int×Int) (t:zm ⟨act,cli,seq,exp,host,pre,pool,ts⟩ r z2)=>za T2 z2 r rfl hcl t)
    have SE:=zaa (show 1≤seq∧seq≤1099511627776 from by
     have h1:=za CS rfl;unfold za4 at h1;simp only[Bool.and_eq_true,decide_eq_true_eq] at h1;have h2:=h1.1.2;rw[if_neg hcl] at h2
     exact of_decide_eq_true h2)
    clear T0 T1 T2 CS;generalize htl:zbg ⟨act,cli,seq,exp,host,pre,pool,ts⟩ z=tl at *;obtain⟨tli,tseq,te,tver⟩:=tl;dsimp only at SN T0z T1z;clear htl
    go_wp2_with fail
    refine(za SN).mono ?_;rintro e U3 ⟨rfl,u3⟩;have BW:=zaa ((za BW).trans (u3.mono (za BW).size));have KC:=zaa (zac u3 (za KC));have PV:=zaa ((za PV).later u3);have bA:=zaa (show Below U3.heap.size U3 (U3.alloc (.cells #[.int .i64 te,.int .i64 tver] 38)) from(Below.refl _ _).alloc (Nat.le_refl _) _);have BW:=zaa ((za BW).trans ((za bA).mono (za BW).size));have KC:=zaa (zac (za bA) (za KC));have PV:=zaa ((za PV).later (za bA));have DO:=zaa (za PD _ _ _ h z (by omega) (za PV) (za BW));clear u3 SN bA;clear k0 k1 k2 k3 k4 k5 k6 k7;have k0:=zab (za KC) 0 (.int .i64 act) rfl;have k1:=zab (za KC) 1 (.int .i64 cli) rfl;have k2:=zab (za KC) 2 (.int .i64 seq) rfl;have k3:=zab (za KC) 3 (.int .i64 exp) rfl;have k4:=zab (za KC) 4 (.string host) rfl;have k5:=zab (za KC) 5 (.string pre) rfl;have k6:=zab (za KC) 6 (.string pool) rfl;have k7:=zab (za KC) 7 (.slice ta ts.length tc) rfl
    go_wp2_with fail
    generalize U3.alloc (.cells #[.int .i64 te,.int .i64 tver] 38)=U4 at *;refine(za DO).mono ?_;rintro e U5 ⟨rfl,p5,u5,_,x5,s5,cg5⟩;have KC:=zaa (cg5.cells s5 (by decide) (za KC));have BW:=zaa ((za BW).trans (u5.mono (Nat.le_of_lt (za LQ))));have PV:=zaa p5;generalize doS ⟨act,cli,seq,exp,host,pre,pool,ts⟩ none 0 z=rr at *;obtain⟨⟨er,vr⟩,z1⟩:=rr;dsimp only at PV T0z T1z ⊢;clear p5 u5 s5 cg5 DO;clear k0 k1 k2 k3 k4 k5 k6 k7;have bR:=zaa (show Below U5.heap.size U5 (U5.alloc (.cells #[.int .i64 er,.int .i64 vr] 38)) from(Below.refl _ _).alloc (Nat.le_refl _) _);have XR:=zaa (zad U5 (.cells #[.int .i64 er,.int .i64 vr] 38));have BW:=zaa ((za BW).trans ((za bR).mono (za BW).size));have KC:=zaa (zac (za bR) (za KC));have PV:=zaa ((za PV).later (za bR));have CF:=zaa ((za PV).conf (by omega))
    go_wp2_with fail
    generalize hR:U5.heap.size=R at *;generalize U5.alloc (.cells #[.int .i64 er,.int .i64 vr] 38)=U6 at *;refine(za CF).mono ?_;rintro e U7 ⟨⟨ra,rc,pa,pc⟩,rfl,cf,u7,_,_⟩;rw[show zb1 z1.cf ⟨ra,rc,pa,pc⟩=.agg #[.int .i64 z1.ver,.slice ra z1.rs.length rc,.slice pa (z1.ps.map Pq.po).length pc] from rfl];have BW:=zaa ((za BW).trans (u7.mono (za BW).size));have KC:=zaa (zac u7 (za KC));have XR:=zaa (zac u7 (za XR));have PV:=zaa ((za PV).later u7);have LDD:=zaa (show R<U7.heap.size∧w.heap.size<U7.heap.size from⟨(Array.getElem?_eq_some_iff.1 (za XR)).1,(Array.getElem?_eq_some_iff.1 (za KC)).1⟩);have bD:=zaa (show Below U7.heap.size U7 (U7.alloc (.cells #[.int .i64 z1.ver,.slice ra z1.rs.length rc,.slice pa (z1.ps.map Pq.po).length pc] 45)) from(Below.refl _ _).alloc (Nat.le_refl _) _);have XD:=zaa (zad U7 (.cells #[.int .i64 z1.ver,.slice ra z1.rs.length rc,.slice pa (z1.ps.map Pq.po).length pc] 45));have BW:=zaa ((za BW).trans ((za bD).mono (za BW).size));have KC:=zaa (zac (za bD) (za KC));have XR:=zaa (zac (za bD) (za XR));have PV:=zaa ((za PV).later (za bD));have k2:=zab (za KC) 2 (.int .i64 seq) rfl;have r0:=zab (za XR) 0 (.int .i64 er) rfl;clear cf u7 CF;generalize (z1.ps.map Pq.po).length=np at *;generalize z1.rs.length=nr at *;generalize hvz:z1.ver=zv at *;clear hvz;by_cases hlt:seq<tseq
    ·as_aux_lemma =>
     have hE:=za T0z hlt;obtain⟨⟨rfl,rfl⟩,rfl⟩:(er=12∧vr=z.ver)∧z1=z:=by simpa [Prod.ext_iff] using hE
     have LW:=zaa (za LV _ (za BW))
     go_wp2_with fail
     refine(za LW).mono ?_;rintro e U9 ⟨rfl,u9⟩;have F:=zaa ((za BW).trans (u9.mono (za BW).size));have r9:=cell_later u9 r0;clear u9 LW
     go_wp2
     go_ret
     exact⟨rfl,za F⟩
    ·as_aux_lemma =>
     have TD:=zaa (za T1z (by omega));clear T0z T1z
     go_wp2_with fail
     generalize hDD:U7.heap.size=D at *;generalize U7.alloc (.cells #[.int .i64 zv,.slice ra nr rc,.slice pa np pc] 45)=U8 at *;have LD:=LDD;clear k2 r0 bD bR;go_loopw [14] (fun i wr=>∃ (t:Nat) (z2:Sm) (v:Int) (sa sb:Option Addr) (n1 c1 n2 c2:Nat),t≤8∧i=.int .i64 (t:Int)∧Hid (zm ⟨act,cli,seq,exp,host,pre,pool,ts⟩ (er,vr) z2)∧Hid (Po8 (j+1+2*t) W1.heap.size wr h z2)∧Hid (wr.heap[D]? = some (.cells #[.int .i64 v,.slice sa n1 c1,.slice sb n2 c2] 45 (0,0)))∧Hid (wr.heap[R]? = some (.cells #[.int .i64 er,.int .i64 vr] 38 (0,0)))∧Hid (wr.heap[w.heap.size]? = some (.cells #[.int .i64 act,.int .i64 cli,.int .i64 seq,.int .i64 exp,.string host,.string pre,.string pool,.slice ta ts.length tc] 33 (0,0)))∧Hid (Below w.heap.size w wr)) (fun i _=>8 - (intOf i).toNat)
     case atStart=>exact⟨0,z1,zv,ra,pa,nr,rc,np,pc,by omega,rfl,TD,PV,XD,XR,KC,BW⟩
     case round =>
      obtain⟨t,z2,v,sa,sb,n1,c1,n2,c2,ht,rfl,TT,PT,XD,XR,KC,BW⟩:=hrel;have hcv:IntKind.i64.wrap ((n:Nat):Int)=(n:Int):=by rw[IntKind.wrap_i64];omega
      have htm:Int.tmod (n:Int) 8=((n % 8:Nat):Int):=by rw[Int.tmod_eq_emod_of_nonneg (by omega)];omega
      have hm8:n % 8<8:=Nat.mod_lt _ (by decide);generalize n % 8=m at *;by_cases htn:t<m
      ·as_aux_lemma =>
       have y0:(0:Int)≤(t:Int):=by omega
       have y1:(t:Int)<(m:Int):=by omega
       have LP:=zaa (zdj wr ⟨#[98]⟩)
       go_wp2_with fail
       refine(za LP).mono ?_;rintro e V0 ⟨B,rfl,tg,v0⟩;rw[show zam (za5 ⟨#[98]⟩) (some ⟨B,0,none⟩) 1=.agg #[.int .i64 1,.int .i64 0,.int .i64 0,.int .i64 (-1),.string ⟨#[]⟩,.string ⟨#[]⟩,.string ⟨#[98]⟩,.slice (some ⟨B,0,none⟩) 1 1] from rfl];have BW:=zaa ((za BW).trans (v0.mono (za BW).size));have KC:=zaa (zac v0 (za KC));have XR:=zaa (zac v0 (za XR));have XD:=zaa (zac v0 (za XD));have PT:=zaa ((za PT).later v0);have DB:=zaa ((za PT).do (by omega) (za5 ⟨#[98]⟩) (some ⟨B,0,none⟩) 1 (zms tg) (za MX _ (za BW)));rw[show zam (za5 ⟨#[98]⟩) (some ⟨B,0,none⟩) 1=.agg #[.int .i64 1,.int .i64 0,.int .i64 0,.int .i64 (-1),.string ⟨#[]⟩,.string ⟨#[]⟩,.string ⟨#[98]⟩,.slice (some ⟨B,0,none⟩) 1 1] from rfl] at DB;have TO:=zaa (zk7 (c2:=za5 ⟨#[98]⟩) (za TT) rfl);clear tg v0 LP TT
       go_wp2_with fail
       refine(za DB).mono ?_;rintro e V1 ⟨rfl,p1,v1,_,x1,s1,cg1⟩;have KC:=zaa (cg1.cells s1 (by decide) (za KC));have XR:=zaa (cg1.cells s1 (by decide) (za XR));have XD:=zaa (cg1.cells s1 (by decide) (za XD));have BW:=zaa ((za BW).trans (v1.mono (Nat.le_of_lt (za LQ))));have PT:=zaa p1;clear p1 v1 s1 cg1 DB;generalize doS (za5 ⟨#[98]⟩) none 0 z2=rr at *;obtain⟨⟨er2,vr2⟩,z3⟩:=rr;dsimp only at PT TO ⊢;have CF:=zaa ((za PT).conf (by omega));have EC:=zaa (show ∀ k:CfH,zb1 z3.cf k=.agg #[.int .i64 z3.ver,.slice k.ra z3.rs.length k.rc,.slice k.pa z3.ps.length k.pc] from fun k=>by simp[zb1,Sm.cf]);simp only[za EC] at CF
       go_wp2_with fail
       refine(za CF).mono ?_;rintro e V2 ⟨⟨ra2,rc2,pa2,pc2⟩,rfl,cf,v2,_,_⟩;have BW:=zaa ((za BW).trans (v2.mono (za BW).size));have KC:=zaa (zac v2 (za KC));have XR:=zaa (zac v2 (za XR));have XD:=zaa (zac v2 (za XD));have PT:=zaa ((za PT).later v2);have d0:=zab (za XD) 0 (.int .i64 v) rfl;have d1:=zab (za XD) 1 (.slice sa n1 c1) rfl;have d2:=zab (za XD) 2 (.slice sb n2 c2) rfl;have f0:=zhw (za XD) 0;have f1:=zhw (za XD) 1;have f2:=zhw (za XD) 2;have CFW:=zaa cf;have SC:=zaa (fun (W:World) (k:CfH) (hk:CfAt W z3.cf k) (h2:CfAt W z3.cf ⟨ra2,rc2,pa2,pc2⟩)=>za3 hk h2);simp only[za EC] at SC;have FC:=zaa (fun (W:World) (p:Po8 (j+1+2*t+1+1) W1.heap.size W h z3)=>p.conf (by omega));simp only[za EC] at FC;generalize hvz:z3.ver=zv3 at *;generalize hnr3:z3.rs.length=nr3 at *;generalize hnp3:z3.ps.length=np3 at *;clear cf v2 CF hvz hnr3 hnp3 EC
       go_wp2_with fail
       clear d0 d1 d2 f0 f1 f2;have gg:=zaa (zgh (zgh (zgg V2 D 0 (.int .i64 zv3)) (zgg _ D 1 (.slice ra2 nr3 rc2))) (zgg _ D 2 (.slice pa2 np3 pc2)));have XD2:=zaa (zao (zao (zao (za XD) 0 (.int .i64 zv3) #[.int .i64 zv3,.slice sa n1 c1,.slice sb n2 c2] rfl) 1 (.slice ra2 nr3 rc2) #[.int .i64 zv3,.slice ra2 nr3 rc2,.slice sb n2 c2] rfl) 2 (.slice pa2 np3 pc2) #[.int .i64 zv3,.slice ra2 nr3 rc2,.slice pa2 np3 pc2] rfl);generalize ((V2.setCell ⟨D,0,none⟩ (.int .i64 zv3)).setCell ⟨D,1,none⟩ (.slice ra2 nr3 rc2)).setCell ⟨D,2,none⟩ (.slice pa2 np3 pc2)=V3 at *;have CFW:=zaa ((za CFW).aside (za gg) (za XD) (zct _ _ _ _ _ _ _));have PT:=zaa ((za PT).aside (za gg) (za XD) (by decide) (zct _ _ _ _ _ _ _));have BW:=zaa (zih (za BW) (za gg) (Nat.le_of_lt (za LD).2) (za BW).size);have KC:=zaa (((za gg).block w.heap.size (Array.getElem?_eq_some_iff.1 (za KC)).1 (fun e=>by have:=Option.some.inj e;have:=(za LD).2;omega)).trans (za KC));have XR:=zaa (((za gg).block R (Array.getElem?_eq_some_iff.1 (za XR)).1 (fun e=>by have:=Option.some.inj e;have:=(za LD).1;omega)).trans (za XR));have XD:=XD2;clear XD2 gg;have BZ:=zaa ((za BW).drew);have PZ:=zaa ((za PT).later (show Below V3.heap.size V3 V3.drew from(Below.refl _ _).drew));have CZ:=zaa ((za CFW).later (show Below V3.heap.size V3 V3.drew from(Below.refl _ _).drew));have KZ:=zaa (show V3.drew.heap[w.heap.size]? = _ from za KC)
       have RZ:=zaa (show V3.drew.heap[R]? = _ from za XR);have DZ:=zaa (show V3.drew.heap[D]? = _ from za XD);have DC:=zaa (za PD _ _ _ h z3 (by omega) (za PZ) (za BZ));rw[za T2z z3 (er,vr) (za TO)] at DC;dsimp only at DC;have NE:=zom er vr;have KF:=zaa (show ∀ W:World,W.heap[w.heap.size]? = some (.cells #[.int .i64 act,.int .i64 cli,.int .i64 seq,.int .i64 exp,.string host,.string pre,.string pool,.slice ta ts.length tc] 33 (0,0))→W.heap[R]? = some (.cells #[.int .i64 er,.int .i64 vr] 38 (0,0))→W.cell? ⟨w.heap.size,0,none⟩=some (.int .i64 act)∧W.cell? ⟨w.heap.size,1,none⟩=some (.int .i64 cli)∧W.cell? ⟨w.heap.size,2,none⟩=some (.int .i64 seq)∧W.cell? ⟨w.heap.size,3,none⟩=some (.int .i64 exp)∧W.cell? ⟨w.heap.size,4,none⟩=some (.string host)∧W.cell? ⟨w.heap.size,5,none⟩=some (.string pre)∧W.cell? ⟨w.heap.size,6,none⟩=some (.string pool)∧W.cell? ⟨w.heap.size,7,none⟩=some (.slice ta ts.length tc)∧W.cell? ⟨R,0,none⟩=some (.int .i64 er)∧W.cell? ⟨R,1,none⟩=some (.int .i64 vr) from fun W hk hr=>⟨zab hk 0 _ rfl,zab hk 1 _ rfl,zab hk 2 _ rfl,zab hk 3 _ rfl,zab hk 4 _ rfl,zab hk 5 _ rfl,zab hk 6 _ rfl,zab hk 7 _ rfl,zab hr 0 _ rfl,zab hr 1 _ rfl⟩);have KB:=zaa (za KF _ (za KZ) (za RZ));clear BW PT CFW KC XR XD;refine wp_region_held_drew (S:=fun W=>W.cell? ⟨w.heap.size,0,none⟩=some (.int .i64 act)∧W.cell? ⟨w.heap.size,1,none⟩=some (.int .i64 cli)∧W.cell? ⟨w.heap.size,2,none⟩=some (.int .i64 seq)∧W.cell? ⟨w.heap.size,3,none⟩=some (.int .i64 exp)∧W.cell? ⟨w.heap.size,4,none⟩=some (.string host)∧W.cell? ⟨w.heap.size,5,none⟩=some (.string pre)∧W.cell? ⟨w.heap.size,6,none⟩=some (.string pool)∧W.cell? ⟨w.heap.size,7,none⟩=some (.slice ta ts.length tc)∧W.cell? ⟨R,0,none⟩=some (.int .i64 er)∧W.cell? ⟨R,1,none⟩=some (.int .i64 vr)) (by kernel_rfl) ?_ (fun hHeld=>?_)
       ·try dsimp only
        first|exact za K2|exact za KB
       refine hT 0 ?_;refine hT 1 ?_;refine hT 3 ?_;refine hO 2 (fun K hK=>?_);go_simp
       first
        |(go_at_call 18
          refine(za DC).mono ?_;rintro e V4 ⟨rfl,p4,v4,_,x4,s4,cg4⟩;have KC:=zaa (cg4.cells s4 (by decide) (za KZ));have XR:=zaa (cg4.cells s4 (by decide) (za RZ));have XD:=zaa (cg4.cells s4 (by decide) (za DZ));have K2:=zaa (za KF _ (za KC) (za XR));have BW:=zaa ((za BZ).trans (v4.mono (Nat.le_of_lt (za LQ))));have CFW:=zaa ((za CZ).chg s4 cg4);have PT:=zaa p4
          clear p4 v4 s4 cg4)
       go_wp2_with fail
       refine hK.out _ _ ?_ (fun hHeld=>?_)
       ·try dsimp only
        first|exact za K2|exact za KB
       clear hK K;refine hP ?_;refine hT 4 ?_;refine wpAnyH_done (by kernel_rfl) ?_ _;clear hHeld KB K2 KF DC NE BZ PZ CZ KZ RZ DZ
       go_wp2_with fail
       have bZ:=zaa (show Below V4.heap.size V4 V4.drew from(Below.refl _ _).drew);have FCW:=zaa (za FC _ ((za PT).later (za bZ)));have DF:=zaa (show ∀ W:World,Below V4.heap.size V4 W→W.cell? ⟨D,0,none⟩=some (.int .i64 zv3)∧W.cell? ⟨D,1,none⟩=some (.slice ra2 nr3 rc2)∧W.cell? ⟨D,2,none⟩=some (.slice pa2 np3 pc2) from fun W hb=>⟨zab (zac hb (za XD)) 0 _ rfl,zab (zac hb (za XD)) 1 _ rfl,zab (zac hb (za XD)) 2 _ rfl⟩);have KB:=zaa (za DF _ (za bZ));refine wp_region_held_drew (S:=fun W=>W.cell? ⟨D,0,none⟩=some (.int .i64 zv3)∧W.cell? ⟨D,1,none⟩=some (.slice ra2 nr3 rc2)∧W.cell? ⟨D,2,none⟩=some (.slice pa2 np3 pc2)) (by kernel_rfl) ?_ (fun hHeld=>?_)
       ·try dsimp only
        first|exact za K3|exact za K2|exact za KB
       refine hT 0 ?_;refine hT 2 ?_;refine hO 1 (fun K hK=>?_);go_simp
       first
        |(go_at_call 19
          refine(za FCW).mono ?_;rintro e V5 ⟨k5,rfl,cf5,v5,_,_⟩;have b5:=zaa ((za bZ).trans (v5.mono (za bZ).size));have K2:=zaa (za DF _ (za b5));have SCW:=zaa (za SC _ k5 cf5 ((za CFW).later (za b5)))
          clear v5 cf5)
        |(go_at_call 21
          refine(za SCW).mono ?_;rintro e V6 ⟨rfl,v6⟩;have b6:=zaa ((za b5).trans (v6.mono (za b5).size));have K3:=zaa (za DF _ (za b6))
          clear v6)
       go_wp2_with fail
       refine hK.out _ _ ?_ (fun hHeld=>?_)
       ·try dsimp only
        first|exact za K3|exact za K2|exact za KB
       clear hK K;refine hP ?_;refine hO 3 (fun K hK=>?_);go_simp
       first
        |(go_at_call 19
          refine(za FCW).mono ?_;rintro e V5 ⟨k5,rfl,cf5,v5,_,_⟩;have b5:=zaa ((za bZ).trans (v5.mono (za bZ).size));have K2:=zaa (za DF _ (za b5));have SCW:=zaa (za SC _ k5 cf5 ((za CFW).later (za b5)))
          clear v5 cf5)
        |(go_at_call 21
          refine(za SCW).mono ?_;rintro e V6 ⟨rfl,v6⟩;have b6:=zaa ((za b5).trans (v6.mono (za b5).size));have K3:=zaa (za DF _ (za b6))
          clear v6)
       go_wp2_with fail
       refine hK.out _ _ ?_ (fun hHeld=>?_)
       ·try dsimp only
        first|exact za K3|exact za K2|exact za KB
       clear hK K;refine hP ?_;refine hT 4 ?_;refine wpAnyH_done (by kernel_rfl) ?_ _;have BW:=zaa ((za BW).trans ((za b6).mono (za BW).size));have KC:=zaa (zac (za b6) (za KC));have XR:=zaa (zac (za b6) (za XR));have XD:=zaa (zac (za b6) (za XD));have PT:=zaa (((za PT).later (za b6)).mono (show j+1+2*t+1+1≤j+1+2*(t+1) by omega));clear hHeld KB K2 K3 DF FCW SCW b5 b6 bZ
       go_wp2
       exact⟨⟨t+1,z3,zv3,ra2,pa2,nr3,rc2,np3,pc2,by omega,by go_num,TO,PT,XD,XR,KC,BW⟩,by simp[intOf];omega⟩
      ·as_aux_lemma =>
       have y1:¬ (t:Int)<(m:Int):=by omega
       have k1:=zab (za KC) 1 (.int .i64 cli) rfl;have SN:=zaa ((za PT).seen cli hic);rw[show(zap lid cli z2.cl).getD ⟨cli,0,0,0⟩=zbg ⟨act,cli,seq,exp,host,pre,pool,ts⟩ z2 from rfl] at SN;have TR:=za TT;unfold zm at TR;dsimp only at TR;rw[TR.1,TR.2.1,TR.2.2] at SN;clear TR
       go_wp2_with fail
       refine(za SN).mono ?_;rintro e U9 ⟨rfl,u9⟩;have BW:=zaa ((za BW).trans (u9.mono (za BW).size));have bN:=zaa (show Below U9.heap.size U9 (U9.alloc (.cells #[.int .i64 er,.int .i64 vr] 38)) from(Below.refl _ _).alloc (Nat.le_refl _) _);have XN:=zaa (zad U9 (.cells #[.int .i64 er,.int .i64 vr] 38));have BW:=zaa ((za BW).trans ((za bN).mono (za BW).size));have KC:=zaa (zac (za bN) (zac u9 (za KC)));have XR:=zaa (zac (za bN) (zac u9 (za XR)));have LW:=zaa (za LV _ (za BW));clear u9 SN k1
       go_wp2_with fail
       generalize hN:U9.heap.size=N at *;generalize U9.alloc (.cells #[.int .i64 er,.int .i64 vr] 38)=V1 at *;refine(za LW).mono ?_;rintro e V2 ⟨rfl,v2⟩;have F:=zaa ((za BW).trans (v2.mono (za BW).size));have n0:=zab (zac v2 (za XN)) 0 (.int .i64 er) rfl;have n1':=zab (zac v2 (za XN)) 1 (.int .i64 vr) rfl;have r0:=zab (zac v2 (za XR)) 0 (.int .i64 er) rfl;have r1:=zab (zac v2 (za XR)) 1 (.int .i64 vr) rfl;have k2:=zab (zac v2 (za KC)) 2 (.int .i64 seq) rfl;have EQ:=zlp er vr er vr;have hbb:(er==er&&vr==vr)=true:=by simp
       clear v2 LW
       go_wp2
       go_ret
       exact⟨rfl,za F⟩
  ·as_aux_lemma =>
   have hbe:((ck:Int)==0)=false:=by simp;omega
   have LW:=zaa (za LV _ (za BW));clear KC KB
   go_wp2_with fail
   refine(za LW).mono ?_;rintro e U ⟨rfl,u⟩;have F:=zaa ((za BW).trans (u.mono (za BW).size));clear u LW
   go_wp2
   go_ret
   exact⟨rfl,za F⟩
 ·as_aux_lemma =>
  have hs0:zgu ⟨act,cli,seq,exp,host,pre,pool,ts⟩=false:=by simpa using hs
  rw[hs0] at SH;clear hs hs0
  go_wp2_with fail
  refine(za SH _).mono ?_;rintro e U1 ⟨rfl,u1⟩;have BW:=zaa ((za BW).trans (u1.mono (by have:=(za BW).size;omega)));clear u1 SH;have LW:=zaa (za LV _ (za BW));clear KC KB
  go_wp2_with fail
  refine(za LW).mono ?_;rintro e U ⟨rfl,u⟩;have F:=zaa ((za BW).trans (u.mono (za BW).size));clear u LW
  go_wp2
  go_ret
  exact⟨rfl,za F⟩
end Go.Proofs.YtjcjleaicjhpeaaGreatDoor
