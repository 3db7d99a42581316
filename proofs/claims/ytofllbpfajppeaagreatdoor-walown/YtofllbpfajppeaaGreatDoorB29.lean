/- The document's disk: Write, all of it. -/
import Derived.Test.YtofllbpfajppeaaGreatDoorB28
import Derived.Test.YtofllbpfajppeaaGreatDoorB27
import Derived.Test.YtofllbpfajppeaaGreatDoorB07
import Derived.Test.YtofllbpfajppeaaGreatDoorB16
import Derived.Test.YtofllbpfajppeaaGreatDoorB05
import Derived.Test.YtofllbpfajppeaaGreatDoorB12
import Derived.Test.YtofllbpfajppeaaGreatDoorB08
set_option linter.unusedVariables false
set_option maxRecDepth 20000
set_option maxHeartbeats 16000000
namespace Go.Proofs.YtofllbpfajppeaaGreatDoor
section
open Go.ChangeShapes Go.WideShapes Go.ChangeAt Go.RowKit Go.Maps
section
variable {base R room:Nat} {w w':World} {sp:Option Addr} {c:Nat} {rs rs':List Rf}
theorem zq2 (h:RefAt base w R room sp c rs) (hbs:base≤w.heap.size) (s:ByteArray) (hs:s.size≤maxLen) (z:Int) (hz64:z≤9223372036854775807) (xp:Option Addr) (xn xc:Nat) (o:List Nat) (ho:o.length=xn) (hB:BytesAt w xp o) (hxl:xn≤10000000000) (hcs:∀ x∈rs,x.2.s.cs.length≤300) :
  Calls Tryz.prog 110 #[.pointer (some ⟨R,0,none⟩),.string s,.int .i64 z,.slice xp xn xc] w (zhf base R room w sp rs (zai room s.data.toList z o (rss rs))):=by
 cases hnl:zgd s.data.toList with
 |true =>
  by_cases hm:s.data.toList∈rs.map (·.1)
  ·obtain⟨x,hx,e⟩:=List.mem_map.1 hm;obtain⟨i,hi,e2⟩:=List.mem_iff_getElem.1 hx;exact zvt h hbs s hs hnl i hi (by rw[e2];exact e) z hz64 xp xn xc o ho hB hxl hcs
  ·exact zvs h hbs s hs hnl hm z hz64 xp xn xc o ho hB hxl
 |false =>
  have NB:=zaa (fun (W:World)=>zgf s W hs);rw[hnl] at NB;have E14:=zaa (show ∀ W,Below w.heap.size w W→zhf base R room w sp rs (zai room s.data.toList z o (rss rs)) (.returned (.int .i64 14)) W from fun W hb=>zhf.stay h hb (by simp[zai,hnl]) (by simp[zai,hnl]));clear h hbs hB hcs hnl;go_enter Tryz.func110,Tryz.ntmps110
  go_wp2_with (go_at_call 144;refine(za NB _).mono ?_;rintro e w' ⟨rfl,rfl⟩)
  go_ret
  exact za E14 _ (Below.refl _ _)
end
theorem zed {s:Sp} (h:SOk s) (U:Nat):(s.la=false∧(za3 s.cs s.y U).2=U)↔(s.la=false∧(U=0∨s.us.length=0)):=by
 constructor
 ·rintro⟨h1,h2⟩;refine⟨h1,?_⟩;by_cases hU:U=0
  ·exact .inl hU
  ·refine .inr ?_;cases hc:s.cs with
   |nil=>simp[Sp.us,usL,hc]
   |cons c cs =>
    exfalso
    rw[hc] at h2;have hsc:=h.small c (by rw[hc];exact List.mem_cons_self);have hpos:0<zap c:=by
     unfold zap;cases hb:c.1 with
     |true=>simp
     |false=>simp only[Bool.false_eq_true,if_false];exact(hsc.1 hb).2
    have key:∀ (l:List Chg) (y:List Nat) (n:Nat),(za3 l y n).2≤n:=by
     intro l;induction l with
     |nil=>intro y n;simp[za3]
     |cons d ds ih =>
      intro y n;unfold za3;split
      ·omega
      ·have:=ih (zc5 d y (min n (zap d))) (n - min n (zap d));omega
    unfold za3 at h2;rw[if_neg hU] at h2;have:=key cs (zc5 c s.y (min U (zap c))) (U - min U (zap c));omega
 ·rintro⟨h1,h2|h2⟩
  ·refine⟨h1,?_⟩;rw[h2,ze2]
  ·refine⟨h1,?_⟩;have:=zfx s.cs s.y h.small U (by show s.us.length≤U;omega);rw[this];show U - s.us.length=U
   omega
theorem SOk.crashed {s:Sp} (h:SOk s) (U:Nat):SOk ⟨true,(za3 s.cs s.y U).1,[]⟩:=⟨trivial,by simp,by rw[← h.made];exact h.len _,by rw[← h.made];exact h.lt _,by simp⟩
theorem zml (ks:List Int):∀ (p r:Ds) (i:Nat),za5 ks i (p++r)=za5 ks i p++za5 ks (i+p.length) r
 |[],r,i=>by simp[za5]
 |x::p,r,i=>by
  simp only[List.cons_append,za5,List.length_cons];rw[zml ks p r (i+1),List.append_assoc,show i+1+p.length=i+(p.length+1) by omega]
theorem zkj (ks:List Int):∀ (l:Ds) (i:Nat),zbf l→zbf (za5 ks i l)∧(∀ y∈za5 ks i l,∃ x∈l,x.1=y.1)∧(za5 ks i l).length≤l.length
 |[],_,_=>⟨List.Pairwise.nil,by simp[za5],by simp[za5]⟩
 |x::l,i,h=>by
  have h1:=List.pairwise_cons.1 h;obtain⟨a,b,c⟩:=zkj ks l (i+1) h1.2;unfold za5 zcf;split
  ·exact⟨a,fun y hy=>by obtain⟨z,hz,e⟩:=b y hy;exact⟨z,List.mem_cons_of_mem _ hz,e⟩,by simp at c ⊢;omega⟩
  ·refine⟨List.pairwise_cons.2 ⟨fun y hy=>by obtain⟨z,hz,e⟩:=b y hy;rw[← e];exact h1.1 z hz,a⟩,fun y hy=>?_,by simp at c ⊢;omega⟩;rcases List.mem_cons.1 hy with rfl|hy
   ·exact⟨x,List.mem_cons_self,rfl⟩
   ·obtain⟨z,hz,e⟩:=b y hy;exact⟨z,List.mem_cons_of_mem _ hz,e⟩
section
variable {base R room:Nat} {w w':World} {sp:Option Addr} {c:Nat} {rs rs':List Rf}
theorem zqd (h:RefAt base w R room sp c rs) (hbs:base≤w.heap.size) (kp:Option Addr) (kn kc:Nat) (ks:List Int) (hks:ks.length=kn) (hI:IntsAt w kp ks) :
  Calls Tryz.prog 38 #[.pointer (some ⟨R,0,none⟩),.slice kp kn kc] w fun e w'=>e=.returned (.tuple #[])∧∃ rs',rss rs'=za5 ks 0 (rss rs)∧RDone base R room w sp rs rs' w':=by
 have B0:=zaa (show Below w.heap.size w (w.alloc (.cells #[] 116)) from(Below.refl _ _).alloc (Nat.le_refl _) _);have O0:=zaa (show OwnR base (w.alloc (.cells #[] 116)) (some ⟨w.heap.size,0,none⟩) 0 [] from⟨zhn (OwnR.empty w w.heap.size (Nat.le_refl _)).row hbs,by simp⟩);have VC:=zaa (fun W (hb:Below w.heap.size w W)=>h.later hb);have RC:=zaa (fun W (hb:Below w.heap.size w W)=>show W.cell? ⟨R,1,none⟩=some (.slice sp rs.length c)∧W.frozen? ⟨R,1,none⟩=false from⟨(za VC W hb).c1,(za VC W hb).z1⟩);have KI:=zaa (fun W (hb:Below w.heap.size w W)=>hI.later hb);have H:=zaa h;have HS:=zaa hbs;have HK:=zaa hks;have h16:=h.few
 have EN:=zaa (show ∀ W op m oc out,Below w.heap.size w W→OwnR base W op oc out→out.length=m→(∀ g,zew op out g→w.heap.size≤g)→rss out=za5 ks 0 (rss rs)→∃ rs',rss rs'=za5 ks 0 (rss rs)∧RDone base R room w sp rs rs' (W.setCell ⟨R,1,none⟩ (.slice op m oc)) from fun W op m oc out hb ho hm hg he=>by
  obtain⟨a1,a2,a3⟩:=zkj ks (rss rs) 0 (h.rise.map (fun v:RV=>v.s));have hr:zbf out:=by
   have h5:zbf (rss out):=by rw[he];exact a1
   have h6:=List.pairwise_map.1 (show(out.map (fun x=>(x.1,x.2.s))).Pairwise (fun x y=>x.1<y.1) from h5);exact h6
  have hl:out.length≤16:=by
   have h1:(rss out).length=out.length:=by simp[rss]
   have h2:(rss rs).length=rs.length:=by simp[rss]
   rw[← he,h1,h2] at a3;omega
  exact⟨out,he,h.stored hb ho hm hr hl (fun g hgg=>.inr (hg g hgg))⟩)
 clear h hbs hI hks;obtain⟨n,hn⟩:∃ n,rs.length=n:=⟨_,rfl⟩
 rw[hn] at RC h16;have HN:=zaa hn;clear hn;obtain⟨c1,_⟩:=za RC _ (za B0);go_enter Tryz.func38,Tryz.ntmps38
 go_wp2_with fail
 go_loopw [4,5] (fun v4 v5 wr=>∃ (j m:Nat) (op:Option Addr) (oc:Nat) (out:List Rf),j≤n∧m≤j∧v4=.slice op m oc∧v5=.int .i64 (j:Int)∧Hid (out.length=m)∧Hid (OwnR base wr op oc out)∧Hid (∀ g,zew op out g→w.heap.size≤g)∧Hid (rss out=za5 ks 0 (rss (rs.take j)))∧Hid (Below w.heap.size w wr)) (fun _ v5 _=>n - (intOf v5).toNat)
 case atStart=>exact⟨0,0,_,0,[],by omega,by omega,rfl,rfl,rfl,O0,zaa (fun g hg=>by
  rcases hg with hg|⟨x,hx,_⟩
  ·simp[blk] at hg;omega
  ·simp at hx),rfl,B0⟩
 case round =>
  obtain⟨j,m,op,oc,out,hj,hmj,rfl,rfl,HM,HO,HG,HP,HB⟩:=hrel;obtain⟨d1,f1⟩:=za RC wr (za HB);by_cases hjn:j<n
  ·have y1:(j:Int)<(n:Int):=by omega
   have y0:(0:Int)≤(j:Int):=by omega
   have hjr:j<rs.length:=by rw[za HN];exact hjn
   obtain⟨g,rfl,p0,p1,p2,p3⟩:=(za VC wr (za HB)).own.cells j hjr;have DAT:=zaa (fun W (hb:Below w.heap.size w W)=>(za VC W hb).own.dat _ (List.getElem_mem hjr))
   have TK:=zaa (show za5 ks 0 (rss (rs.take (j+1)))=za5 ks 0 (rss (rs.take j))++zcf (zbw ks j) (rs[j].1,rs[j].2.s) by
    have e1:rss (rs.take (j+1))=rss (rs.take j)++[(rs[j].1,rs[j].2.s)]:=by
     rw[List.take_succ_eq_append_getElem hjr];simp only[rss,List.map_append,List.map_cons,List.map_nil]
    have e2:(rss (rs.take j)).length=j:=by simp[rss];omega
    rw[e1,zml,e2,Nat.zero_add]
    simp[za5])
   generalize rs[j]=x at *;obtain⟨nm,t,yp,yc,up,uc⟩:=x;simp only at p0 p1 p2 p3 DAT TK;have OK:=zaa (show SOk t from(za DAT wr (za HB)).ok);obtain⟨U,hU⟩:∃ U,zbw ks j=U:=⟨_,rfl⟩
   rw[hU] at TK;have A1:=zaa (show Below wr.heap.size wr (wr.alloc (zba (nm,⟨t,yp,yc,up,uc⟩))) from(Below.refl _ _).alloc (Nat.le_refl _) _);have X1:=zad wr (zba (nm,⟨t,yp,yc,up,uc⟩));have x0:=zan X1 0 _ rfl;have x1:=zan X1 1 _ rfl;have x2:=zan X1 2 _ rfl;have x3:=zan X1 3 _ rfl;have B1:=zaa ((za HB).trans ((za A1).mono (za HB).size));have O1:=zaa ((za HO).later (za A1));have MC:=zaa (zm3 base (wr.alloc (zba (nm,⟨t,yp,yc,up,uc⟩))).drew (nm,⟨t,yp,yc,up,uc⟩) ((za DAT _ (za B1)).same (fun _ _=>rfl)) (U:Int));unfold zhv at MC;unfold zba at A1 B1 O1 MC X1;have XX:=zaa X1;rw[Int.toNat_natCast] at MC;simp only at MC;clear X1;have kcase:∃ kv:Int,(j<kn∧∃ b off,kp=some ⟨b,off,none⟩∧wr.cell? ⟨b,off+j,none⟩=some (.int .i64 kv)∧(U:Int)=max kv 0)∨(¬ j<kn∧U=0):=by
    by_cases hjk:j<kn
    ·have hjk2:j<ks.length:=by rw[za HK];exact hjk
     obtain⟨b,off,e1,e2⟩:=(za KI wr (za HB)).cell j hjk2;refine⟨ks[j],.inl ⟨hjk,b,off,e1,e2,?_⟩⟩;rw[← hU];unfold zbw;rw[List.getD_eq_getElem?_getD,List.getElem?_eq_getElem hjk2];simp only[Option.getD_some];omega
    ·refine⟨0,.inr ⟨hjk,?_⟩⟩;rw[← hU];unfold zbw;rw[List.getD_eq_getElem?_getD,List.getElem?_eq_none (by rw[za HK];omega)];rfl
   have HU:=zaa hU;clear hU;obtain⟨la,hla⟩:∃ la,t.la=la:=⟨_,rfl⟩
   obtain⟨q,hq⟩:∃ q,t.us.length=q:=⟨_,rfl⟩
   obtain⟨Y,hY⟩:∃ Y,(za3 t.cs t.y U).1=Y:=⟨_,rfl⟩
   rw[(za OK).made,hY] at MC;have YOK:=zaa (show SOk ⟨true,Y,[]⟩ from hY ▸ (za OK).crashed U);rw[hla] at x1 p1 A1 B1 O1 XX MC;rw[hq] at x3 p3 A1 B1 O1 XX MC;rw[hla,hq] at x0;rw[hq] at x1;rw[hla,hq] at x2;rw[hla] at x3;have HLA:=zaa hla;have HQ:=zaa hq;have HY:=zaa hY;clear hla hq hY;obtain⟨kv,⟨hjk,b,off,rfl,e2,hmax⟩|⟨hjk,rfl⟩⟩:=kcase
   ·by_cases hk0:0<kv
    ·have hkU:kv=(U:Int):=by omega
     subst hkU;have yk:(j:Int)<(kn:Int):=by omega
     have hU0:¬ U=0:=by omega
     have yU:((U:Int)==0)=false:=by simp;omega
     clear hmax;cases la with
     |true =>
      have TK2:=zaa (show za5 ks 0 (rss (rs.take (j+1)))=za5 ks 0 (rss (rs.take j))++[(nm,⟨true,Y,[]⟩)] by
       rw[za TK];unfold zcf;rw[if_neg (show ¬ (t.la=false∧(za3 t.cs t.y U).2=U) from fun hh=>(fun (e:t.la=false∧_)=>by have:=za HLA;rw[e.1] at this;cases this) ((zed (za OK) U).1 hh))];show _++[(nm,(⟨true,(za3 t.cs t.y U).1,[]⟩:Sp))]=_
       rw[za HY])
      clear TK
      go_wp2_with fail
      generalize wr.alloc (.cells #[.string (str nm),.bool true,.slice yp t.y.length yc,.slice up q uc] 116)=V7 at *;have z0:=zan (za XX) 0 _ rfl;have z1:=zan (za XX) 1 _ rfl;have z2:=zan (za XX) 2 _ rfl;have z3:=zan (za XX) 3 _ rfl
      go_region_law (first
       |(have hU':W2=W2:=rfl
         clear hU';refine zfo rfl (.tmp 55) (.tmp 62) rfl base op m oc out rfl (za HM) (by exact za Oa) W2.heap.size (nm,⟨⟨true,Y,[]⟩,sp2,c2,none,0⟩) rfl (by exact za Xa) (by exact za Da) (by omega) (by exact za Sa) ?_;intro sp9 c9 W9 hO9 hG9;have O9:=zaa hO9;have B9:=zaa (show Below w.heap.size w W9 from(za Ba).grown hG9.grown (za Ba).size (fun g' hg'=>za HG g' (.inl hg')))
         have G9:=zaa (show ∀ g,zew sp9 (out++[(nm,⟨⟨true,Y,[]⟩,sp2,c2,none,0⟩)]) g→w.heap.size≤g from fun g hg=>by
          rcases hg with hg|⟨z,hz,hg⟩
          ·rcases hG9.lies g hg with h1|h1
           ·exact za HG g (.inl h1)
           ·exact Nat.le_trans (za Ba).size h1
          ·rcases List.mem_append.1 hz with hz|hz
           ·exact za HG g (.inr ⟨z,hz,hg⟩)
           ·have hz1:=List.mem_singleton.1 hz;subst hz1;rcases hg with hg|hg
            ·exact za La g hg
            ·cases hg)
         clear hO9 hG9)
       |(go_simp
         go_at_call 78
         refine(za MC).mono ?_;rintro e W2 ⟨sp2,n2,c2,rfl,hn2,hX,b2⟩;have hW:n2=Y.length:=hn2.symm;subst hW;have bV:=zaa (show Below V7.heap.size V7 W2 from⟨b2.os,b2.tape,b2.output,b2.size,b2.block⟩);have bA:=zaa (show Below W2.heap.size W2 (W2.alloc (.cells #[.string (str nm),.bool true,.slice sp2 Y.length c2,.slice none 0 0] 116)) from(Below.refl _ _).alloc (Nat.le_refl _) _);have bVA:=zaa ((za bV).trans ((za bA).mono (za bV).size));have Ba:=zaa ((za B1).trans ((za bVA).mono (za B1).size));have Oa:=zaa ((za O1).later (za bVA));have Xa:=zaa (zad W2 (.cells #[.string (str nm),.bool true,.slice sp2 Y.length c2,.slice none 0 0] 116));have Sa:=zaa (Nat.le_trans (za HS) (za Ba).size);have La:=zaa (show ∀ g,blk sp2=some g→w.heap.size≤g from fun g hg=>Nat.le_trans (za B1).size (hX.isT g hg).1);have Da:=zaa (show RfAt base (W2.alloc (.cells #[.string (str nm),.bool true,.slice sp2 Y.length c2,.slice none 0 0] 116)) (nm,⟨⟨true,Y,[]⟩,sp2,c2,none,0⟩) from⟨za YOK,(hX.mono (Nat.le_trans (za HS) (za B1).size)).later (za bA),World.ownsRow_nil _ base 150 3,by simp[Sp.us,usL]⟩);have Z1:=(za bV).block _ (Array.getElem?_eq_some_iff.1 (za XX)).1;rw[za XX] at Z1;have v0:=zan Z1 0 _ rfl;have v1:=zan Z1 1 _ rfl;have v2:=zan Z1 2 _ rfl;have v3:=zan Z1 3 _ rfl
         clear hX hn2 b2 Z1))
      all_goals
       go_wp2
       exact⟨⟨j+1,m+1,sp9,c9,out++[(nm,⟨⟨true,Y,[]⟩,sp2,c2,none,0⟩)],by omega,by omega,rfl,by go_num,by rw[List.length_append,za HM];rfl,O9,G9,zaa (by
        rw[za TK2,← za HP]
        simp only[rss,List.map_append,List.map_cons,List.map_nil]),B9⟩,by simp[intOf];omega⟩
     |false =>
      by_cases hq0:q=0
      ·subst hq0
       have TK2:=zaa (show za5 ks 0 (rss (rs.take (j+1)))=za5 ks 0 (rss (rs.take j)) by
        rw[za TK];unfold zcf
        rw[if_pos (show t.la=false∧(za3 t.cs t.y U).2=U from(zed (za OK) U).2 ⟨za HLA,.inr (za HQ)⟩),List.append_nil])
       clear TK MC
       go_wp2
       exact⟨⟨j+1,m,op,oc,out,by omega,by omega,rfl,by go_num,za HM,za O1,za HG,by rw[za TK2];exact za HP,za B1⟩,by simp[intOf];omega⟩
      ·have yq:((q:Int)==0)=false:=by simp;omega
       have TK2:=zaa (show za5 ks 0 (rss (rs.take (j+1)))=za5 ks 0 (rss (rs.take j))++[(nm,⟨true,Y,[]⟩)] by
        rw[za TK];unfold zcf;rw[if_neg (show ¬ (t.la=false∧(za3 t.cs t.y U).2=U) from fun hh=>(fun (e:t.la=false∧_)=>e.2.elim (fun e=>hU0 e) (fun e=>hq0 ((za HQ).symm.trans e))) ((zed (za OK) U).1 hh))];show _++[(nm,(⟨true,(za3 t.cs t.y U).1,[]⟩:Sp))]=_
        rw[za HY])
       clear TK
       go_wp2_with fail
       generalize wr.alloc (.cells #[.string (str nm),.bool false,.slice yp t.y.length yc,.slice up q uc] 116)=V7 at *;have z0:=zan (za XX) 0 _ rfl;have z1:=zan (za XX) 1 _ rfl;have z2:=zan (za XX) 2 _ rfl;have z3:=zan (za XX) 3 _ rfl
       go_region_law (first
        |(have hU':W2=W2:=rfl
          clear hU';refine zfo rfl (.tmp 55) (.tmp 62) rfl base op m oc out rfl (za HM) (by exact za Oa) W2.heap.size (nm,⟨⟨true,Y,[]⟩,sp2,c2,none,0⟩) rfl (by exact za Xa) (by exact za Da) (by omega) (by exact za Sa) ?_;intro sp9 c9 W9 hO9 hG9;have O9:=zaa hO9;have B9:=zaa (show Below w.heap.size w W9 from(za Ba).grown hG9.grown (za Ba).size (fun g' hg'=>za HG g' (.inl hg')))
          have G9:=zaa (show ∀ g,zew sp9 (out++[(nm,⟨⟨true,Y,[]⟩,sp2,c2,none,0⟩)]) g→w.heap.size≤g from fun g hg=>by
           rcases hg with hg|⟨z,hz,hg⟩
           ·rcases hG9.lies g hg with h1|h1
            ·exact za HG g (.inl h1)
            ·exact Nat.le_trans (za Ba).size h1
           ·rcases List.mem_append.1 hz with hz|hz
            ·exact za HG g (.inr ⟨z,hz,hg⟩)
            ·have hz1:=List.mem_singleton.1 hz;subst hz1;rcases hg with hg|hg
             ·exact za La g hg
             ·cases hg)
          clear hO9 hG9)
        |(go_simp
          go_at_call 78
          refine(za MC).mono ?_;rintro e W2 ⟨sp2,n2,c2,rfl,hn2,hX,b2⟩;have hW:n2=Y.length:=hn2.symm;subst hW;have bV:=zaa (show Below V7.heap.size V7 W2 from⟨b2.os,b2.tape,b2.output,b2.size,b2.block⟩);have bA:=zaa (show Below W2.heap.size W2 (W2.alloc (.cells #[.string (str nm),.bool true,.slice sp2 Y.length c2,.slice none 0 0] 116)) from(Below.refl _ _).alloc (Nat.le_refl _) _);have bVA:=zaa ((za bV).trans ((za bA).mono (za bV).size));have Ba:=zaa ((za B1).trans ((za bVA).mono (za B1).size));have Oa:=zaa ((za O1).later (za bVA));have Xa:=zaa (zad W2 (.cells #[.string (str nm),.bool true,.slice sp2 Y.length c2,.slice none 0 0] 116));have Sa:=zaa (Nat.le_trans (za HS) (za Ba).size);have La:=zaa (show ∀ g,blk sp2=some g→w.heap.size≤g from fun g hg=>Nat.le_trans (za B1).size (hX.isT g hg).1);have Da:=zaa (show RfAt base (W2.alloc (.cells #[.string (str nm),.bool true,.slice sp2 Y.length c2,.slice none 0 0] 116)) (nm,⟨⟨true,Y,[]⟩,sp2,c2,none,0⟩) from⟨za YOK,(hX.mono (Nat.le_trans (za HS) (za B1).size)).later (za bA),World.ownsRow_nil _ base 150 3,by simp[Sp.us,usL]⟩);have Z1:=(za bV).block _ (Array.getElem?_eq_some_iff.1 (za XX)).1;rw[za XX] at Z1;have v0:=zan Z1 0 _ rfl;have v1:=zan Z1 1 _ rfl;have v2:=zan Z1 2 _ rfl;have v3:=zan Z1 3 _ rfl
          clear hX hn2 b2 Z1))
       all_goals
        go_wp2
        exact⟨⟨j+1,m+1,sp9,c9,out++[(nm,⟨⟨true,Y,[]⟩,sp2,c2,none,0⟩)],by omega,by omega,rfl,by go_num,by rw[List.length_append,za HM];rfl,O9,G9,zaa (by
         rw[za TK2,← za HP]
         simp only[rss,List.map_append,List.map_cons,List.map_nil]),B9⟩,by simp[intOf];omega⟩
    ·have hkU:U=0:=by omega
     subst hkU;have yk:(j:Int)<(kn:Int):=by omega
     clear hmax;cases la with
     |true =>
      have TK2:=zaa (show za5 ks 0 (rss (rs.take (j+1)))=za5 ks 0 (rss (rs.take j))++[(nm,⟨true,Y,[]⟩)] by
       rw[za TK];unfold zcf;rw[if_neg (show ¬ (t.la=false∧(za3 t.cs t.y 0).2=0) from fun hh=>(fun (e:t.la=false∧_)=>by have:=za HLA;rw[e.1] at this;cases this) ((zed (za OK) 0).1 hh))];show _++[(nm,(⟨true,(za3 t.cs t.y 0).1,[]⟩:Sp))]=_
       rw[za HY])
      clear TK
      go_wp2_with fail
      generalize wr.alloc (.cells #[.string (str nm),.bool true,.slice yp t.y.length yc,.slice up q uc] 116)=V7 at *;have z0:=zan (za XX) 0 _ rfl;have z1:=zan (za XX) 1 _ rfl;have z2:=zan (za XX) 2 _ rfl;have z3:=zan (za XX) 3 _ rfl
      go_region_law (first
       |(have hU':W2=W2:=rfl
         clear hU';refine zfo rfl (.tmp 55) (.tmp 62) rfl base op m oc out rfl (za HM) (by exact za Oa) W2.heap.size (nm,⟨⟨true,Y,[]⟩,sp2,c2,none,0⟩) rfl (by exact za Xa) (by exact za Da) (by omega) (by exact za Sa) ?_;intro sp9 c9 W9 hO9 hG9;have O9:=zaa hO9;have B9:=zaa (show Below w.heap.size w W9 from(za Ba).grown hG9.grown (za Ba).size (fun g' hg'=>za HG g' (.inl hg')))
         have G9:=zaa (show ∀ g,zew sp9 (out++[(nm,⟨⟨true,Y,[]⟩,sp2,c2,none,0⟩)]) g→w.heap.size≤g from fun g hg=>by
          rcases hg with hg|⟨z,hz,hg⟩
          ·rcases hG9.lies g hg with h1|h1
           ·exact za HG g (.inl h1)
           ·exact Nat.le_trans (za Ba).size h1
          ·rcases List.mem_append.1 hz with hz|hz
           ·exact za HG g (.inr ⟨z,hz,hg⟩)
           ·have hz1:=List.mem_singleton.1 hz;subst hz1;rcases hg with hg|hg
            ·exact za La g hg
            ·cases hg)
         clear hO9 hG9)
       |(go_simp
         go_at_call 78
         refine(za MC).mono ?_;rintro e W2 ⟨sp2,n2,c2,rfl,hn2,hX,b2⟩;have hW:n2=Y.length:=hn2.symm;subst hW;have bV:=zaa (show Below V7.heap.size V7 W2 from⟨b2.os,b2.tape,b2.output,b2.size,b2.block⟩);have bA:=zaa (show Below W2.heap.size W2 (W2.alloc (.cells #[.string (str nm),.bool true,.slice sp2 Y.length c2,.slice none 0 0] 116)) from(Below.refl _ _).alloc (Nat.le_refl _) _);have bVA:=zaa ((za bV).trans ((za bA).mono (za bV).size));have Ba:=zaa ((za B1).trans ((za bVA).mono (za B1).size));have Oa:=zaa ((za O1).later (za bVA));have Xa:=zaa (zad W2 (.cells #[.string (str nm),.bool true,.slice sp2 Y.length c2,.slice none 0 0] 116));have Sa:=zaa (Nat.le_trans (za HS) (za Ba).size);have La:=zaa (show ∀ g,blk sp2=some g→w.heap.size≤g from fun g hg=>Nat.le_trans (za B1).size (hX.isT g hg).1);have Da:=zaa (show RfAt base (W2.alloc (.cells #[.string (str nm),.bool true,.slice sp2 Y.length c2,.slice none 0 0] 116)) (nm,⟨⟨true,Y,[]⟩,sp2,c2,none,0⟩) from⟨za YOK,(hX.mono (Nat.le_trans (za HS) (za B1).size)).later (za bA),World.ownsRow_nil _ base 150 3,by simp[Sp.us,usL]⟩);have Z1:=(za bV).block _ (Array.getElem?_eq_some_iff.1 (za XX)).1;rw[za XX] at Z1;have v0:=zan Z1 0 _ rfl;have v1:=zan Z1 1 _ rfl;have v2:=zan Z1 2 _ rfl;have v3:=zan Z1 3 _ rfl
         clear hX hn2 b2 Z1))
      all_goals
       go_wp2
       exact⟨⟨j+1,m+1,sp9,c9,out++[(nm,⟨⟨true,Y,[]⟩,sp2,c2,none,0⟩)],by omega,by omega,rfl,by go_num,by rw[List.length_append,za HM];rfl,O9,G9,zaa (by
        rw[za TK2,← za HP]
        simp only[rss,List.map_append,List.map_cons,List.map_nil]),B9⟩,by simp[intOf];omega⟩
     |false =>
      have TK2:=zaa (show za5 ks 0 (rss (rs.take (j+1)))=za5 ks 0 (rss (rs.take j)) by
       rw[za TK];unfold zcf
       rw[if_pos (show t.la=false∧(za3 t.cs t.y 0).2=0 from(zed (za OK) 0).2 ⟨za HLA,.inl rfl⟩),List.append_nil])
      clear TK MC
      go_wp2
      exact⟨⟨j+1,m,op,oc,out,by omega,by omega,rfl,by go_num,za HM,za O1,za HG,by rw[za TK2];exact za HP,za B1⟩,by simp[intOf];omega⟩
   ·have yk:¬ (j:Int)<(kn:Int):=by omega
    cases la with
    |true =>
     have TK2:=zaa (show za5 ks 0 (rss (rs.take (j+1)))=za5 ks 0 (rss (rs.take j))++[(nm,⟨true,Y,[]⟩)] by
      rw[za TK];unfold zcf;rw[if_neg (show ¬ (t.la=false∧(za3 t.cs t.y 0).2=0) from fun hh=>(fun (e:t.la=false∧_)=>by have:=za HLA;rw[e.1] at this;cases this) ((zed (za OK) 0).1 hh))];show _++[(nm,(⟨true,(za3 t.cs t.y 0).1,[]⟩:Sp))]=_
      rw[za HY])
     clear TK
     go_wp2_with fail
     generalize wr.alloc (.cells #[.string (str nm),.bool true,.slice yp t.y.length yc,.slice up q uc] 116)=V7 at *;have z0:=zan (za XX) 0 _ rfl;have z1:=zan (za XX) 1 _ rfl;have z2:=zan (za XX) 2 _ rfl;have z3:=zan (za XX) 3 _ rfl
     go_region_law (first
      |(have hU':W2=W2:=rfl
        clear hU';refine zfo rfl (.tmp 55) (.tmp 62) rfl base op m oc out rfl (za HM) (by exact za Oa) W2.heap.size (nm,⟨⟨true,Y,[]⟩,sp2,c2,none,0⟩) rfl (by exact za Xa) (by exact za Da) (by omega) (by exact za Sa) ?_;intro sp9 c9 W9 hO9 hG9;have O9:=zaa hO9;have B9:=zaa (show Below w.heap.size w W9 from(za Ba).grown hG9.grown (za Ba).size (fun g' hg'=>za HG g' (.inl hg')))
        have G9:=zaa (show ∀ g,zew sp9 (out++[(nm,⟨⟨true,Y,[]⟩,sp2,c2,none,0⟩)]) g→w.heap.size≤g from fun g hg=>by
         rcases hg with hg|⟨z,hz,hg⟩
         ·rcases hG9.lies g hg with h1|h1
          ·exact za HG g (.inl h1)
          ·exact Nat.le_trans (za Ba).size h1
         ·rcases List.mem_append.1 hz with hz|hz
          ·exact za HG g (.inr ⟨z,hz,hg⟩)
          ·have hz1:=List.mem_singleton.1 hz;subst hz1;rcases hg with hg|hg
           ·exact za La g hg
           ·cases hg)
        clear hO9 hG9)
      |(go_simp
        go_at_call 78
        refine(za MC).mono ?_;rintro e W2 ⟨sp2,n2,c2,rfl,hn2,hX,b2⟩;have hW:n2=Y.length:=hn2.symm;subst hW;have bV:=zaa (show Below V7.heap.size V7 W2 from⟨b2.os,b2.tape,b2.output,b2.size,b2.block⟩);have bA:=zaa (show Below W2.heap.size W2 (W2.alloc (.cells #[.string (str nm),.bool true,.slice sp2 Y.length c2,.slice none 0 0] 116)) from(Below.refl _ _).alloc (Nat.le_refl _) _);have bVA:=zaa ((za bV).trans ((za bA).mono (za bV).size));have Ba:=zaa ((za B1).trans ((za bVA).mono (za B1).size));have Oa:=zaa ((za O1).later (za bVA));have Xa:=zaa (zad W2 (.cells #[.string (str nm),.bool true,.slice sp2 Y.length c2,.slice none 0 0] 116));have Sa:=zaa (Nat.le_trans (za HS) (za Ba).size);have La:=zaa (show ∀ g,blk sp2=some g→w.heap.size≤g from fun g hg=>Nat.le_trans (za B1).size (hX.isT g hg).1);have Da:=zaa (show RfAt base (W2.alloc (.cells #[.string (str nm),.bool true,.slice sp2 Y.length c2,.slice none 0 0] 116)) (nm,⟨⟨true,Y,[]⟩,sp2,c2,none,0⟩) from⟨za YOK,(hX.mono (Nat.le_trans (za HS) (za B1).size)).later (za bA),World.ownsRow_nil _ base 150 3,by simp[Sp.us,usL]⟩);have Z1:=(za bV).block _ (Array.getElem?_eq_some_iff.1 (za XX)).1;rw[za XX] at Z1;have v0:=zan Z1 0 _ rfl;have v1:=zan Z1 1 _ rfl;have v2:=zan Z1 2 _ rfl;have v3:=zan Z1 3 _ rfl
        clear hX hn2 b2 Z1))
     all_goals
      go_wp2
      exact⟨⟨j+1,m+1,sp9,c9,out++[(nm,⟨⟨true,Y,[]⟩,sp2,c2,none,0⟩)],by omega,by omega,rfl,by go_num,by rw[List.length_append,za HM];rfl,O9,G9,zaa (by
       rw[za TK2,← za HP]
       simp only[rss,List.map_append,List.map_cons,List.map_nil]),B9⟩,by simp[intOf];omega⟩
    |false =>
     have TK2:=zaa (show za5 ks 0 (rss (rs.take (j+1)))=za5 ks 0 (rss (rs.take j)) by
      rw[za TK];unfold zcf
      rw[if_pos (show t.la=false∧(za3 t.cs t.y 0).2=0 from(zed (za OK) 0).2 ⟨za HLA,.inl rfl⟩),List.append_nil])
     clear TK MC
     go_wp2
     exact⟨⟨j+1,m,op,oc,out,by omega,by omega,rfl,by go_num,za HM,za O1,za HG,by rw[za TK2];exact za HP,za B1⟩,by simp[intOf];omega⟩
  ·have y1:¬ (j:Int)<(n:Int):=by omega
   have hjr:rs.take j=rs:=List.take_of_length_le (by rw[za HN];omega);rw[hjr] at HP;have E3:=zaa (za EN wr op m oc out (za HB) (za HO) (za HM) (za HG) (za HP));clear hjr
   go_wp2
   go_end0
   exact⟨rfl,za E3⟩
end
def RAt (Fv:Nat→Prop) (w:World) (R room:Nat) (ss:Ds):Prop:=∃ sp c rs,RefAt 0 w R room sp c rs∧rss rs=ss∧∀ g,zew sp rs g→Fv g
section
variable {Fv Bv:Nat→Prop} {base d M R room N:Nat} {w0 w w':World} {ss tt:Ds}
theorem RAt.same (h:RAt Fv w R room ss) (hR:w'.heap[R]? = w.heap[R]?) (hs:∀ g,Fv g→w'.heap[g]? = w.heap[g]?):RAt Fv w' R room ss:=by
 obtain⟨sp,c,rs,h1,h2,h3⟩:=h;exact⟨sp,c,rs,h1.same hR (fun g hg=>hs g (h3 g hg)),h2,h3⟩
theorem RAt.later (h:RAt Fv w R room ss) (hb:Below w.heap.size w w'):RAt Fv w' R room ss:=by
 obtain⟨sp,c,rs,h1,h2,h3⟩:=h;exact⟨sp,c,rs,h1.later hb,h2,h3⟩
theorem RAt.ltR (h:RAt Fv w R room ss):R<w.heap.size:=by
 obtain⟨sp,c,rs,h1,h2,h3⟩:=h;exact h1.ltR
theorem RAt.sub {Gv:Nat→Prop} (h:RAt Fv w R room ss) (hs:∀ g,Fv g→Gv g):RAt Gv w R room ss:=by
 obtain⟨sp,c,rs,h1,h2,h3⟩:=h;exact⟨sp,c,rs,h1,h2,fun g hg=>hs g (h3 g hg)⟩
theorem RAt.rise (h:RAt Fv w R room ss):zbf ss:=by
 obtain⟨sp,c,rs,h1,rfl,h3⟩:=h;exact h1.rise.map _
theorem RAt.len (h:RAt Fv w R room ss):ss.length≤16:=by
 obtain⟨sp,c,rs,h1,rfl,h3⟩:=h;unfold rss;rw[List.length_map];exact h1.few
structure RSo (Fv:Nat→Prop) (w0 w:World) (R room:Nat) (ss:Ds):Prop where
 at_:RAt (fun g=>Fv g∨(w0.heap.size≤g∧g<w.heap.size)) w R room ss
 grown:w0.grownBy w (some R)
theorem RSo.start (h:RAt Fv w R room ss):RSo Fv w w R room ss:=⟨h.sub (fun g hg=>.inl hg),zdf _ _⟩
theorem RSo.below (h:RSo Fv w0 w R room ss) (hb:Below w.heap.size w w'):RSo Fv w0 w' R room ss :=
 ⟨(h.at_.later hb).sub (fun g hg=>hg.imp id (fun q=>⟨q.1,Nat.lt_of_lt_of_le q.2 hb.size⟩)),zag h.grown (zb0 _ hb)⟩
def zuc (Fv:Nat→Prop) (w0:World) (R room:Nat) (w:World) (r:Nat×Ds) (e:Ending) (w':World):Prop:=e=.returned (.int .i64 (r.1:Int))∧RSo Fv w0 w' R room r.2∧w.grownBy w' (some R)
theorem RSo.done {sp:Option Addr} {rs rs':List Rf} (h3:∀ g,zew sp rs g→Fv g∨(w0.heap.size≤g∧g<w.heap.size)) (hg0:w0.grownBy w (some R)) (hd:RDone 0 R room w sp rs rs' w'):RSo Fv w0 w' R room (rss rs'):=by
 obtain⟨⟨sp',c',ha,hf⟩,hg⟩:=hd;refine⟨⟨sp',c',rs',ha,rfl,fun g hg'=>?_⟩,zag hg0 hg⟩;rcases hf g hg' with q|q
 ·exact(h3 g q).imp id (fun z=>⟨z.1,Nat.lt_of_lt_of_le z.2 hg.size⟩)
 ·exact .inr ⟨Nat.le_trans hg0.size q,(ha.own.lt hg').2⟩
theorem RSo.ended {r:Nat×Ds} {sp:Option Addr} {rs:List Rf} {e:Ending} (h3:∀ g,zew sp rs g→Fv g∨(w0.heap.size≤g∧g<w.heap.size)) (hg0:w0.grownBy w (some R)) (hE:zhf 0 R room w sp rs r e w'):zuc Fv w0 R room w r e w':=by
 obtain⟨he,rs',h2,hd⟩:=hE;refine⟨he,?_,hd.grown⟩;rw[← h2];exact RSo.done h3 hg0 hd
theorem zea (h:RSo Fv w0 w R room ss) (s:ByteArray):Calls Tryz.prog 98 #[.pointer (some ⟨R,0,none⟩),.string s] w (zuc Fv w0 R room w (zat s.data.toList ss)):=by
 obtain⟨⟨sp,c,rs,h1,rfl,h3⟩,hg0⟩:=h;exact(zon h1 (Nat.zero_le _) s).mono fun e w' hE=>RSo.ended h3 hg0 hE
theorem zgk (h:RSo Fv w0 w R room ss) (s:ByteArray):Calls Tryz.prog 74 #[.pointer (some ⟨R,0,none⟩),.string s] w (zuc Fv w0 R room w (zax s.data.toList ss)):=by
 obtain⟨⟨sp,c,rs,h1,rfl,h3⟩,hg0⟩:=h;exact(zsl h1 (Nat.zero_le _) s).mono fun e w' hE=>RSo.ended h3 hg0 hE
theorem zi0 (h:RSo Fv w0 w R room ss) (s b:ByteArray) (hb:b.size≤maxLen):Calls Tryz.prog 114 #[.pointer (some ⟨R,0,none⟩),.string s,.string b] w (zuc Fv w0 R room w (zak s.data.toList b.data.toList ss)):=by
 obtain⟨⟨sp,c,rs,h1,rfl,h3⟩,hg0⟩:=h;exact(zoo h1 (Nat.zero_le _) s b hb).mono fun e w' hE=>RSo.ended h3 hg0 hE
def zht (k:Nat) (ss:Ds):Prop:=∀ x∈ss,x.2.cs.length≤k
theorem zd3 (h:RSo Fv w0 w R room ss) (hc:zht 300 ss) (s:ByteArray) (hs:s.size≤maxLen) (z:Int) (hz64:z≤9223372036854775807) (xp:Option Addr) (xn xc:Nat) (o:List Nat) (ho:o.length=xn) (hB:BytesAt w xp o) (hxl:xn≤10000000000) :
  Calls Tryz.prog 110 #[.pointer (some ⟨R,0,none⟩),.string s,.int .i64 z,.slice xp xn xc] w (zuc Fv w0 R room w (zai room s.data.toList z o ss)):=by
 obtain⟨⟨sp,c,rs,h1,rfl,h3⟩,hg0⟩:=h;exact(zq2 h1 (Nat.zero_le _) s hs z hz64 xp xn xc o ho hB hxl (fun x hx=>hc (x.1,x.2.s) (List.mem_map.2 ⟨x,hx,rfl⟩))).mono fun e w' hE=>RSo.ended h3 hg0 hE
theorem zvu (h:RSo Fv w0 w R room ss) (hc:zht 300 ss) (s:ByteArray) (z:Int):Calls Tryz.prog 102 #[.pointer (some ⟨R,0,none⟩),.string s,.int .i64 z] w (zuc Fv w0 R room w (zf s.data.toList z ss)):=by
 obtain⟨⟨sp,c,rs,h1,rfl,h3⟩,hg0⟩:=h;exact(zvg h1 (Nat.zero_le _) s z (fun x hx=>hc (x.1,x.2.s) (List.mem_map.2 ⟨x,hx,rfl⟩))).mono fun e w' hE=>RSo.ended h3 hg0 hE
theorem zj0 (h:RSo Fv w0 w R room ss) (kp:Option Addr) (kn kc:Nat) (ks:List Int) (hks:ks.length=kn) (hI:IntsAt w kp ks) :
  Calls Tryz.prog 38 #[.pointer (some ⟨R,0,none⟩),.slice kp kn kc] w fun e w'=>e=.returned (.tuple #[])∧RSo Fv w0 w' R room (za5 ks 0 ss)∧w.grownBy w' (some R):=by
 obtain⟨⟨sp,c,rs,h1,rfl,h3⟩,hg0⟩:=h;refine(zqd h1 (Nat.zero_le _) kp kn kc ks hks hI).mono ?_;rintro e W ⟨rfl,rs',h2,hd⟩;refine⟨rfl,?_,hd.grown⟩;rw[← h2];exact RSo.done h3 hg0 hd
theorem zhd (h:RSo Fv w0 w R room ss):Calls Tryz.prog 39 #[.pointer (some ⟨R,0,none⟩)] w fun e w'=>∃ sp n c,e=.returned (.slice sp n c)∧ss.length=n∧zfv w.heap.size w' sp c (ss.map (·.1))∧RSo Fv w0 w' R room ss∧Below w.heap.size w w':=by
 obtain⟨⟨sp,c,rs,h1,rfl,h3⟩,hg0⟩:=id h;refine(zqq h1).mono ?_;rintro e W ⟨sp',n',c',rfl,hn,ho,hb⟩;refine⟨sp',n',c',rfl,by unfold rss;rw[List.length_map];exact hn,?_,h.below hb,hb⟩;unfold rss;rw[List.map_map];exact ho
theorem ze5 (h:RSo Fv w0 w R room ss) (s:ByteArray):Calls Tryz.prog 45 #[.pointer (some ⟨R,0,none⟩),.string s] w fun e w'=>∃ sp n c x,e=.returned (.tuple #[.slice sp n c,.int .i64 x])∧(zdn s.data.toList ss).length=n∧n≤262144∧Bx w.heap.size w' sp c (zdn s.data.toList ss)∧RSo Fv w0 w' R room ss∧Below w.heap.size w w':=by
 obtain⟨⟨sp,c,rs,h1,rfl,h3⟩,hg0⟩:=id h;cases hx:zcc s.data.toList (rss rs) with
 |none =>
  refine(zzx h1 s hx).mono ?_;rintro e W ⟨rfl,rfl⟩;have e0:zdn s.data.toList (rss rs)=[]:=by unfold zdn;rw[hx];rfl
  rw[e0];exact⟨none,0,0,8,rfl,rfl,by omega,Bx.ofNil _ _,h,Below.refl _ _⟩
 |some x =>
  refine(zqt h1 s x hx).mono ?_;rintro e W ⟨sp',n',c',rfl,hn,hX,hb⟩;have e0:zdn s.data.toList (rss rs)=x.now:=by unfold zdn;rw[hx];rfl
  rw[e0];have h8:x.now.length≤262144:=by
   rw[zbr,Option.map_eq_some_iff] at hx;obtain⟨v,hv,rfl⟩:=hx;exact(h1.own.dat _ (zcp hv)).ok.synced.y8
  exact⟨sp',n',c',0,rfl,hn,by omega,hX,h.below hb,hb⟩
theorem DAt.right {Av:Nat→Prop} (h:DAt Av base w d M room N ss) (hR:Av R) (hg:w.grownBy w' (some R)):DAt (fun g=>Av g∨(w.heap.size≤g∧g<w'.heap.size)) base w' d M room N ss:=by
 obtain⟨fs,h1,h2,h3⟩:=h.at_;refine⟨Nat.le_trans h.le hg.size,h.few,fs,h1.same (fun g hl hm=>hg.block g hl (fun e=>?_)),h2,fun g hav=>?_⟩
 ·have:=Option.some.inj e;subst this;rcases hm with hm|hm
  ·exact(h3 _ hR).2.1 hm
  ·exact(h3 _ hR).2.2 hm
 ·rcases hav with hav|⟨g1,g2⟩
  ·exact⟨Nat.lt_of_lt_of_le (h3 g hav).1 hg.size,(h3 g hav).2⟩
  ·refine⟨g2,fun hm=>?_,fun hm=>?_⟩
   ·have:=(h1.mut_lt hm).2;omega
   ·have:=(h1.red_lt hm).2;omega
end
end
section
open Go.ChangeShapes Go.WideShapes Go.ChangeAt Go.RowKit
theorem ztj {w:World} {g d:Nat} (h:w.heap[g]? = some (.cells #[.int .u8 (d:Int)] 5 (0,0))) (hd:d<256):(convert 62 9 (.slice (some ⟨g,0,none⟩) 1 1)).run Tryz.prog w=.ok (.string (str [UInt8.ofNat d])) w :=
 zcy (l:=[d]) 1 1 rfl (zbx (g:=g) (l:=[d]) (t:=5) (fr:=(0,0)) h (fun c hc=>by rw[List.mem_singleton] at hc;omega))
theorem zln {w:World} {ops:Array Oper} {o:Oper} {a:Act} {K:Act→World→Prop} {Q:Exit→Act→World→Prop} {E:Prop} (hgd:o.guard=none) (t:Nat)
  (ho:o.op=.buildSlice 62 1 #[(0,.tmp t)]) (d:Nat) (hs:a.tmps[t]?.getD undef=.int .u8 (d:Int))
  (h:∀ g w',w'.heap[g]? = some (.cells #[.int .u8 (d:Int)] 5 (0,0))→Below w.heap.size w w'→K (a.put o.dst (.slice (some ⟨g,0,none⟩) 1 1)) w') :
  if Region.wanted o (yielded ops a.tmps)=true then Oper.wp Tryz.prog o a w K Q else E:=by
 have hw:Region.wanted o (yielded ops a.tmps)=true:=by simp[Region.wanted,hgd]
 rw[if_pos hw];have h1:=h w.heap.size (w.alloc (.cells #[.int .u8 (d:Int)] 5)) (zad w _) ((Below.refl _ _).alloc (Nat.le_refl _) _);unfold Oper.wp;simp[execOp,ho,go_sem,hs];exact h1
theorem zlo {w:World} {ops:Array Oper} {o:Oper} {a:Act} {K:Act→World→Prop} {Q:Exit→Act→World→Prop} {E:Prop} (hgd:o.guard=none) (s:Operand) (f t:TypeId)
  (ho:o.op=.convert f t s) (v x:Value) (hs:a.eval s=v) (hr:(convert f t v).run Tryz.prog w=.ok x w)
  (h:K (a.put o.dst x) w) :
  if Region.wanted o (yielded ops a.tmps)=true then Oper.wp Tryz.prog o a w K Q else E:=by
 have hw:Region.wanted o (yielded ops a.tmps)=true:=by simp[Region.wanted,hgd]
 rw[if_pos hw];unfold Oper.wp;simp[execOp,ho,hs,hr,Result.andThen];exact h
theorem zpl (n:Nat) (h:n<10) (w:World):Calls Tryz.prog 80 #[.int .i64 (n:Int)] w fun e w'=>e=.returned (.string (str (Lib.decDigits n)))∧Below w.heap.size w w':=by
 rw[ze3 h];have hx:(n:Int)<10:=by omega
 have hw:IntKind.u8.wrap (48+(n:Int))=((48+n:Nat):Int):=by rw[IntKind.wrap_u8];omega
 have hcv:=ztj (zad w (.cells #[.int .u8 ((48+n:Nat):Int)] 5)) (show 48+n<256 by omega);have B1:=zaa (show Below w.heap.size w (w.alloc (.cells #[.int .u8 ((48+n:Nat):Int)] 5)) from(Below.refl _ _).alloc (Nat.le_refl _) _);generalize ((48+n:Nat):Int)=d at *;generalize str [UInt8.ofNat (48+n)]=sd at *;go_enter Tryz.func80,Tryz.ntmps80
 go_wp2
 go_ret
 exact⟨rfl,za B1⟩
theorem zul (n:Nat) (h:¬ n<10) (hn:n≤9223372036854775807) (ih:∀ w,Calls Tryz.prog 80 #[.int .i64 ((n / 10:Nat):Int)] w fun e w'=>e=.returned (.string (str (Lib.decDigits (n / 10))))∧Below w.heap.size w w') (w:World):Calls Tryz.prog 80 #[.int .i64 (n:Int)] w fun e w'=>e=.returned (.string (str (Lib.decDigits n)))∧Below w.heap.size w w':=by
 have hx:¬ (n:Int)<10:=by omega
 have DD:=zaa (show(str (Lib.decDigits (n / 10)))++str [UInt8.ofNat (48+n % 10)]=str (Lib.decDigits n) from by rw[zi9 h];unfold str;apply ByteArray.ext;simp);have hsz:(str (Lib.decDigits (n / 10))).size≤20:=by rw[zb];exact Nat.le_trans (zga 18 (n / 10) (by omega)) (by omega)
 have hs1:(str [UInt8.ofNat (48+n % 10)]).size=1:=rfl;have IH:=zaa ih;have q1:IntKind.i64.wrap ((n:Int) / 10)=((n / 10:Nat):Int):=by rw[IntKind.wrap_i64];omega
 have q2:(n:Int).tmod 10=((n % 10:Nat):Int):=by rw[Int.tmod_eq_emod_of_nonneg (by omega)];omega
 have q3:IntKind.u8.wrap (48+((n % 10:Nat):Int))=((48+n % 10:Nat):Int):=by rw[IntKind.wrap_u8];omega
 have q4:IntKind.i64.wrap (48+((n % 10:Nat):Int))=48+((n % 10:Nat):Int):=by rw[IntKind.wrap_i64];omega
 have hd:48+n % 10<256:=by omega
 generalize n / 10=k at *;have hk9:n % 10<10:=by omega
 generalize n % 10=m at *;have XO:=zaa (show ∀ (V:World) (g:Nat),V.heap[g]? = some (.cells #[.int .u8 ((48+m:Nat):Int)] 5 (0,0))→(convert 62 9 (.slice (some ⟨g,0,none⟩) 1 1)).run Tryz.prog V=.ok (.string (str [UInt8.ofNat (48+m)])) V from fun V g h=>ztj h hd);clear hd;generalize 48+m=d at *;generalize str [UInt8.ofNat d]=sd at *;generalize str (Lib.decDigits k)=sk at *;have hq5:¬ 9223372036854775807<sk.size+1:=by omega
 clear ih;go_enter Tryz.func80,Tryz.ntmps80
 go_wp2_with fail
 have F:=zaa (show Below w.heap.size w w.drew from(Below.refl _ _).drew);refine wp_region_held_drew (S:=fun _=>True) (by kernel_rfl) ?_ (fun hHeld=>?_)
 ·try dsimp only
  all_goals exact trivial
 refine hT 0 ?_;refine hT 1 ?_;refine hT 3 ?_;refine hT 4 ?_;refine hT 5 ?_;refine hT 6 ?_;refine wpAnyH_ready (rs:=[2,7]) (by kernel_rfl) (by simp) ?_;refine AllReadyH.cons rfl (fun K hK=>?_) ?_
 ·go_simp
  refine(za IH _).mono ?_;rintro e W4 ⟨rfl,b4⟩;have F:=zaa ((za F).trans (b4.mono (za F).size));first|(have XB:=zaa (zac b4 (za XB)))|skip
  clear b4
  go_wp2_with fail
  refine hK.out _ _ ?_ (fun hHeld=>?_)
  ·try dsimp only
   all_goals exact trivial
  clear hK K;refine hP ?_;refine wpAnyH_ready (rs:=[7]) (by kernel_rfl) (by simp) ?_;refine AllReadyH.cons rfl (fun K hK=>?_) ?_
  ·refine zln rfl 16 rfl d rfl ?_;intro g7 W7 h7 b7;have XB:=zaa h7;have F:=zaa ((za F).trans (b7.mono (za F).size));clear h7 b7;refine hK.out _ _ ?_ (fun hHeld=>?_)
   ·try dsimp only
    all_goals exact trivial
   clear hK K;refine hP ?_;refine wpAnyH_ready (rs:=[8]) (by kernel_rfl) (by simp) ?_;refine AllReadyH.cons rfl (fun K hK=>?_) ?_
   ·refine zlo rfl (.tmp 17) _ _ rfl _ _ rfl (za XO _ _ (za XB)) ?_;refine hK.out _ _ ?_ (fun hHeld=>?_)
    ·try dsimp only
     all_goals exact trivial
    clear hK K;refine hP ?_;refine hT 9 ?_;refine hT 10 ?_;refine wpAnyH_done (by kernel_rfl) ?_ _
    go_wp2
    go_ret
    exact⟨by rw[za DD];rfl,za F⟩
   exact AllReadyH.nil
  exact AllReadyH.nil
 refine AllReadyH.cons rfl (fun K hK=>?_) ?_
 ·refine zln rfl 16 rfl d rfl ?_;intro g7 W7 h7 b7;have XB:=zaa h7;have F:=zaa ((za F).trans (b7.mono (za F).size));clear h7 b7;refine hK.out _ _ ?_ (fun hHeld=>?_)
  ·try dsimp only
   all_goals exact trivial
  clear hK K;refine hP ?_;refine wpAnyH_ready (rs:=[2,8]) (by kernel_rfl) (by simp) ?_;refine AllReadyH.cons rfl (fun K hK=>?_) ?_
  ·go_simp
   refine(za IH _).mono ?_;rintro e W4 ⟨rfl,b4⟩;have F:=zaa ((za F).trans (b4.mono (za F).size));first|(have XB:=zaa (zac b4 (za XB)))|skip
   clear b4
   go_wp2_with fail
   refine hK.out _ _ ?_ (fun hHeld=>?_)
   ·try dsimp only
    all_goals exact trivial
   clear hK K;refine hP ?_;refine wpAnyH_ready (rs:=[8]) (by kernel_rfl) (by simp) ?_;refine AllReadyH.cons rfl (fun K hK=>?_) ?_
   ·refine zlo rfl (.tmp 17) _ _ rfl _ _ rfl (za XO _ _ (za XB)) ?_;refine hK.out _ _ ?_ (fun hHeld=>?_)
    ·try dsimp only
     all_goals exact trivial
    clear hK K;refine hP ?_;refine hT 9 ?_;refine hT 10 ?_;refine wpAnyH_done (by kernel_rfl) ?_ _
    go_wp2
    go_ret
    exact⟨by rw[za DD];rfl,za F⟩
   exact AllReadyH.nil
  refine AllReadyH.cons rfl (fun K hK=>?_) ?_
  ·refine zlo rfl (.tmp 17) _ _ rfl _ _ rfl (za XO _ _ (za XB)) ?_;refine hK.out _ _ ?_ (fun hHeld=>?_)
   ·try dsimp only
    all_goals exact trivial
   clear hK K;refine hP ?_;refine wpAnyH_ready (rs:=[2]) (by kernel_rfl) (by simp) ?_;refine AllReadyH.cons rfl (fun K hK=>?_) ?_
   ·go_simp
    refine(za IH _).mono ?_;rintro e W4 ⟨rfl,b4⟩;have F:=zaa ((za F).trans (b4.mono (za F).size));first|(have XB:=zaa (zac b4 (za XB)))|skip
    clear b4
    go_wp2_with fail
    refine hK.out _ _ ?_ (fun hHeld=>?_)
    ·try dsimp only
     all_goals exact trivial
    clear hK K;refine hP ?_;refine hT 9 ?_;refine hT 10 ?_;refine wpAnyH_done (by kernel_rfl) ?_ _
    go_wp2
    go_ret
    exact⟨by rw[za DD];rfl,za F⟩
   exact AllReadyH.nil
  exact AllReadyH.nil
 exact AllReadyH.nil
theorem zfh (n:Nat):n≤9223372036854775807→∀ w,Calls Tryz.prog 80 #[.int .i64 (n:Int)] w fun e w'=>e=.returned (.string (str (Lib.decDigits n)))∧Below w.heap.size w w':=by
 induction n using Nat.strongRecOn with
 |ind n ih =>
  intro hn w;by_cases h:n<10
  ·exact zpl n h w
  ·exact zul n h hn (ih (n / 10) (by omega) (by omega)) w
end
end Go.Proofs.YtofllbpfajppeaaGreatDoor
