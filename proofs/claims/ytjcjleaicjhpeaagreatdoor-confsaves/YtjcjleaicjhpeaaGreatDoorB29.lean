/- Conf: the program's Load. -/
import Derived.Test.YtjcjleaicjhpeaaGreatDoorB28
import Derived.Test.YtjcjleaicjhpeaaGreatDoorB01
import Derived.Test.YtjcjleaicjhpeaaGreatDoorB04
set_option linter.unusedVariables false
set_option maxRecDepth 20000
set_option maxHeartbeats 16000000
namespace Go.Proofs.YtjcjleaicjhpeaaGreatDoor
section
open Go.ChangeShapes Go.WideShapes Go.ChangeAt Go.RowKit
theorem zoi (a:Option Addr) (c:Nat) (l:List Nat) (w:World) (hc:l.length≤c) (hm:c≤maxLen) (hb:BytesAt w a l) (hz:a=none→c=0) (hMx:Mx w) :
  Calls Tryz.prog 26 #[.slice a l.length c] w (zly w l):=by
 have PB:0<l.length→∀ ad,a=some ad→ad.block<w.heap.size:=by
  intro h0 ad e;obtain⟨b,off,e2,hc2⟩:=hb.cell 0 h0;rw[e] at e2;have:=Option.some.inj e2;subst this;rcases Nat.lt_or_ge b w.heap.size with h|h
  ·exact h
  ·have:w.heap[b]? = none:=Array.getElem?_eq_none h;simp[World.cell?,this] at hc2
 have s1:(w.alloc (.cells #[.slice a l.length c,.int .i64 0,.int .i64 0] 104)).heap.size=w.heap.size+1:=by simp
 have b1:Below w.heap.size w (w.alloc (.cells #[.slice a l.length c,.int .i64 0,.int .i64 0] 104)):=(Below.refl _ _).alloc (Nat.le_refl _) _;have Z0:=zaa (show KR w.heap.size (w.alloc (.cells #[.slice a l.length c,.int .i64 0,.int .i64 0] 104)) a c l 0 0 from⟨zac w _,hb.later b1,fun h0 ad e=>by have:=PB h0 ad e;omega,by omega,by omega,hc,hm,hz⟩);have S0:=zaa (LSt.new (za Z0) #[.int .i64 0,.slice none 0 0,.slice none 0 0,.int .i64 0,.slice none 0 0]);rw[s1] at S0;have BB:=zaa b1;have HB:=zaa hb.lt;have ML:=zaa (show l.length≤maxLen by omega);have MX:=zaa (fun (W:World) (hw:Below w.heap.size w W)=>hMx.later hw);have LE:=zaa (show ∀ en W,zly w l en W→zly w l en W from fun _ _ h=>h);clear hb hz hMx PB s1 b1;go_enter Tryz.func26,Tryz.ntmps26
 obtain⟨n,k1,e1,q1⟩:=zqy (zem l 0 0);have NC:=zaa (zbv (za S0).z);rw[q1] at NC;unfold zen at NC;dsimp only at NC;have Q1:=zaa q1;clear q1;generalize hR:w.heap.size=R at *;generalize hC:R+1=C at *
 go_wp2_with fail
 try simp only[hR,hC]
 generalize (w.alloc (.cells #[.slice a l.length c,.int .i64 0,.int .i64 0] 104)).alloc (.cells #[.int .i64 0,.slice none 0 0,.slice none 0 0,.int .i64 0,.slice none 0 0] 107)=W0 at *;generalize w.alloc (.cells #[.slice a l.length c,.int .i64 0,.int .i64 0] 104)=w0 at *;go_at_call 54
 refine(za NC).mono ?_;rintro en V1 ⟨rfl,z1,g1⟩;have S1:=zaa ((za S0).num z1 g1);have f1:=zds (za S1).cb 0;have c1:=zab (za S1).cb 0 (.int .i64 0) rfl;have S2:=zaa (show LSt R C w0 (V1.setCell ⟨C,0,none⟩ (.int .i64 (n:Int))) a c l k1 e1 #[.int .i64 (n:Int),.slice none 0 0,.slice none 0 0,.int .i64 0,.slice none 0 0] from(za S1).put (za Z0) 0 (.int .i64 (n:Int)));have r1:=(za S2).z.c1;obtain⟨ps,k2,e2,q2⟩:=zqy (zqe l k1 e1);have K1L:=zaa (za S2).z.kl;have PC:=zaa (zk4 (za S2).z);rw[q2] at PC;unfold zsb at PC;dsimp only at PC;have Q2:=zaa q2;clear z1 g1 NC S0 S1 q2
 go_wp2_with fail
 clear f1 c1 r1;generalize V1.setCell ⟨C,0,none⟩ (.int .i64 (n:Int))=A1 at *;go_at_call 55
 refine(za PC).mono ?_;rintro en V2 ⟨pa,pc,lq,rfl,hlq,op,lt,z2,g2⟩;have LQ:=zaa hlq;have LT:=zaa lt;have BC:=zaa (za S2).lt;have S3:=zaa ((za S2).num z2 g2);have f1:=zds (za S3).cb 2;have c1:=zab (za S3).cb 2 (.slice none 0 0) rfl;have S4:=zaa (show LSt R C w0 (V2.setCell ⟨C,2,none⟩ (.slice pa lq.length pc)) a c l k2 e2 #[.int .i64 (n:Int),.slice none 0 0,.slice pa lq.length pc,.int .i64 0,.slice none 0 0] from(za S3).put (za Z0) 2 (.slice pa lq.length pc));have OP:=zaa (op.farK (zaf V2 C 2 (.slice pa lq.length pc)) (za BC).2);obtain⟨rs,k3,e3,q3⟩:=zqy (zql l k2 e2);have RC:=zaa (zjz (za S4).z);rw[q3] at RC;unfold zsc at RC;dsimp only at RC;have Q3:=zaa q3;clear z2 g2 PC S2 S3 q3 op lt hlq
 go_wp2_with fail
 clear f1 c1;generalize V2.setCell ⟨C,2,none⟩ (.slice pa lq.length pc)=A2 at *;go_at_call 56
 refine(za RC).mono ?_;rintro en V3 ⟨ra,rn,rc,rfl,hrn,orr,z3,g3⟩;subst hrn;have BC2:=zaa (za S4).lt;have S5:=zaa ((za S4).num z3 g3);have f1:=zds (za S5).cb 1;have c1:=zab (za S5).cb 1 (.slice none 0 0) rfl;have S6:=zaa (show LSt R C w0 (V3.setCell ⟨C,1,none⟩ (.slice ra rs.length rc)) a c l k3 e3 #[.int .i64 (n:Int),.slice ra rs.length rc,.slice pa lq.length pc,.int .i64 0,.slice none 0 0] from(za S5).put (za Z0) 1 (.slice ra rs.length rc));have OP2:=zaa (((za OP).farK g3 (za BC).1).farK (zaf V3 C 1 (.slice ra rs.length rc)) (za BC).2);have OR:=zaa (zbf orr (zaf V3 C 1 (.slice ra rs.length rc)) (za BC2).2);have r1:=(za S6).z.c1;have f2:=zds (za S6).cb 3;have c2:=zab (za S6).cb 3 (.int .i64 0) rfl;have hw:IntKind.i64.wrap ((k3:Int) - (k1:Int))=(k3:Int) - (k1:Int):=by
  have h3:=(za S6).z.kl;have h1:=(za Z0).kl;have h4:=za ML;have h5:=za K1L;simp only[maxLen] at h4;rw[IntKind.wrap_i64];omega
 have S7:=zaa (show LSt R C w0 ((V3.setCell ⟨C,1,none⟩ (.slice ra rs.length rc)).setCell ⟨C,3,none⟩ (.int .i64 ((k3:Int) - (k1:Int)))) a c l k3 e3 #[.int .i64 (n:Int),.slice ra rs.length rc,.slice pa lq.length pc,.int .i64 ((k3:Int) - (k1:Int)),.slice none 0 0] from(za S6).put (za Z0) 3 (.int .i64 ((k3:Int) - (k1:Int))));have OP3:=zaa ((za OP2).farK (zaf _ C 3 (.int .i64 ((k3:Int) - (k1:Int)))) (za BC).2);have OR3:=zaa (zbf (za OR) (zaf _ C 3 (.int .i64 ((k3:Int) - (k1:Int)))) (za BC2).2);obtain⟨cl,k4,e4,q4⟩:=zqy (zpl l k3 e3);have CC:=zaa (zix (za S7).z);rw[q4] at CC;unfold zsa at CC;dsimp only at CC;have Q4:=zaa q4;clear z3 g3 RC S4 S5 S6 q4 OP OP2 OR orr
 go_wp2_with fail
 clear f1 c1 r1 f2 c2 hw;generalize (V3.setCell ⟨C,1,none⟩ (.slice ra rs.length rc)).setCell ⟨C,3,none⟩ (.int .i64 ((k3:Int) - (k1:Int)))=A3 at *;go_at_call 57
 refine(za CC).mono ?_;rintro en V4 ⟨ca,cn,cc,rfl,hcn,oc,z4,g4⟩;subst hcn;have BC3:=zaa (za S7).lt;have S8:=zaa ((za S7).num z4 g4);have f1:=zds (za S8).cb 4;have c1:=zab (za S8).cb 4 (.slice none 0 0) rfl;have S9:=zaa (show LSt R C w0 (V4.setCell ⟨C,4,none⟩ (.slice ca cl.length cc)) a c l k4 e4 #[.int .i64 (n:Int),.slice ra rs.length rc,.slice pa lq.length pc,.int .i64 ((k3:Int) - (k1:Int)),.slice ca cl.length cc] from(za S8).put (za Z0) 4 (.slice ca cl.length cc));have OP4:=zaa (((za OP3).farK g4 (za BC).1).farK (zaf V4 C 4 (.slice ca cl.length cc)) (za BC).2);have OR4:=zaa (zbf (zbf (za OR3) g4 (za BC2).1) (zaf V4 C 4 (.slice ca cl.length cc)) (za BC2).2);have OC:=zaa (zbf oc (zaf V4 C 4 (.slice ca cl.length cc)) (za BC3).2);have EC:=zaa (zog (za S9).z);clear z4 g4 CC S7 S8 OP3 OR3 oc
 go_wp2_with fail
 clear f1 c1;generalize V4.setCell ⟨C,4,none⟩ (.slice ca cl.length cc)=A4 at *;go_at_call 58
 refine(za EC).mono ?_;rintro en V5 ⟨rfl,z5,g5⟩;have S10:=zaa ((za S9).num z5 g5);have OP5:=zaa ((za OP4).farK g5 (za BC).1);have OR5:=zaa (zbf (za OR4) g5 (za BC2).1);have OC5:=zaa (zbf (za OC) g5 (za BC3).1);have BW:=zaa ((za S10).below (za BB));have LD:=zaa (show LdK l n ps rs cl k1 k3 k4 e4 from⟨_,_,_,_,za Q1,za Q2,za Q3,za Q4⟩);have DD:=zaa (show ∀ W:World,Below V5.heap.size V5 W→W.cell? ⟨R,2,none⟩=some (.int .i64 ((zm l k4 e4:Nat):Int)) from fun W hb=>cell_later hb (za S10).z.c2);have CX:=zaa (za S10).cb;have PK:=zaa (zrk l k1 e1);rw[za Q2] at PK;have RK:=zaa (zrp l k2 e2);rw[za Q3] at RK;have CK:=zaa (zsj (za HB) k3 e3);rw[za Q4] at CK
 have LA:=zaa (show LdAt V5 ra rc rs pa pc lq ca cc cl from by
  have h1:=za PK;have h2:=za RK;have h3:=za CK;have h4:=za LQ;dsimp only at h1 h2 h3;have hl:lq.length=ps.length:=by rw[← h4,List.length_map]
  have hp:∀ q∈lq,q.po.nm.size≤128∧∀ t∈q.po.ts,t.1.size≤128:=fun q hq=>h1.2 q.po (by rw[← h4];exact List.mem_map.2 ⟨q,hq,rfl⟩);refine⟨zb4 (za OR5) (Nat.zero_le _),(za OP5).low (Nat.zero_le _),zb4 (za OC5) (Nat.zero_le _),fun q hq=>((za OP5).dat q hq).at_ (za LT q hq).1,⟨by omega,by omega,by omega⟩,fun r hr=>?_,fun q hq=>⟨by have:=(hp q hq).1;omega,(za LT q hq).2,fun t ht=>by have:=(hp q hq).2 t ht;omega⟩,fun x hx=>?_⟩
  ·have:=h2.2 r hr;unfold zka at this;omega
  ·have:=h3.2 x hx;unfold zqu at this
   omega)
 have LQ1:=zaa (za LQ);clear z5 g5 EC S9 S10 OP4 OR4 OC OP5 OR5 OC5 Q1 Q2 Q3 Q4 PK RK CK BC BC2 BC3 LT Z0 BB K1L;generalize hE:zm l k4 e4=E at *;have HE:=zaa hE;clear hE;have d2:=za DD _ (Below.refl _ _);by_cases he:E=0
 ·subst he;clear d2;have d2:V5.cell? ⟨R,2,none⟩=some (.int .i64 0):=za DD _ (Below.refl _ _);have x0:=zab (za CX) 0 _ rfl;have x1:=zab (za CX) 1 _ rfl;have x2:=zab (za CX) 2 _ rfl;have x3:=zab (za CX) 3 _ rfl;have x4:=zab (za CX) 4 _ rfl;have SC:=zaa (zm3 (ver:=(n:Int)) (size:=(k3:Int) - (k1:Int)) (za LA))
  go_wp2_with fail
  refine(za SC).mono ?_;rintro e V6 ⟨h',rfl,s6,u6,n1,n2,n3,n4⟩;have BW6:=zaa ((za BW).trans (u6.mono (by have:=(za BW).size;omega)));have MB:=zaa (zmk (ver:=(n:Int)) (size:=(k3:Int) - (k1:Int)) ((za LA).later u6) s6 (za MX _ (za BW6)));rw[zsu,za LQ1] at MB;have CX6:=zaa (zad u6 (za CX));have SS:=zaa s6;have NN:=zaa (show R≤h'.S∧R≤h'.P∧R≤h'.R∧R≤h'.C from by have:=(za BW).size;omega);clear SC u6 s6 n1 n2 n3 n4 x0 x1 x2 x3 x4 d2;have x0:=zab (za CX6) 0 _ rfl;have x1:=zab (za CX6) 1 _ rfl;have x2:=zab (za CX6) 2 _ rfl;have x3:=zab (za CX6) 3 _ rfl;have x4:=zab (za CX6) 4 _ rfl
  go_wp2_with fail
  refine(za MB).mono ?_;rintro e V7 ⟨rfl,u7⟩;have BW7:=zaa ((za BW6).trans (u7.mono (by have:=(za BW6).size;omega)));have SS7:=zaa ((za SS).later u7);clear x0 x1 x2 x3 x4 u7 MB CX6 CX SS;cases hmk:zqv (n:Int) ps rs cl ((k3:Int) - (k1:Int)) with
  |false =>
   have FF:=zaa (za LE _ V7 ⟨n,ps,rs,cl,k1,k3,k4,e4,za LD,by rw[hR];exact za BW7,.inr (.inl ⟨za HE,hmk,rfl⟩)⟩);clear LE SS7 hmk LA LD
   go_wp2
   go_ret2
   exact za FF
  |true =>
   have hp:=zol hmk;have kq:Kl qnm lq:=by
    have h0:(lq.map Pq.po).map pnm=lq.map qnm:=by rw[List.map_map];rfl
    rw[zc7,← h0,za LQ1,← zc7];exact hp.1
   have e1:=zff qnm lq kq;have e2:=zff rpl rs hp.2.1;have e3:=zff lid cl hp.2.2.1;rw[e1,e2,e3] at SS7;have FF:=zaa (za LE _ V7 ⟨n,ps,rs,cl,k1,k3,k4,e4,za LD,by rw[hR];exact za BW7,.inr (.inr ⟨za HE,hmk,h',⟨n,lq,rs,cl⟩,rfl,za SS7,⟨rfl,rfl,rfl,rfl⟩,za LQ1,by rw[hR];exact za NN⟩)⟩);clear LE SS7 hmk hp kq e1 e2 e3 LA LD
   go_wp2
   go_ret2
   exact za FF
 ·have y1:((E:Nat):Int)≠0:=by omega
  have y2:(((E:Nat):Int)==0)=false:=by simpa using he
  have BD:=zaa (show Below V5.heap.size V5 V5.drew from(Below.refl _ _).drew);have FF:=zaa (za LE (.returned (.tuple #[.pointer none,.int .i64 ((E:Nat):Int)])) V5.drew ⟨n,ps,rs,cl,k1,k3,k4,e4,za LD,by rw[hR];exact(za BW).drew,.inl ⟨by rw[za HE];exact he,by rw[za HE]⟩⟩);clear LE LA LD
  go_wp2_with fail
  refine wp_region_held_drew (S:=fun W=>W.cell? ⟨R,2,none⟩=some (.int .i64 ((E:Nat):Int))) (by kernel_rfl) ?_ (fun hHeld=>?_)
  ·try dsimp only
   exact za DD _ (za BD)
  refine hT 0 ?_;refine hT 1 ?_;refine hT 2 ?_;refine hT 3 ?_;refine wpAnyH_done (by kernel_rfl) ?_ _
  go_wp2
  go_ret2
  exact za FF
theorem zdi (s:ByteArray) (j:Nat) (h:j<s.size):s.data.toList.drop j=(s[j]'h)::s.data.toList.drop (j+1):=by
 rw[List.drop_eq_getElem_cons (by simpa using h)];simp;rfl
theorem zew (s:ByteArray) (j:Nat) (h:¬ j<s.size):s.data.toList.drop j=[]:=List.drop_of_length_le (by simp;omega)
def zdg (q:UInt8→Bool) (l:List UInt8):Bool:=l.all q
def zhu (pt:Bool) (c:UInt8):Bool:=zfm c||(pt&&decide (c.toNat=46))
theorem zoh:zhu false=zfm:=by funext c;simp[zhu]
theorem zgb (s:ByteArray) (pt:Bool) (hs:s.size≤maxLen) (w:World):Calls Tryz.prog 52 #[.string s,.bool pt] w fun e w'=>e=.returned (.bool (zdg (zhu pt) s.data.toList))∧w'=w:=by
 simp only[maxLen] at hs;go_enter Tryz.func52,Tryz.ntmps52
 go_wp2
 go_loopw [5,6,7] (fun i _ _ wr=>∃ j:Nat,i=.int .i64 (j:Int)∧j≤s.size∧Hid (zdg (zhu pt) (s.data.toList.drop j)=zdg (zhu pt) s.data.toList)∧Hid (wr=w)) (fun i _ _ _=>s.size - (intOf i).toNat)
 case atStart=>exact⟨0,rfl,by omega,zaa rfl,zaa rfl⟩
 case round =>
  obtain⟨j,rfl,hj,hE,hB⟩:=hrel;by_cases h:j<s.size
  ·have hE2:=zaa (show zdg (zhu pt) (s.data.toList.drop j)=(zhu pt (s[j]'h)&&zdg (zhu pt) (s.data.toList.drop (j+1))) by rw[zdi s j h];rfl);generalize hx:(s[j]'h)=x at *;have hx2:∀ hh,(s[j]'hh)=x:=fun _=>hx;have hw:IntKind.i64.wrap ((j:Int)+1)=((j+1:Nat):Int):=by rw[IntKind.wrap_i64];omega
   have hlt:(j:Int)<(s.size:Int):=by omega
   have hn256:x.toNat<256:=x.toNat_lt;have HL:=zaa (show zhu pt x=((decide (97≤x.toNat)&&decide (x.toNat≤122))||((decide (48≤x.toNat)&&decide (x.toNat≤57))||decide (x.toNat=45))||(pt&&decide (x.toNat=46))) from rfl);generalize zhu pt x=q at *;generalize hn:x.toNat=n at *;have done:q=true→Hid (zdg (zhu pt) (s.data.toList.drop (j+1))=zdg (zhu pt) s.data.toList):=fun hq=>by rw[← za hE,za hE2,hq];exact zaa rfl
   have none:q=false→Hid (zdg (zhu pt) s.data.toList=false):=fun hq=>by rw[← za hE,za hE2,hq];exact zaa rfl
   have D:=zaa done;have N:=zaa none;clear done none hx;by_cases h1:97≤n
   ·have i1:(97:Int)≤(n:Int):=by omega
    by_cases h2:n≤122
    ·have i2:(n:Int)≤122:=by omega
     have HQ:=(za D (by rw[za HL];simp <;> omega))
     clear D N HL hn256
     go_wp2
     exact⟨⟨j+1,by go_num,by omega,HQ,hB⟩,by simp[intOf];omega⟩
    ·have i2:¬ (n:Int)≤122:=by omega
     have i3:(48:Int)≤(n:Int):=by omega
     have i4:¬ (n:Int)≤57:=by omega
     have i5:¬ (n:Int)=45:=by omega
     have i6:¬ (n:Int)=46:=by omega
     have j5:((n:Int)==45)=false:=by simp;omega
     have j6:((n:Int)==46)=false:=by simp;omega
     cases pt with
     |true =>
      have HQ:=(za N (by rw[za HL];simp <;> omega))
      clear D N HL hn256
      go_wp2
      go_ret
      exact⟨by first|(rw[za HQ];done)|(rw[za HQ];rfl),za hB⟩
     |false =>
      have HQ:=(za N (by rw[za HL];simp <;> omega))
      clear D N HL hn256
      go_wp2
      go_ret
      exact⟨by first|(rw[za HQ];done)|(rw[za HQ];rfl),za hB⟩
   ·have i1:¬ (97:Int)≤(n:Int):=by omega
    by_cases h3:48≤n
    ·have i3:(48:Int)≤(n:Int):=by omega
     by_cases h4:n≤57
     ·have i4:(n:Int)≤57:=by omega
      have HQ:=(za D (by rw[za HL];simp <;> omega))
      clear D N HL hn256
      go_wp2
      exact⟨⟨j+1,by go_num,by omega,HQ,hB⟩,by simp[intOf];omega⟩
     ·have i4:¬ (n:Int)≤57:=by omega
      have i5:¬ (n:Int)=45:=by omega
      have i6:¬ (n:Int)=46:=by omega
      have j5:((n:Int)==45)=false:=by simp;omega
      have j6:((n:Int)==46)=false:=by simp;omega
      cases pt with
      |true =>
       have HQ:=(za N (by rw[za HL];simp <;> omega))
       clear D N HL hn256
       go_wp2
       go_ret
       exact⟨by first|(rw[za HQ];done)|(rw[za HQ];rfl),za hB⟩
      |false =>
       have HQ:=(za N (by rw[za HL];simp <;> omega))
       clear D N HL hn256
       go_wp2
       go_ret
       exact⟨by first|(rw[za HQ];done)|(rw[za HQ];rfl),za hB⟩
    ·have i3:¬ (48:Int)≤(n:Int):=by omega
     by_cases h5:n=45
     ·subst h5;have HQ:=(za D (by rw[za HL];simp <;> omega))
      clear D N HL hn256
      go_wp2
      exact⟨⟨j+1,by go_num,by omega,HQ,hB⟩,by simp[intOf];omega⟩
     ·have i5:¬ (n:Int)=45:=by omega
      have j5:((n:Int)==45)=false:=by simp;omega
      by_cases h6:n=46
      ·subst h6;cases pt with
       |true =>
        have HQ:=(za D (by rw[za HL];simp <;> omega))
        clear D N HL hn256
        go_wp2
        exact⟨⟨j+1,by go_num,by omega,HQ,hB⟩,by simp[intOf];omega⟩
       |false =>
        have HQ:=(za N (by rw[za HL];simp <;> omega))
        clear D N HL hn256
        go_wp2
        go_ret
        exact⟨by first|(rw[za HQ];done)|(rw[za HQ];rfl),za hB⟩
      ·have i6:¬ (n:Int)=46:=by omega
       have j6:((n:Int)==46)=false:=by simp;omega
       cases pt with
       |true =>
        have HQ:=(za N (by rw[za HL];simp <;> omega))
        clear D N HL hn256
        go_wp2
        go_ret
        exact⟨by first|(rw[za HQ];done)|(rw[za HQ];rfl),za hB⟩
       |false =>
        have HQ:=(za N (by rw[za HL];simp <;> omega))
        clear D N HL hn256
        go_wp2
        go_ret
        exact⟨by first|(rw[za HQ];done)|(rw[za HQ];rfl),za hB⟩
  ·have hE3:=zaa (show zdg (zhu pt) s.data.toList=true by rw[← za hE,zew s j h];rfl);have hlt:¬ (j:Int)<(s.size:Int):=by omega
   go_wp2
   go_ret
   exact⟨by first|(rw[za hE3];done)|(rw[za hE3];rfl),za hB⟩
theorem zjh (s:ByteArray) (hs:s.size≤maxLen) (w:World):Calls Tryz.prog 53 #[.string s] w fun e w'=>e=.returned (.bool (zdg zcn s.data.toList))∧w'=w:=by
 simp only[maxLen] at hs;go_enter Tryz.func53,Tryz.ntmps53
 go_wp2
 go_loopw [3] (fun i wr=>∃ j:Nat,i=.int .i64 (j:Int)∧j≤s.size∧Hid (zdg zcn (s.data.toList.drop j)=zdg zcn s.data.toList)∧Hid (wr=w)) (fun i _=>s.size - (intOf i).toNat)
 case atStart=>exact⟨0,rfl,by omega,zaa rfl,zaa rfl⟩
 case round =>
  obtain⟨j,rfl,hj,hE,hB⟩:=hrel;by_cases h:j<s.size
  ·have hE2:=zaa (show zdg zcn (s.data.toList.drop j)=(zcn (s[j]'h)&&zdg zcn (s.data.toList.drop (j+1))) by rw[zdi s j h];rfl);generalize hx:(s[j]'h)=x at *;have hx2:∀ hh,(s[j]'hh)=x:=fun _=>hx;have hw:IntKind.i64.wrap ((j:Int)+1)=((j+1:Nat):Int):=by rw[IntKind.wrap_i64];omega
   have hlt:(j:Int)<(s.size:Int):=by omega
   have HL:=zaa (show zcn x=(decide (33≤x.toNat)&&decide (x.toNat≤126)) from rfl);generalize zcn x=q at *;generalize hn:x.toNat=n at *;have D:=zaa (show q=true→Hid (zdg zcn (s.data.toList.drop (j+1))=zdg zcn s.data.toList) from fun hq=>by rw[← za hE,za hE2,hq];exact zaa rfl);have N:=zaa (show q=false→Hid (zdg zcn s.data.toList=false) from fun hq=>by rw[← za hE,za hE2,hq];exact zaa rfl);clear hx;by_cases h1:n<33
   ·have i1:(n:Int)<33:=by omega
    have HQ:=(za N (by rw[za HL];simp <;> omega))
    clear D N HL
    go_wp2
    go_ret
    exact⟨by first|(rw[za HQ];done)|(rw[za HQ];rfl),za hB⟩
   ·have i1:¬ (n:Int)<33:=by omega
    by_cases h2:126<n
    ·have i2:(126:Int)<(n:Int):=by omega
     have HQ:=(za N (by rw[za HL];simp <;> omega))
     clear D N HL
     go_wp2
     go_ret
     exact⟨by first|(rw[za HQ];done)|(rw[za HQ];rfl),za hB⟩
    ·have i2:¬ (126:Int)<(n:Int):=by omega
     have HQ:=(za D (by rw[za HL];simp <;> omega))
     clear D N HL
     go_wp2
     exact⟨⟨j+1,by go_num,by omega,HQ,hB⟩,by simp[intOf];omega⟩
  ·have hE3:=zaa (show zdg zcn s.data.toList=true by rw[← za hE,zew s j h];rfl);have hlt:¬ (j:Int)<(s.size:Int):=by omega
   go_wp2
   go_ret
   exact⟨by first|(rw[za hE3];done)|(rw[za hE3];rfl),za hB⟩
theorem zfv (x:Nat) (w:World):Calls Tryz.prog 164 #[.float .f64 x] w fun e w'=>e=.returned (.bool (wtB x))∧w'=w:=by
 have hb:=zdu x;unfold wtB;by_cases h:x<9218868437227405312
 ·have hi:(x:Int)<9218868437227405312:=by omega
  rw[decide_eq_true h];go_enter Tryz.func164,Tryz.ntmps164
  go_wp2
  go_ret
  exact⟨rfl,rfl⟩
 ·have hi:¬ (x:Int)<9218868437227405312:=by omega
  rw[decide_eq_false h];go_enter Tryz.func164,Tryz.ntmps164
  go_wp2
  go_ret
  exact⟨rfl,rfl⟩
theorem zbs (s:ByteArray) (hs:s.size≤maxLen) (w:World):Calls Tryz.prog 123 #[.string s] w fun e w'=>e=.returned (.bool (zcg s))∧w'=w:=by
 have CC:=zaa (show Calls Tryz.prog 52 #[.string s,.bool false] w fun e w'=>e=.returned (.bool (zdg zfm s.data.toList))∧w'=w from by have:=zgb s false hs w;rw[zoh] at this;exact this);have HE:=zaa (show zcg s=(decide (1≤s.size)&&decide (s.size≤64)&&zdg zfm s.data.toList) from rfl);simp only[maxLen] at hs;generalize zdg zfm s.data.toList=b at *;by_cases h1:1≤s.size
 ·have i1:(1:Int)≤(s.size:Int):=by omega
  by_cases h2:s.size≤64
  ·have i2:(s.size:Int)≤64:=by omega
   rw[decide_eq_true h1,decide_eq_true h2,Bool.true_and,Bool.true_and] at HE;rw[za HE];go_enter Tryz.func123,Tryz.ntmps123
   go_wp2_with fail
   refine(za CC).mono ?_;rintro e w' ⟨rfl,rfl⟩
   go_wp2
   go_ret
   exact⟨rfl,rfl⟩
  ·have i2:¬ (s.size:Int)≤64:=by omega
   rw[decide_eq_false h2,Bool.and_false,Bool.false_and] at HE;rw[za HE];go_enter Tryz.func123,Tryz.ntmps123
   go_wp2
   go_ret
   exact⟨rfl,rfl⟩
 ·have i1:¬ (1:Int)≤(s.size:Int):=by omega
  rw[decide_eq_false h1,Bool.false_and,Bool.false_and] at HE;rw[za HE];go_enter Tryz.func123,Tryz.ntmps123
  go_wp2
  go_ret
  exact⟨rfl,rfl⟩
theorem zhy (s:ByteArray) (hs:s.size≤maxLen) (w:World):Calls Tryz.prog 165 #[.string s] w fun e w'=>e=.returned (.bool (zcy s))∧w'=w:=by
 have CC:=zaa (zjh s hs w);have HE:=zaa (show zcy s=(decide (1≤s.size)&&decide (s.size≤64)&&zdg zcn s.data.toList) from rfl);simp only[maxLen] at hs;generalize zdg zcn s.data.toList=b at *;by_cases h1:1≤s.size
 ·have i1:(1:Int)≤(s.size:Int):=by omega
  by_cases h2:s.size≤64
  ·have i2:(s.size:Int)≤64:=by omega
   rw[decide_eq_true h1,decide_eq_true h2,Bool.true_and,Bool.true_and] at HE;rw[za HE];go_enter Tryz.func165,Tryz.ntmps165
   go_wp2_with fail
   refine(za CC).mono ?_;rintro e w' ⟨rfl,rfl⟩
   go_wp2
   go_ret
   exact⟨rfl,rfl⟩
  ·have i2:¬ (s.size:Int)≤64:=by omega
   rw[decide_eq_false h2,Bool.and_false,Bool.false_and] at HE;rw[za HE];go_enter Tryz.func165,Tryz.ntmps165
   go_wp2
   go_ret
   exact⟨rfl,rfl⟩
 ·have i1:¬ (1:Int)≤(s.size:Int):=by omega
  rw[decide_eq_false h1,Bool.false_and,Bool.false_and] at HE;rw[za HE];go_enter Tryz.func165,Tryz.ntmps165
  go_wp2
  go_ret
  exact⟨rfl,rfl⟩
def noQ (c:UInt8):Bool:=!decide (c.toNat=63) && !decide (c.toNat=35)
theorem znb (p q:UInt8→Bool):∀ l:List UInt8,l.all (fun c=>p c&&q c)=(l.all p&&l.all q)
 |[]=>rfl
 |c::l=>by
  simp only[List.all_cons,znb p q l];cases p c <;> cases q c <;> simp
theorem zrm (l:List UInt8):l.all zmp=(zdg zcn l&&zdg noQ l):=by
 rw[show zmp=fun c=>zcn c&&noQ c from rfl];exact znb _ _ l
def zpv (s:ByteArray):Bool:=s.data.toList.head? == some 47
theorem zsp (s:ByteArray) (h:0<s.size):zpv s=decide ((s[0]'h).toNat=47):=by
 unfold zpv;have h1:=zdi s 0 h;rw[List.drop_zero] at h1;rw[h1];simp only[List.head?_cons];generalize (s[0]'h)=x;rw[Bool.eq_iff_iff,beq_iff_eq,decide_eq_true_eq,Option.some.injEq];constructor
 ·intro e;rw[e];rfl
 ·intro e;exact UInt8.toNat_inj.1 e
theorem zrl (s:ByteArray):zch s=(zdg noQ s.data.toList&&(decide (1≤s.size)&&(decide (s.size≤128)&&(zpv s&&zdg zcn s.data.toList)))):=by
 unfold zch zez;rw[zrm];unfold zpv;cases zdg zcn s.data.toList <;> cases zdg noQ s.data.toList <;> cases decide (1≤s.size) <;> cases decide (s.size≤128) <;> cases (s.data.toList.head? == some 47) <;> rfl
theorem zcd (s:ByteArray) (hs:s.size≤maxLen) (w:World):Calls Tryz.prog 25 #[.string s] w fun e w'=>e=.returned (.bool (zch s))∧w'=w:=by
 have SC:=zaa (zjh s hs w);have PE:=zaa (zrl s);have HH:=zaa (zsp s);simp only[maxLen] at hs;generalize zdg zcn s.data.toList=sb at *;generalize zpv s=hb at *;generalize zch s=R at *;go_enter Tryz.func25,Tryz.ntmps25
 go_wp2
 go_loopw [3] (fun i wr=>∃ j:Nat,i=.int .i64 (j:Int)∧j≤s.size∧Hid (zdg noQ (s.data.toList.drop j)=zdg noQ s.data.toList)∧Hid (wr=w)) (fun i _=>s.size - (intOf i).toNat)
 case atStart=>exact⟨0,rfl,by omega,zaa rfl,zaa rfl⟩
 case round =>
  obtain⟨j,rfl,hj,hE,hB⟩:=hrel;by_cases h:j<s.size
  ·as_aux_lemma =>
   have hE2:=zaa (show zdg noQ (s.data.toList.drop j)=(noQ (s[j]'h)&&zdg noQ (s.data.toList.drop (j+1))) by rw[zdi s j h];rfl);generalize hx:(s[j]'h)=x at *;have hx2:∀ hh,(s[j]'hh)=x:=fun _=>hx;have hw:IntKind.i64.wrap ((j:Int)+1)=((j+1:Nat):Int):=by rw[IntKind.wrap_i64];omega
   have hlt:(j:Int)<(s.size:Int):=by omega
   have HL:=zaa (show noQ x=(!decide (x.toNat=63) && !decide (x.toNat=35)) from rfl);generalize noQ x=q at *;generalize hn:x.toNat=n at *;have D:=zaa (show q=true→Hid (zdg noQ (s.data.toList.drop (j+1))=zdg noQ s.data.toList) from fun hq=>by rw[← za hE,za hE2,hq];exact zaa rfl)
   have N:=zaa (show q=false→Hid (R=false) from fun hq=>by
    have:zdg noQ s.data.toList=false:=by rw[← za hE,za hE2,hq];rfl
    rw[za PE,this];exact zaa rfl)
   clear hx SC PE HH;by_cases h1:n=63
   ·have HQ:=(za N (by rw[za HL];simp[h1]))
    have h1':(n:Int)=63:=by omega
    subst h1;clear D N HL
    go_wp2
    go_ret
    exact⟨by first|(rw[za HQ];done)|(rw[za HQ];rfl),za hB⟩
   ·have i1:¬ (n:Int)=63:=by omega
    have i1':((n:Int)==63)=false:=by simp;omega
    by_cases h2:n=35
    ·have HQ:=(za N (by rw[za HL];simp[h2]))
     subst h2;clear D N HL
     go_wp2
     go_ret
     exact⟨by first|(rw[za HQ];done)|(rw[za HQ];rfl),za hB⟩
    ·have i2:¬ (n:Int)=35:=by omega
     have i2':((n:Int)==35)=false:=by simp;omega
     have HQ:=(za D (by rw[za HL];simp[h1,h2]))
     clear D N HL
     go_wp2
     exact⟨⟨j+1,by go_num,by omega,HQ,hB⟩,by simp[intOf];omega⟩
  ·as_aux_lemma =>
   have hE3:zdg noQ s.data.toList=true:=by rw[← za hE,zew s j h];rfl
   rw[hE3,Bool.true_and] at PE;have hlt:¬ (j:Int)<(s.size:Int):=by omega
   have hwr:=za hB;subst hwr;clear hE hB hE3;by_cases h1:1≤s.size
   ·have i1:(1:Int)≤(s.size:Int):=by omega
    by_cases h2:s.size≤128
    ·have i2:(s.size:Int)≤128:=by omega
     have h0:0<s.size:=h1;have H0:=zaa (za HH h0);generalize hx:(s[0]'h0)=x at *;have hx2:∀ hh,(s[0]'hh)=x:=fun _=>hx;generalize hn:x.toNat=n at *;rw[decide_eq_true h1,decide_eq_true h2,Bool.true_and,Bool.true_and] at PE;have z0:(0:Int)<(s.size:Int):=by omega
     clear hx HH;by_cases h3:n=47
     ·have i3:(n:Int)=47:=by omega
      rw[show hb=true by rw[za H0];exact decide_eq_true h3,Bool.true_and] at PE;subst h3;clear H0
      go_wp2_with fail
      refine(za SC).mono ?_;rintro e w' ⟨rfl,rfl⟩
      go_wp2
      go_ret
      exact⟨by first|(rw[za PE];done)|(rw[za PE];rfl),rfl⟩
     ·have i3:¬ (n:Int)=47:=by omega
      have i3':((n:Int)==47)=false:=by simp;omega
      rw[show hb=false by rw[za H0];exact decide_eq_false h3,Bool.false_and] at PE;clear H0
      go_wp2
      go_ret
      exact⟨by first|(rw[za PE];done)|(rw[za PE];rfl),rfl⟩
    ·have i2:¬ (s.size:Int)≤128:=by omega
     rw[decide_eq_false h2,Bool.false_and,Bool.and_false] at PE;clear HH
     go_wp2
     go_ret
     exact⟨by first|(rw[za PE];done)|(rw[za PE];rfl),rfl⟩
   ·have i1:¬ (1:Int)≤(s.size:Int):=by omega
    rw[decide_eq_false h1,Bool.false_and] at PE;clear HH
    go_wp2
    go_ret
    exact⟨by first|(rw[za PE];done)|(rw[za PE];rfl),rfl⟩
def zqw:Bool→List UInt8→Bool
 |_,[]=>true
 |p,c::r=>!(p&&decide (c.toNat=46))&&zqw (decide (c.toNat=46)) r
def zq6 (b:Bool) (l:List UInt8):Bool:=match l.getLast? with
 |none=>b
 |some c=>!decide (c.toNat=46)
theorem is46 (c:UInt8):(c=46)=(c.toNat=46):=propext ⟨fun e=>by rw[e];rfl,fun e=>UInt8.toNat_inj.1 e⟩
theorem zpp (b:Bool) (c:UInt8) (l:List UInt8):zq6 b (c::l)=zq6 (!decide (c.toNat=46)) l:=by
 cases l with
 |nil=>rfl
 |cons x r=>unfold zq6;rw[List.getLast?_cons_cons];simp[List.getLast?_cons]
theorem zjy:∀ (l:List UInt8) (b:Bool),zf9 b l=(zdg (zhu true) l&&(zqw (!b) l&&zq6 b l))
 |[],b=>by simp[zf9,zdg,zqw,zq6]
 |c::l,b=>by
  unfold zf9;rw[zpp];rw[show zdg (zhu true) (c::l)=(zhu true c&&zdg (zhu true) l) from rfl,show zqw (!b) (c::l)=(!((!b)&&decide (c.toNat=46))&&zqw (decide (c.toNat=46)) l) from rfl];by_cases h:c.toNat=46
  ·rw[if_pos ((is46 c).mpr h),zjy l false,decide_eq_true h];have:zhu true c=true:=by unfold zhu;rw[decide_eq_true h];simp
   rw[this];cases b <;> simp
  ·rw[if_neg (fun e=>h ((is46 c).mp e)),zjy l true,decide_eq_false h];have:zhu true c=zfm c:=by unfold zhu;rw[decide_eq_false h];simp
   rw[this];cases b <;> cases zfm c <;> simp
theorem zop (s:ByteArray) (h:0<s.size) (p:Bool):zqw p s.data.toList=(!(p&&decide ((s[0]'h).toNat=46))&&zqw (decide ((s[0]'h).toNat=46)) (s.data.toList.drop 1)):=by
 have h1:=zdi s 0 h;rw[List.drop_zero] at h1
 conv=>lhs;rw[h1]
 rfl
theorem zpq (s:ByteArray) (h:0<s.size) (b:Bool):zq6 b s.data.toList = !decide ((s[s.size - 1]'(by omega)).toNat=46):=by
 have h1:=zdi s (s.size - 1) (by omega);rw[show s.size - 1+1=s.size by omega,zew s s.size (by omega)] at h1;have h2:s.data.toList=s.data.toList.take (s.size - 1)++[s[s.size - 1]'(by omega)]:=by rw[← h1,List.take_append_drop]
 unfold zq6;rw[h2,List.getLast?_append];simp
theorem zni (s:ByteArray):zbe s=(decide (s.size≤64)&&(zdg (zhu true) s.data.toList&&(zqw true s.data.toList&&zq6 false s.data.toList))):=by
 unfold zbe;rw[zjy];rfl
theorem zjx (s:ByteArray) (k:Nat) (h:k<s.size):s.data.toList.getD k 0=s[k]'h:=by
 have h1:=zdi s k h;rw[List.getD_eq_getElem?_getD];have h2:s.data.toList[k]? = some (s[k]'h):=by
  have:=congrArg List.head? h1;rw[List.head?_drop] at this;exact this
 rw[h2];rfl
def dd (s:ByteArray) (j:Nat):Bool:=zqw (decide ((s.data.toList.getD (j - 1) 0).toNat=46)) (s.data.toList.drop j)
theorem zsm (s:ByteArray) (j:Nat) (h:j<s.size):dd s j=(!(decide ((s[j - 1]'(by omega)).toNat=46)&&decide ((s[j]'h).toNat=46))&&dd s (j+1)):=by
 unfold dd;rw[zjx s (j - 1) (by omega),zdi s j h,Nat.add_sub_cancel,zjx s j h];rfl
theorem ztc (s:ByteArray) (j:Nat) (h:¬ j<s.size):dd s j=true:=by
 unfold dd;rw[zew s j h];rfl
theorem ztd (s:ByteArray) (h:0<s.size):dd s 1=zqw (decide ((s[0]'h).toNat=46)) (s.data.toList.drop 1):=by
 unfold dd;rw[zjx s 0 h]
theorem zco (s:ByteArray) (hs:s.size≤maxLen) (w:World):Calls Tryz.prog 24 #[.string s] w fun e w'=>e=.returned (.bool (zbe s))∧w'=w:=by
 have LC:=zaa (zgb s true hs w);have PE:=zaa (zni s);simp only[maxLen] at hs;generalize zdg (zhu true) s.data.toList=lb at *;by_cases h1:s.size<1
 ·as_aux_lemma =>
  have i1:(s.size:Int)<1:=by omega
  have e0:s.data.toList=[]:=(zsy s).1 (by omega);have HR:zbe s=false:=by rw[zni,e0];simp[zq6]
  clear e0 PE LC;generalize zbe s=R at *;subst HR;go_enter Tryz.func24,Tryz.ntmps24
  go_wp2
  go_ret
  exact⟨rfl,rfl⟩
 ·have i1:¬ (s.size:Int)<1:=by omega
  have h0:0<s.size:=by omega
  by_cases h2:64<s.size
  ·as_aux_lemma =>
   have i2:(64:Int)<(s.size:Int):=by omega
   rw[decide_eq_false (by omega),Bool.false_and] at PE;generalize zbe s=R at *;have HR:=za PE;subst HR;clear LC PE;go_enter Tryz.func24,Tryz.ntmps24
   go_wp2
   go_ret
   exact⟨rfl,rfl⟩
  ·have i2:¬ (64:Int)<(s.size:Int):=by omega
   rw[decide_eq_true (show s.size≤64 by omega),Bool.true_and,zop s h0,← ztd s h0,zpq s h0] at PE;have DO:=zaa (zsm s);have z0:(0:Int)<(s.size:Int):=by omega
   have zl:(0:Int)≤(s.size:Int) - 1:=by omega
   have zl2:(s.size:Int) - 1<(s.size:Int):=by omega
   have hwl:IntKind.i64.wrap ((s.size:Int) - 1)=((s.size - 1:Nat):Int):=by rw[IntKind.wrap_i64];omega
   have zl3:((s.size - 1:Nat):Int)<(s.size:Int):=by omega
   generalize hx:(s[0]'h0)=x at *;have hx2:∀ hh,(s[0]'hh)=x:=fun _=>hx;generalize hy:(s[s.size - 1]'(by omega))=y at *;have hy2:∀ hh,(s[s.size - 1]'hh)=y:=fun _=>hy;generalize hxn:x.toNat=xn at *;generalize hyn:y.toNat=yn at *;clear hx hy;cases lb with
   |false =>
    as_aux_lemma =>
    have HR:zbe s=false:=by rw[za PE];simp
    generalize zbe s=R at *;subst HR;clear PE DO;go_enter Tryz.func24,Tryz.ntmps24
    go_wp2_with fail
    refine(za LC).mono ?_;rintro e w' ⟨rfl,rfl⟩
    go_wp2
    go_ret
    exact⟨rfl,rfl⟩
   |true =>
    by_cases h3:xn=46
    ·as_aux_lemma =>
     subst h3;have HR:zbe s=false:=by rw[za PE];simp
     generalize zbe s=R at *;subst HR;clear PE DO;go_enter Tryz.func24,Tryz.ntmps24
     go_wp2_with fail
     refine(za LC).mono ?_;rintro e w' ⟨rfl,rfl⟩
     go_wp2
     go_ret
     exact⟨rfl,rfl⟩
    ·have i3:¬ (xn:Int)=46:=by omega
     have i3':((xn:Int)==46)=false:=by simp;omega
     by_cases h4:yn=46
     ·as_aux_lemma =>
      subst h4;have HR:zbe s=false:=by rw[za PE];simp
      generalize zbe s=R at *;subst HR;clear PE DO;go_enter Tryz.func24,Tryz.ntmps24
      go_wp2_with fail
      refine(za LC).mono ?_;rintro e w' ⟨rfl,rfl⟩
      go_wp2
      go_ret
      exact⟨rfl,rfl⟩
     ·as_aux_lemma =>
      have i4:¬ (yn:Int)=46:=by omega
      have i4':((yn:Int)==46)=false:=by simp;omega
      have HR:=zaa (show zbe s=dd s 1 by rw[za PE];simp[h3,h4]);generalize zbe s=R at *;clear PE h3 h4;go_enter Tryz.func24,Tryz.ntmps24
      go_wp2_with fail
      refine(za LC).mono ?_;rintro e w' ⟨rfl,rfl⟩
      go_wp2_with fail
      go_loopw [3] (fun i wr=>∃ j:Nat,i=.int .i64 (j:Int)∧1≤j∧j≤s.size∧Hid (dd s j=R)∧Hid (wr=w')) (fun i _=>s.size - (intOf i).toNat)
      case atStart=>exact⟨1,rfl,by omega,by omega,zaa (za HR).symm,zaa rfl⟩
      case round =>
       obtain⟨j,rfl,hj1,hj,hE,hB⟩:=hrel;by_cases h:j<s.size
       ·have hE2:=zaa (za DO j h);have hp:j - 1<s.size:=by omega
        generalize hz:(s[j]'h)=z at *;have hz2:∀ hh,(s[j]'hh)=z:=fun _=>hz;generalize hq:(s[j - 1]'hp)=zp at *;have hq2:∀ hh,(s[j - 1]'hh)=zp:=fun _=>hq;have hw:IntKind.i64.wrap ((j:Int)+1)=((j+1:Nat):Int):=by rw[IntKind.wrap_i64];omega
        have hwm:IntKind.i64.wrap ((j:Int) - 1)=((j - 1:Nat):Int):=by rw[IntKind.wrap_i64];omega
        have hlt:(j:Int)<(s.size:Int):=by omega
        have hlp:((j - 1:Nat):Int)<(s.size:Int):=by omega
        generalize hzn:z.toNat=zn at *;generalize hqn:zp.toNat=qn at *;clear hz hq;by_cases g1:zn=46
        ·subst g1;by_cases g2:qn=46
         ·subst g2;have HF:=zaa (show R=false by rw[← za hE,za hE2];simp);clear hE2 hE DO HR
          go_wp2
          go_ret
          exact⟨by first|(rw[za HF];done)|(rw[za HF];rfl),za hB⟩
         ·have k2:¬ (qn:Int)=46:=by omega
          have k2':((qn:Int)==46)=false:=by simp;omega
          have HD:=zaa (show dd s (j+1)=R by rw[← za hE,za hE2];simp[g2]);clear hE2 hE
          go_wp2
          exact⟨⟨j+1,by go_num,by omega,by omega,HD,hB⟩,by simp[intOf];omega⟩
        ·have k1:¬ (zn:Int)=46:=by omega
         have k1':((zn:Int)==46)=false:=by simp;omega
         have HD:=zaa (show dd s (j+1)=R by rw[← za hE,za hE2];simp[g1]);clear hE2 hE
         go_wp2
         exact⟨⟨j+1,by go_num,by omega,by omega,HD,hB⟩,by simp[intOf];omega⟩
       ·have HF:=zaa (show R=true by rw[← za hE,ztc s j h]);have hlt:¬ (j:Int)<(s.size:Int):=by omega
        clear hE DO HR
        go_wp2
        go_ret
        exact⟨by first|(rw[za HF];done)|(rw[za HF];rfl),za hB⟩
end
end Go.Proofs.YtjcjleaicjhpeaaGreatDoor
