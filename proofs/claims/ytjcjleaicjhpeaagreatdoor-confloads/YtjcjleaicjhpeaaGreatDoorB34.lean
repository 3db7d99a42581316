/- Conf: the program's Load. -/
import Derived.Test.YtjcjleaicjhpeaaGreatDoorB28
import Derived.Shelf.SlIterI.Nil
import Derived.Shelf.SortM.Plain
import Derived.Shelf.SortM.SortNone
import Derived.Ground.GgzProg
import Derived.Ground.SlgmProg
import Derived.Test.YtjcjleaicjhpeaaGreatDoorProg
import Derived.Test.YtjcjleaicjhpeaaGreatDoorB10
import Derived.Test.YtjcjleaicjhpeaaGreatDoorB24
import Derived.Test.YtjcjleaicjhpeaaGreatDoorB15
import Derived.Test.YtjcjleaicjhpeaaGreatDoorB23
set_option linter.unusedVariables false
set_option maxRecDepth 20000
set_option maxHeartbeats 16000000
namespace Go.Proofs.YtjcjleaicjhpeaaGreatDoor
section
open Go.ChangeShapes Go.WideShapes Go.ChangeAt Go.RowKit
theorem zpc (a:Option Addr) (c:Nat) (l:List Nat) (w:World) (hc:l.length≤c) (hm:c≤maxLen) (hb:BytesAt w a l) (hz:a=none→c=0) (hMx:Mx w) :
  Calls Tryz.prog 26 #[.slice a l.length c] w (zhy w l):=by
 have PB:0<l.length→∀ ad,a=some ad→ad.block<w.heap.size:=by
  intro h0 ad e;obtain⟨b,off,e2,hc2⟩:=hb.cell 0 h0;rw[e] at e2;have:=Option.some.inj e2;subst this;rcases Nat.lt_or_ge b w.heap.size with h|h
  ·exact h
  ·have:w.heap[b]? = none:=Array.getElem?_eq_none h;simp[World.cell?,this] at hc2
 have s1:(w.alloc (.cells #[.slice a l.length c,.int .i64 0,.int .i64 0] 104)).heap.size=w.heap.size+1:=by simp
 have b1:Below w.heap.size w (w.alloc (.cells #[.slice a l.length c,.int .i64 0,.int .i64 0] 104)):=(Below.refl _ _).alloc (Nat.le_refl _) _;have Z0:=zaa (show KR w.heap.size (w.alloc (.cells #[.slice a l.length c,.int .i64 0,.int .i64 0] 104)) a c l 0 0 from⟨zad w _,hb.later b1,fun h0 ad e=>by have:=PB h0 ad e;omega,by omega,by omega,hc,hm,hz⟩);have S0:=zaa (LSt.new (za Z0) #[.int .i64 0,.slice none 0 0,.slice none 0 0,.int .i64 0,.slice none 0 0]);rw[s1] at S0;have BB:=zaa b1;have HB:=zaa hb.lt;have ML:=zaa (show l.length≤maxLen by omega);have MX:=zaa (fun (W:World) (hw:Below w.heap.size w W)=>hMx.later hw);have LE:=zaa (show ∀ en W,zhy w l en W→zhy w l en W from fun _ _ h=>h);clear hb hz hMx PB s1 b1;go_enter Tryz.func26,Tryz.ntmps26
 obtain⟨n,k1,e1,q1⟩:=zds (zcd l 0 0);have NC:=zaa (zby (za S0).z);rw[q1] at NC;unfold zep at NC;dsimp only at NC;have Q1:=zaa q1;clear q1;generalize hR:w.heap.size=R at *;generalize hC:R+1=C at *
 go_wp2_with fail
 try simp only[hR,hC]
 generalize (w.alloc (.cells #[.slice a l.length c,.int .i64 0,.int .i64 0] 104)).alloc (.cells #[.int .i64 0,.slice none 0 0,.slice none 0 0,.int .i64 0,.slice none 0 0] 107)=W0 at *;generalize w.alloc (.cells #[.slice a l.length c,.int .i64 0,.int .i64 0] 104)=w0 at *;go_at_call 54
 refine(za NC).mono ?_;rintro en V1 ⟨rfl,z1,g1⟩;have S1:=zaa ((za S0).num z1 g1);have f1:=zbf (za S1).cb 0;have c1:=zab (za S1).cb 0 (.int .i64 0) rfl;have S2:=zaa (show LSt R C w0 (V1.setCell ⟨C,0,none⟩ (.int .i64 (n:Int))) a c l k1 e1 #[.int .i64 (n:Int),.slice none 0 0,.slice none 0 0,.int .i64 0,.slice none 0 0] from(za S1).put (za Z0) 0 (.int .i64 (n:Int)));have r1:=(za S2).z.c1;obtain⟨ps,k2,e2,q2⟩:=zds (znf l k1 e1);have K1L:=zaa (za S2).z.kl;have PC:=zaa (zlb (za S2).z);rw[q2] at PC;unfold zs0 at PC;dsimp only at PC;have Q2:=zaa q2;clear z1 g1 NC S0 S1 q2
 go_wp2_with fail
 clear f1 c1 r1;generalize V1.setCell ⟨C,0,none⟩ (.int .i64 (n:Int))=A1 at *;go_at_call 55
 refine(za PC).mono ?_;rintro en V2 ⟨pa,pc,lq,rfl,hlq,op,lt,z2,g2⟩;have LQ:=zaa hlq;have LT:=zaa lt;have BC:=zaa (za S2).lt;have S3:=zaa ((za S2).num z2 g2);have f1:=zbf (za S3).cb 2;have c1:=zab (za S3).cb 2 (.slice none 0 0) rfl;have S4:=zaa (show LSt R C w0 (V2.setCell ⟨C,2,none⟩ (.slice pa lq.length pc)) a c l k2 e2 #[.int .i64 (n:Int),.slice none 0 0,.slice pa lq.length pc,.int .i64 0,.slice none 0 0] from(za S3).put (za Z0) 2 (.slice pa lq.length pc));have OP:=zaa (op.farK (zak V2 C 2 (.slice pa lq.length pc)) (za BC).2);obtain⟨rs,k3,e3,q3⟩:=zds (zom l k2 e2);have RC:=zaa (zkc (za S4).z);rw[q3] at RC;unfold zs1 at RC;dsimp only at RC;have Q3:=zaa q3;clear z2 g2 PC S2 S3 q3 op lt hlq
 go_wp2_with fail
 clear f1 c1;generalize V2.setCell ⟨C,2,none⟩ (.slice pa lq.length pc)=A2 at *;go_at_call 56
 refine(za RC).mono ?_;rintro en V3 ⟨ra,rn,rc,rfl,hrn,orr,z3,g3⟩;subst hrn;have BC2:=zaa (za S4).lt;have S5:=zaa ((za S4).num z3 g3);have f1:=zbf (za S5).cb 1;have c1:=zab (za S5).cb 1 (.slice none 0 0) rfl;have S6:=zaa (show LSt R C w0 (V3.setCell ⟨C,1,none⟩ (.slice ra rs.length rc)) a c l k3 e3 #[.int .i64 (n:Int),.slice ra rs.length rc,.slice pa lq.length pc,.int .i64 0,.slice none 0 0] from(za S5).put (za Z0) 1 (.slice ra rs.length rc));have OP2:=zaa (((za OP).farK g3 (za BC).1).farK (zak V3 C 1 (.slice ra rs.length rc)) (za BC).2);have OR:=zaa (zar orr (zak V3 C 1 (.slice ra rs.length rc)) (za BC2).2);have r1:=(za S6).z.c1;have f2:=zbf (za S6).cb 3;have c2:=zab (za S6).cb 3 (.int .i64 0) rfl;have hw:IntKind.i64.wrap ((k3:Int) - (k1:Int))=(k3:Int) - (k1:Int):=by
  have h3:=(za S6).z.kl;have h1:=(za Z0).kl;have h4:=za ML;have h5:=za K1L;simp only[maxLen] at h4;rw[IntKind.wrap_i64];omega
 have S7:=zaa (show LSt R C w0 ((V3.setCell ⟨C,1,none⟩ (.slice ra rs.length rc)).setCell ⟨C,3,none⟩ (.int .i64 ((k3:Int) - (k1:Int)))) a c l k3 e3 #[.int .i64 (n:Int),.slice ra rs.length rc,.slice pa lq.length pc,.int .i64 ((k3:Int) - (k1:Int)),.slice none 0 0] from(za S6).put (za Z0) 3 (.int .i64 ((k3:Int) - (k1:Int))));have OP3:=zaa ((za OP2).farK (zak _ C 3 (.int .i64 ((k3:Int) - (k1:Int)))) (za BC).2);have OR3:=zaa (zar (za OR) (zak _ C 3 (.int .i64 ((k3:Int) - (k1:Int)))) (za BC2).2);obtain⟨cl,k4,e4,q4⟩:=zds (zn8 l k3 e3);have CC:=zaa (zjk (za S7).z);rw[q4] at CC;unfold zsz at CC;dsimp only at CC;have Q4:=zaa q4;clear z3 g3 RC S4 S5 S6 q4 OP OP2 OR orr
 go_wp2_with fail
 clear f1 c1 r1 f2 c2 hw;generalize (V3.setCell ⟨C,1,none⟩ (.slice ra rs.length rc)).setCell ⟨C,3,none⟩ (.int .i64 ((k3:Int) - (k1:Int)))=A3 at *;go_at_call 57
 refine(za CC).mono ?_;rintro en V4 ⟨ca,cn,cc,rfl,hcn,oc,z4,g4⟩;subst hcn;have BC3:=zaa (za S7).lt;have S8:=zaa ((za S7).num z4 g4);have f1:=zbf (za S8).cb 4;have c1:=zab (za S8).cb 4 (.slice none 0 0) rfl;have S9:=zaa (show LSt R C w0 (V4.setCell ⟨C,4,none⟩ (.slice ca cl.length cc)) a c l k4 e4 #[.int .i64 (n:Int),.slice ra rs.length rc,.slice pa lq.length pc,.int .i64 ((k3:Int) - (k1:Int)),.slice ca cl.length cc] from(za S8).put (za Z0) 4 (.slice ca cl.length cc));have OP4:=zaa (((za OP3).farK g4 (za BC).1).farK (zak V4 C 4 (.slice ca cl.length cc)) (za BC).2);have OR4:=zaa (zar (zar (za OR3) g4 (za BC2).1) (zak V4 C 4 (.slice ca cl.length cc)) (za BC2).2);have OC:=zaa (zar oc (zak V4 C 4 (.slice ca cl.length cc)) (za BC3).2);have EC:=zaa (zpa (za S9).z);clear z4 g4 CC S7 S8 OP3 OR3 oc
 go_wp2_with fail
 clear f1 c1;generalize V4.setCell ⟨C,4,none⟩ (.slice ca cl.length cc)=A4 at *;go_at_call 58
 refine(za EC).mono ?_;rintro en V5 ⟨rfl,z5,g5⟩;have S10:=zaa ((za S9).num z5 g5);have OP5:=zaa ((za OP4).farK g5 (za BC).1);have OR5:=zaa (zar (za OR4) g5 (za BC2).1);have OC5:=zaa (zar (za OC) g5 (za BC3).1);have BW:=zaa ((za S10).below (za BB));have LD:=zaa (show LdK l n ps rs cl k1 k3 k4 e4 from⟨_,_,_,_,za Q1,za Q2,za Q3,za Q4⟩);have DD:=zaa (show ∀ W:World,Below V5.heap.size V5 W→W.cell? ⟨R,2,none⟩=some (.int .i64 ((zk l k4 e4:Nat):Int)) from fun W hb=>cell_later hb (za S10).z.c2);have CX:=zaa (za S10).cb;have PK:=zaa (zoi l k1 e1);rw[za Q2] at PK;have RK:=zaa (zon l k2 e2);rw[za Q3] at RK;have CK:=zaa (zmt (za HB) k3 e3);rw[za Q4] at CK
 have LA:=zaa (show LdAt V5 ra rc rs pa pc lq ca cc cl from by
  have h1:=za PK;have h2:=za RK;have h3:=za CK;have h4:=za LQ;dsimp only at h1 h2 h3;have hl:lq.length=ps.length:=by rw[← h4,List.length_map]
  have hp:∀ q∈lq,q.po.nm.size≤128∧∀ t∈q.po.ts,t.1.size≤128:=fun q hq=>h1.2 q.po (by rw[← h4];exact List.mem_map.2 ⟨q,hq,rfl⟩);refine⟨zhv (za OR5) (Nat.zero_le _),(za OP5).low (Nat.zero_le _),zhv (za OC5) (Nat.zero_le _),fun q hq=>((za OP5).dat q hq).at_ (za LT q hq).1,⟨by omega,by omega,by omega⟩,fun r hr=>?_,fun q hq=>⟨by have:=(hp q hq).1;omega,(za LT q hq).2,fun t ht=>by have:=(hp q hq).2 t ht;omega⟩,fun x hx=>?_⟩
  ·have:=h2.2 r hr;unfold zrd at this;omega
  ·have:=h3.2 x hx;unfold zt4 at this
   omega)
 have LQ1:=zaa (za LQ);clear z5 g5 EC S9 S10 OP4 OR4 OC OP5 OR5 OC5 Q1 Q2 Q3 Q4 PK RK CK BC BC2 BC3 LT Z0 BB K1L;generalize hE:zk l k4 e4=E at *;have HE:=zaa hE;clear hE;have d2:=za DD _ (Below.refl _ _);by_cases he:E=0
 ·subst he;clear d2;have d2:V5.cell? ⟨R,2,none⟩=some (.int .i64 0):=za DD _ (Below.refl _ _);have x0:=zab (za CX) 0 _ rfl;have x1:=zab (za CX) 1 _ rfl;have x2:=zab (za CX) 2 _ rfl;have x3:=zab (za CX) 3 _ rfl;have x4:=zab (za CX) 4 _ rfl;have SC:=zaa (zn1 (ver:=(n:Int)) (size:=(k3:Int) - (k1:Int)) (za LA))
  go_wp2_with fail
  refine(za SC).mono ?_;rintro e V6 ⟨h',rfl,s6,u6,n1,n2,n3,n4⟩;have BW6:=zaa ((za BW).trans (u6.mono (by have:=(za BW).size;omega)));have MB:=zaa (znb (ver:=(n:Int)) (size:=(k3:Int) - (k1:Int)) ((za LA).later u6) s6 (za MX _ (za BW6)));rw[ztn,za LQ1] at MB;have CX6:=zaa (zac u6 (za CX));have SS:=zaa s6;have NN:=zaa (show R≤h'.S∧R≤h'.P∧R≤h'.R∧R≤h'.C from by have:=(za BW).size;omega);clear SC u6 s6 n1 n2 n3 n4 x0 x1 x2 x3 x4 d2;have x0:=zab (za CX6) 0 _ rfl;have x1:=zab (za CX6) 1 _ rfl;have x2:=zab (za CX6) 2 _ rfl;have x3:=zab (za CX6) 3 _ rfl;have x4:=zab (za CX6) 4 _ rfl
  go_wp2_with fail
  refine(za MB).mono ?_;rintro e V7 ⟨rfl,u7⟩;have BW7:=zaa ((za BW6).trans (u7.mono (by have:=(za BW6).size;omega)));have SS7:=zaa ((za SS).later u7);clear x0 x1 x2 x3 x4 u7 MB CX6 CX SS;cases hmk:zqz (n:Int) ps rs cl ((k3:Int) - (k1:Int)) with
  |false =>
   have FF:=zaa (za LE _ V7 ⟨n,ps,rs,cl,k1,k3,k4,e4,za LD,by rw[hR];exact za BW7,.inr (.inl ⟨za HE,hmk,rfl⟩)⟩);clear LE SS7 hmk LA LD
   go_wp2
   go_ret2
   exact za FF
  |true =>
   have hp:=zjt hmk;have kq:Kl qnm lq:=by
    have h0:(lq.map Pq.po).map pnm=lq.map qnm:=by rw[List.map_map];rfl
    rw[zg0,← h0,za LQ1,← zg0];exact hp.1
   have e1:=zff qnm lq kq;have e2:=zff rpl rs hp.2.1;have e3:=zff lid cl hp.2.2.1;rw[e1,e2,e3] at SS7;have FF:=zaa (za LE _ V7 ⟨n,ps,rs,cl,k1,k3,k4,e4,za LD,by rw[hR];exact za BW7,.inr (.inr ⟨za HE,hmk,h',⟨n,lq,rs,cl⟩,rfl,za SS7,⟨rfl,rfl,rfl,rfl⟩,za LQ1,by rw[hR];exact za NN⟩)⟩);clear LE SS7 hmk hp kq e1 e2 e3 LA LD
   go_wp2
   go_ret2
   exact za FF
 ·have y1:((E:Nat):Int)≠0:=by omega
  have y2:(((E:Nat):Int)==0)=false:=by simpa using he
  have BD:=zaa (show Below V5.heap.size V5 V5.drew from(Below.refl _ _).drew);have FF:=zaa (za LE (.returned (.tuple #[.pointer none,.int .i64 ((E:Nat):Int)])) V5.drew ⟨n,ps,rs,cl,k1,k3,k4,e4,za LD,by rw[hR];exact(za BW).drew,.inl ⟨by rw[za HE];exact he,by rw[za HE]⟩⟩);clear LE LA LD
  go_wp2_with fail
  refine wp_region_held_drew (S:=fun W=>W.cell? ⟨R,2,none⟩=some (.int .i64 ((E:Nat):Int))) (by kernel_rfl) ?_ (fun hHeld=>?_)
  ·try dsimp only
   exact za DD _ (za BD)
  refine hT 0 ?_;refine hT 1 ?_;refine hT 2 ?_;refine hT 3 ?_;refine wpAnyH_done (by kernel_rfl) ?_ _
  go_wp2
  go_ret2
  exact za FF
end
end Go.Proofs.YtjcjleaicjhpeaaGreatDoor
section
namespace Go.Proofs
open Go.RowKit Go.Maps Go.Sort Go.Shelf
def Tryz.keys51_ren:Go.Shelf.Ren:=⟨fun|7=>51|10=>97|n=>n,fun|23=>77|26=>3|3=>74|28=>100|0=>0|27=>99|33=>150|4=>4|n=>n,fun|n=>n⟩
theorem Tryz.keys51:Go.Proofs.SlLaysZI.n7 Tryz.prog Tryz.keys51_ren:={
 mixed:=by kernel_rfl
 f7:=⟨Tryz.f51.name,by decide,Tryz.func51.trans (congrArg some (by kernel_rfl))⟩
 f10:=⟨Tryz.f97.name,by decide,Tryz.func97.trans (congrArg some (by kernel_rfl))⟩
 t0:=Tryz.underlying0
 a0:=Tryz.isAgg0
 z0:=Tryz.sizeOf0
 v0:=Tryz.zeroValue0
 t4:=Tryz.underlying4
 a4:=Tryz.isAgg4
 z4:=Tryz.sizeOf4
 v4:=Tryz.zeroValue4
 t23:=Tryz.underlying77
 a23:=Tryz.isAgg77
 z23:=Tryz.sizeOf77
 v23:=Tryz.zeroValue77
 t26:=Tryz.underlying3
 a26:=Tryz.isAgg3
 z26:=Tryz.sizeOf3
 v26:=Tryz.zeroValue3
 t27:=Tryz.underlying99
 a27:=Tryz.isAgg99
 z27:=Tryz.sizeOf99
 v27:=Tryz.zeroValue99
 t28:=Tryz.underlying100
 a28:=Tryz.isAgg100
 z28:=Tryz.sizeOf100
 v28:=Tryz.zeroValue100
 t33:=Tryz.underlying150
 a33:=Tryz.isAgg150
 z33:=Tryz.sizeOf150
 v33:=Tryz.zeroValue150 }
def Tryz.sorted50_ren:Go.Shelf.Ren:=⟨fun|6=>50|8=>95|9=>96|11=>152|13=>144|12=>153|23=>178|24=>179|14=>189|15=>190|16=>191|17=>192|18=>193|19=>194|20=>195|21=>196|22=>197|25=>212|26=>205|27=>206|28=>213|29=>214|30=>159|31=>221|n=>n,fun|26=>3|28=>100|24=>97|0=>0|3=>3|37=>191|48=>218|50=>143|4=>4|40=>210|39=>209|45=>215|5=>5|9=>9|51=>237|55=>241|57=>251|58=>252|33=>150|n=>n,fun|n=>n⟩
theorem Tryz.sorted50:Go.Proofs.SlLaysZI.n6 Tryz.prog Tryz.sorted50_ren:={
 mixed:=by kernel_rfl
 f6:=⟨Tryz.f50.name,by decide,Tryz.func50.trans (congrArg some (by kernel_rfl))⟩
 f8:=⟨Tryz.f95.name,by decide,Tryz.func95.trans (congrArg some (by kernel_rfl))⟩
 f11:=⟨Tryz.f152.name,by decide,Tryz.func152.trans (congrArg some (by kernel_rfl))⟩
 t0:=Tryz.underlying0
 a0:=Tryz.isAgg0
 z0:=Tryz.sizeOf0
 v0:=Tryz.zeroValue0
 t24:=Tryz.underlying97
 a24:=Tryz.isAgg97
 z24:=Tryz.sizeOf97
 v24:=Tryz.zeroValue97
 t26:=Tryz.underlying3
 a26:=Tryz.isAgg3
 z26:=Tryz.sizeOf3
 v26:=Tryz.zeroValue3
 t28:=Tryz.underlying100
 a28:=Tryz.isAgg100
 z28:=Tryz.sizeOf100
 v28:=Tryz.zeroValue100
 i26:=by kernel_rfl }
def Tryz.sort96_ren:Go.Shelf.Ren:=⟨fun|5=>96|8=>144|7=>153|19=>178|20=>179|10=>189|11=>190|12=>191|13=>192|14=>193|15=>194|16=>195|17=>196|18=>197|30=>212|31=>205|32=>206|33=>213|34=>214|35=>159|40=>221|n=>n,fun|23=>97|25=>3|3=>3|32=>191|22=>97|0=>0|44=>218|46=>143|4=>4|36=>210|35=>209|41=>215|5=>5|9=>9|53=>237|57=>241|63=>251|64=>252|n=>n,fun|n=>n⟩
theorem Tryz.sort96:Go.Proofs.SlLaysM.n5 Tryz.prog Tryz.sort96_ren:={
 mixed:=by kernel_rfl
 f5:=⟨Tryz.f96.name,by decide,Tryz.func96.trans (congrArg some (by kernel_rfl))⟩
 f7:=⟨Tryz.f153.name,by decide,Tryz.func153.trans (congrArg some (by kernel_rfl))⟩
 f8:=Tryz.func144.trans (congrArg some (by kernel_rfl))
 f10:=⟨Tryz.f189.name,by decide,Tryz.func189.trans (congrArg some (by kernel_rfl))⟩
 f11:=⟨Tryz.f190.name,by decide,Tryz.func190.trans (congrArg some (by kernel_rfl))⟩
 f12:=⟨Tryz.f191.name,by decide,Tryz.func191.trans (congrArg some (by kernel_rfl))⟩
 f13:=⟨Tryz.f192.name,by decide,Tryz.func192.trans (congrArg some (by kernel_rfl))⟩
 f14:=⟨Tryz.f193.name,by decide,Tryz.func193.trans (congrArg some (by kernel_rfl))⟩
 f15:=⟨Tryz.f194.name,by decide,Tryz.func194.trans (congrArg some (by kernel_rfl))⟩
 f16:=⟨Tryz.f195.name,by decide,Tryz.func195.trans (congrArg some (by kernel_rfl))⟩
 f17:=⟨Tryz.f196.name,by decide,Tryz.func196.trans (congrArg some (by kernel_rfl))⟩
 f18:=⟨Tryz.f197.name,by decide,Tryz.func197.trans (congrArg some (by kernel_rfl))⟩
 f19:=Tryz.func178.trans (congrArg some (by kernel_rfl))
 f20:=Tryz.func179.trans (congrArg some (by kernel_rfl))
 f30:=⟨Tryz.f212.name,by decide,Tryz.func212.trans (congrArg some (by kernel_rfl))⟩
 f31:=Tryz.func205.trans (congrArg some (by kernel_rfl))
 f32:=Tryz.func206.trans (congrArg some (by kernel_rfl))
 f33:=⟨Tryz.f213.name,by decide,Tryz.func213.trans (congrArg some (by kernel_rfl))⟩
 f34:=⟨Tryz.f214.name,by decide,Tryz.func214.trans (congrArg some (by kernel_rfl))⟩
 f35:=⟨Tryz.f159.name,by decide,Tryz.func159.trans (congrArg some (by kernel_rfl))⟩
 f40:=⟨Tryz.f221.name,by decide,Tryz.func221.trans (congrArg some (by kernel_rfl))⟩
 t0:=Tryz.underlying0
 a0:=Tryz.isAgg0
 z0:=Tryz.sizeOf0
 v0:=Tryz.zeroValue0
 t3:=Tryz.underlying3
 a3:=Tryz.isAgg3
 z3:=Tryz.sizeOf3
 v3:=Tryz.zeroValue3
 t4:=Tryz.underlying4
 a4:=Tryz.isAgg4
 z4:=Tryz.sizeOf4
 v4:=Tryz.zeroValue4
 t5:=Tryz.underlying5
 a5:=Tryz.isAgg5
 z5:=Tryz.sizeOf5
 v5:=Tryz.zeroValue5
 t9:=Tryz.underlying9
 a9:=Tryz.isAgg9
 z9:=Tryz.sizeOf9
 v9:=Tryz.zeroValue9
 t22:=Tryz.underlying97
 a22:=Tryz.isAgg97
 z22:=Tryz.sizeOf97
 v22:=Tryz.zeroValue97
 t23:=Tryz.underlying97
 a23:=Tryz.isAgg97
 z23:=Tryz.sizeOf97
 v23:=Tryz.zeroValue97
 t25:=Tryz.underlying3
 a25:=Tryz.isAgg3
 z25:=Tryz.sizeOf3
 v25:=Tryz.zeroValue3
 t32:=Tryz.underlying191
 a32:=Tryz.isAgg191
 z32:=Tryz.sizeOf191
 v32:=Tryz.zeroValue191
 t35:=Tryz.underlying209
 a35:=Tryz.isAgg209
 z35:=Tryz.sizeOf209
 v35:=Tryz.zeroValue209
 t36:=Tryz.underlying210
 a36:=Tryz.isAgg210
 z36:=Tryz.sizeOf210
 v36:=Tryz.zeroValue210
 t41:=Tryz.underlying215
 a41:=Tryz.isAgg215
 z41:=Tryz.sizeOf215
 v41:=Tryz.zeroValue215
 t44:=Tryz.underlying218
 a44:=Tryz.isAgg218
 z44:=Tryz.sizeOf218
 v44:=Tryz.zeroValue218
 t46:=Tryz.underlying143
 a46:=Tryz.isAgg143
 z46:=Tryz.sizeOf143
 v46:=Tryz.zeroValue143
 t53:=Tryz.underlying237
 a53:=Tryz.isAgg237
 z53:=Tryz.sizeOf237
 v53:=Tryz.zeroValue237
 t57:=Tryz.underlying241
 a57:=Tryz.isAgg241
 z57:=Tryz.sizeOf241
 v57:=Tryz.zeroValue241
 t63:=Tryz.underlying251
 a63:=Tryz.isAgg251
 z63:=Tryz.sizeOf251
 v63:=Tryz.zeroValue251
 t64:=Tryz.underlying252
 a64:=Tryz.isAgg252
 z64:=Tryz.sizeOf252
 v64:=Tryz.zeroValue252 }
theorem Tryz.sorts50 (m:Nat):AnyZI.SortsIn Tryz.prog Tryz.sorted50_ren Fence.wide m :=
 ⟨fun blk off cap ss W hH hblk hsz=>callsIn_wide.2 (AnyM.slices_Sort_int Tryz.sort96 blk off cap ss W hH hblk hsz),
  fun p cap W=>callsIn_wide.2 (AnyM.slices_Sort_int_none Tryz.sort96 p cap W)⟩
theorem Tryz.maps_Keys_51 (mb:Option Nat) (W:World):CallsIn Fence.wide 5 Tryz.prog 51 #[.map mb] W fun e w'=>e=.returned (.func (.func 97) #[] #[.pointer (some ⟨W.heap.size,0,none⟩)])∧w'=W.alloc (.cells #[.map mb] 77) :=
 AnyZI.keys_in Tryz.keys51 Fence.wide 5 trivial rfl mb W
theorem Tryz.slices_Sorted_keys_50_51 {H:Type} (b nn:Nat) (D0:DataW H) (R:Value→Option (DataW H×List MemPlace)) (w:World) (hown:w.ownsMap Tryz.prog 3 R b nn D0) (hmax:Maps.size D0≤maxLen) (hbytes:Maps.size D0*8≤140737488355328) :
  CallsIn Fence.wide 5 Tryz.prog 50 #[.func (.func 97) #[] #[.pointer (some ⟨w.heap.size,0,none⟩)]] (w.alloc (.cells #[.map (some b)] 77)) fun e w'=>∃ (v:Value) (ss:List Int),e=.returned v∧ss.Perm (intKeys D0) ∧
   w'.ownsRow (w.alloc (.cells #[.map (some b)] 77)).heap.size 3 1 v ss.length ((ss.mergeSort (fun x y=>decide (x≤y))).map encZ)∧(v=.slice none 0 0↔ss=[])∧Below (w.alloc (.cells #[.map (some b)] 77)).heap.size (w.alloc (.cells #[.map (some b)] 77)) w':=by
 have hbl:=hown.lt;have hseq:SeqGives Fence.wide 2 Tryz.prog 97 #[.pointer (some ⟨w.heap.size,0,none⟩)] encZ (fun ss=>ss.Perm (intKeys D0)) (Maps.size D0) (w.alloc (.cells #[.map (some b)] 77)) :=
  AnyZI.keys_gives (ρ:=Tryz.keys51_ren) { Tryz.keys51 with } Fence.wide _ trivial rfl (by omega) w.heap.size b nn D0 _ (by simp) (by simp) (by
   obtain⟨es,clock,hb,Ft,hs,hD⟩:=hown
   exact⟨es,clock,(Below.heap_alloc _ _ b hbl).trans hb,Ft,hs,hD⟩)
 exact AnyZI.sorted_in Tryz.sorted50 Fence.wide 5 trivial trivial trivial trivial rfl (by omega) (Tryz.sorts50 _) (enters_of Tryz.func96 (by kernel_rfl) rfl) 97 #[.pointer (some ⟨w.heap.size,0,none⟩)] trivial (enters_of Tryz.func97 (by kernel_rfl) rfl) _ _ hmax hbytes _ hseq
end Go.Proofs
end
namespace Go.Proofs.YtjcjleaicjhpeaaGreatDoor
section
open Go.ChangeShapes Go.WideShapes Go.ChangeAt Go.RowKit Go.Maps Go.Shelf Go.Sort
theorem MapG.keysI {w:World} {B:Nat} {fs:List (Int×Value)} (h:MapG kxI w B fs):∃ D:DataW Value,w.ownsMap Tryz.prog 3 zca B fs.length D∧Maps.size D=fs.length∧∀ ss:List Int,ss.Perm (intKeys D)→ss.mergeSort (fun x y=>decide (x≤y))=fs.map (fun x=>x.1):=by
 obtain⟨D,hD,hH,hA,hS⟩:=h.map;refine⟨D,hD,hS,fun ss hp=>?_⟩;obtain⟨es,rfl,hke⟩:=hD.keysOf;obtain⟨es',e',ht⟩:=hD.tidy kxI.law;obtain rfl:es=es':=by simpa using e'
 have hk2:∀ p∈es,∃ x,p.1=.int .i64 x:=fun p hp=>by
  obtain⟨key,hk⟩:=hke p hp;obtain⟨s,hs,_,hl⟩:=kxI.inv hk;exact⟨s,hl⟩
 have hnd:(fs.map (fun x=>x.1)).Nodup:=by
  rw[List.Nodup,List.pairwise_map];refine List.Pairwise.imp ?_ (show fs.Pairwise (fun x y=>Kord.lt x.1 y.1) from h.rise);intro a b hab e;rw[e] at hab;exact Kord.irr _ hab
 have hq:(fs.map (fun x=>x.1)).Perm (intKeys (.map es)):=by
  refine perm_intKeys ht hk2 hnd (fun x=>?_);constructor
  ·intro hx;obtain⟨y,hy,rfl⟩:=List.mem_map.1 hx;exact(hH y.1 (h.okk y hy)).2 (List.mem_map.2 ⟨y,hy,rfl⟩)
  ·intro hx;have hex:∃ p∈es,p.1=.int .i64 x:=by
    rw[Maps.has_eq,List.any_eq_true] at hx;obtain⟨p,hp1,hp2⟩:=hx;obtain⟨a,ha⟩:=hk2 p hp1;rw[ha] at hp2;simp[Lit.sameKey] at hp2;exact⟨p,hp1,by rw[ha,hp2]⟩
   obtain⟨p,hp1,hp2⟩:=hex;obtain⟨key,hk⟩:=hke p hp1;obtain⟨s,hs,_,hl⟩:=kxI.inv hk;rw[hp2] at hl;have e:x=s:=by simpa [kxI] using hl
   subst e;have h3:=(hH x hs).1 hx;obtain⟨y,hy,hy2⟩:=List.mem_map.1 h3;exact List.mem_map.2 ⟨y,hy,hy2⟩
 have h1:=mergeSort_of_perm_i (hp.trans hq.symm);refine h1.trans (List.mergeSort_of_pairwise ?_);refine List.pairwise_map.2 (List.Pairwise.imp (fun {a b} hab=>?_) (show fs.Pairwise (fun x y=>Kord.lt x.1 y.1) from h.rise));simp only[decide_eq_true_eq];exact Int.le_of_lt hab
def zp2 (base:Nat) (w:World) (sp:Option Addr) (c:Nat) (l:List Int):Prop:=w.ownsRow base 3 1 (.slice sp l.length c) l.length (l.map (Value.int .i64))
theorem zp2.cell {base:Nat} {w:World} {sp:Option Addr} {c:Nat} {l:List Int} (h:zp2 base w sp c l) (i:Nat) (hi:i<l.length):∃ g,sp=some ⟨g,0,none⟩∧base≤g∧g<w.heap.size∧∀ w':World,w'.heap[g]? = w.heap[g]?→w'.cell? ⟨g,i,none⟩=some (.int .i64 l[i]):=by
 rcases h.2 with⟨hv,h0⟩|⟨g,cap,cur,hv,hb,hg,hle,hmx,hsz,ht⟩
 ·omega
 ·simp only[Value.slice.injEq] at hv;refine⟨g,hv.1,hb,(Array.getElem?_eq_some_iff.1 hg).1,fun w' hw=>?_⟩;rw[cell_of_row w' g i cur _ _ (hw.trans hg)];have e:(l.map (Value.int .i64))[i]? = some (.int .i64 l[i]):=by rw[List.getElem?_map,List.getElem?_eq_getElem hi];rfl
  rw[← ht,List.getElem?_take,if_pos (by omega)] at e;rw[← Array.getElem?_toList,e]
theorem zm5 (b:Nat) (w:World):Calls Tryz.prog 51 #[.map (some b)] w fun e w'=>e=.returned (.func (.func 97) #[] #[.pointer (some ⟨w.heap.size,0,none⟩)])∧w'=w.alloc (.cells #[.map (some b)] 77) :=
 callsIn_wide.1 (Tryz.maps_Keys_51 (some b) w)
theorem zko {w:World} {fs:List (Int×Value)} {b:Nat} (h:MapG kxI w b fs) (hl:fs.length≤1000) :
  Calls Tryz.prog 50 #[.func (.func 97) #[] #[.pointer (some ⟨w.heap.size,0,none⟩)]] (w.alloc (.cells #[.map (some b)] 77)) fun e w'=>∃ sp c,e=.returned (.slice sp fs.length c)∧zp2 w.heap.size w' sp c (fs.map (·.1))∧Below w.heap.size w w':=by
 obtain⟨D,hD,hS,hK⟩:=h.keysI;refine(callsIn_wide.1 (Tryz.slices_Sorted_keys_50_51 b _ D zca w hD (by rw[hS];simp only[maxLen];omega) (by rw[hS];omega))).mono ?_;rintro e w' ⟨v,ss,rfl,hp,hrow,hnil,hb⟩;have hm:=hK ss hp;rw[hm] at hrow;have hlen:ss.length=fs.length:=by have:=congrArg List.length hm;rw[List.length_mergeSort,List.length_map] at this;exact this
 rw[hlen] at hrow;have e1:(fs.map (fun x=>x.1)).map encZ=(fs.map (·.1)).map (Value.int .i64):=by
  simp only[List.map_map]
 rw[e1] at hrow;have b1:Below w.heap.size w (w.alloc (.cells #[.map (some b)] 77)):=(Below.refl _ _).alloc (Nat.le_refl _) _;have hv:∃ sp c,v=.slice sp fs.length c:=by
  rcases hrow.2 with⟨hv,h0⟩|⟨g,cap,cur,hv,_⟩
  ·exact⟨none,0,by rw[hv,h0]⟩
  ·exact⟨_,_,hv⟩
 obtain⟨sp,c,rfl⟩:=hv;refine⟨sp,c,rfl,?_,b1.trans (hb.mono b1.size)⟩;unfold zp2;rw[List.length_map];exact⟨hrow.1,hrow.2.imp id (fun ⟨g,cap,cur,h1,h2,h3⟩=>⟨g,cap,cur,h1,Nat.le_trans b1.size h2,h3⟩)⟩
end
section
open Go.ChangeShapes Go.WideShapes Go.ChangeAt Go.RowKit
theorem blk_lt {base:Nat} {w:World} {sp:Option Addr} {c:Nat} {l:List Nat} (h:OwnB base w sp c l) {b:Nat} (hb:blk sp=some b):base≤b∧b<w.heap.size:=by
 rcases h.1.2 with⟨hv,_⟩|⟨g,cap,cur,hv,hbg,hh,_⟩
 ·simp only[Value.slice.injEq] at hv;rw[hv.1] at hb;cases hb
 ·simp only[Value.slice.injEq] at hv;rw[hv.1] at hb;obtain rfl:g=b:=Option.some.inj hb;exact⟨hbg,(Array.getElem?_eq_some_iff.1 hh).1⟩
def zp0 (w:World) (g:Nat):World:={ w with heap:=w.heap.setIfInBounds g (.map #[] 0) }
theorem zqo (w:World) (g b:Nat) (h:b≠g):(zp0 w g).heap[b]? = w.heap[b]?:=by
 unfold zp0;simp[Ne.symm h]
theorem zk4 (w:World) (g:Nat):(zp0 w g).heap.size=w.heap.size:=by
 unfold zp0;simp
theorem zk3 (w:World) (g k:Nat):(zp0 w g).cell? ⟨g,k,none⟩=none:=by
 rcases Nat.lt_or_ge g w.heap.size with h|h
 ·have:(zp0 w g).heap[g]? = some (.map #[] 0):=by
   unfold zp0;simp[h]
  simp[World.cell?,this]
 ·exact zhq (by rw[zk4];exact h)
theorem zki {B g:Nat} (hg:g<B) {w:World} {T:TypeId} {k n:Nat} {v:Value} {xs:List Value} (h:w.ownsRow B T k v n xs):(zp0 w g).ownsRow B T k v n xs:=by
 refine⟨h.1,?_⟩;rcases h.2 with hv|⟨b,cap,cur,hv,hb,hh,q⟩
 ·exact .inl hv
 ·exact .inr ⟨b,cap,cur,hv,hb,(zqo w g b (by omega)).trans hh,q⟩
theorem zs5 {w:World} {B g:Nat} (hg:g<B) {k:CfH} {x:Sm} (hx:SmOk x) (hc:CfAt w x.cf k) (hq:∃ l,OwnPq B w k.pa k.pc l∧l.map Pq.po=x.ps.map Pq.po) (hr:zer B w k.ra k.rc x.rs):CfAt (zp0 w g) x.cf k:=by
 obtain⟨l,hp,hpo⟩:=hq;have hp':OwnPq B (zp0 w g) k.pa k.pc l:=⟨zki hg hp.row,fun y hy=>zki hg (hp.dat y hy)⟩
 have hr':zer B (zp0 w g) k.ra k.rc x.rs:=zki hg hr
 obtain⟨hpos,hpc⟩:=hp'.at_ (fun y hy=>by
  have hy2:y.po∈x.cf.ps:=by
   show y.po∈x.ps.map Pq.po
   rw[← hpo];exact List.mem_map_of_mem hy
  obtain⟨i,hi,e⟩:=List.getElem_of_mem hy2;obtain⟨b,off,ta,tc,_,_,_,ht,hl,_⟩:=hc.pos.cell i hi;rw[e] at ht hl
  exact⟨ht.lt,hl.1⟩)
 rw[hpo] at hpos;obtain⟨hrt,hrc,hrz⟩:=hr'.at_ (fun r hr=>by have:=hx.t.rs r (by simpa [Sm.cf] using hr);simp only[maxLen];omega);exact⟨hc.wv,hrt,hpos,hc.rl,hc.pl,hc.rz⟩
theorem zs6 {B:Nat} {w:World} {k:CfH} {x:Sm} {sp:Option Addr} (hs:∀ b,blk sp=some b→b<B) (hx:SmOk x) (hc:CfAt w x.cf k) (hq:∃ l,OwnPq B w k.pa k.pc l∧l.map Pq.po=x.ps.map Pq.po) (hr:zer B w k.ra k.rc x.rs):∃ w0,CfAt w0 x.cf k∧CKs w0 w sp:=by
 cases hb:blk sp with
 |none=>exact⟨w,hc,Nat.le_refl _,fun h=>h,fun b e=>by rw[hb] at e;cases e⟩
 |some g =>
  refine⟨zp0 w g,zs5 (hs g hb) hx hc hq hr,Nat.le_of_eq (zk4 w g),fun {b j v} h=>?_,fun b e j=>?_⟩
  ·by_cases e:b=g
   ·subst e;rw[zk3] at h;cases h
   ·rw[World.cell?_of_block (zqo w g b e)] at h;exact h
  ·rw[hb] at e;obtain rfl:=Option.some.inj e;exact zk3 w _ j
theorem zrc {base b c2:Nat} {w w':World} {T:TypeId} {k n:Nat} {v:Value} {xs:List Value} {s s':Option Addr} {q:List Nat} (hT:T≠5) (r:w.ownsRow base T k v n xs) (ho:OwnB b w s c2 q) (hg:Grew w s w' s'):w'.ownsRow base T k v n xs:=by
 refine⟨r.1,?_⟩;rcases r.2 with hv|⟨g,cap,cur,hv,hb,hh,q⟩
 ·exact .inl hv
 ·exact .inr ⟨g,cap,cur,hv,hb,Grew.block hg hh (ho.ne hh hT),q⟩
theorem mapTI:Tryz.prog.underlying 77=some (.map 3 74):=by kernel_rfl
theorem zr6 {w:World} {h:StH} {x:Sm} (s:StAt w h x) (c:Ls) (hc:c∈x.cl) (hp:-9223372036854775808≤c.id∧c.id≤9223372036854775807):(Instr.lookup 77 (.map (some h.C)) (.int .i64 c.id) false).run Tryz.prog w=.ok (lsV c) w:=by
 rw[ztk s c.id hp];have h1:=zqr s.cm.rise (x:=(c.id,lsV c)) (List.mem_map.2 ⟨c,hc,rfl⟩);have h2:=zd9 lid lsV c.id x.cl;rw[show(x.cl.map fun q=>(lid q,lsV q))=x.fc from rfl,h1] at h2;cases hg:za9 lid c.id x.cl with
 |none=>rw[hg] at h2;cases h2
 |some d =>
  rw[hg] at h2;simp only[Option.map_some,Option.some.injEq] at h2;simp only[Option.getD_some];rw[h2]
theorem zng {w:World} {h:StH} {x:Sm} (s:StAt w h x) (hx:SmOk x) (hl:SmL x) (hv:x.ver≤1099511627776) :
  Calls Tryz.prog 22 #[.pointer (some ⟨h.S,0,none⟩)] w fun e w'=>∃ sp n c,e=.returned (.slice sp n c)∧Hid ((zjn x).length=n)∧OwnB w.heap.size w' sp c (zjn x)∧Below w.heap.size w w':=by
 have hv0:=hl.vr;have hcn:=hx.cn;obtain⟨v,hvv⟩:∃ v:Nat,x.ver=v:=⟨x.ver.toNat,by omega⟩
 have HL:=zaa (show ∀ j,((x.cl.take j).flatMap lsB).length≤24*j from fun j=>zsq hl.cl hv j);have LC:=zaa hl.cl;have hv1:=zaa hv;have SW:=zaa s;have KC:=zaa (fun (W:World) (hb:Below w.heap.size w W)=>zdn (s.later hb) hx);have OK:=zaa hx;have CL:=zaa (zh8 x.cf hx.t);have EP:=zaa (show zjn x=zal v++(zav x.cf++(zal x.cl.length++x.cl.flatMap lsB)) by unfold zjn;rw[hvv];rfl);obtain⟨c0,c1,c2,c3⟩:=s.cell;have C3H:=zaa c3;have LV:=zaa (zap v (by omega));have b1:=zaa (show Below w.heap.size w (w.alloc (.cells (zcl [v]) 3)) from(Below.refl _ _).alloc (Nat.le_refl _) _);have AN:=zaa (zbb w.heap.size (sp:=none) (n0:=0) (c:=0) (l:=[]) rfl (OwnB.ofNil _ _) w.heap.size 1 1 [v] rfl (zad w (.cells (zcl [v]) 3)) (by intro n hn;simp at hn;omega) (by simp) (by omega) (za b1).size);rw[zuo,List.nil_append] at AN;rw[show zcl [v]=#[.int .i64 (v:Int)] from rfl] at AN b1;rw[hvv] at c0;have hvI:¬ (v:Int) > 1099511627776:=by omega
 generalize hcl:x.cl.length=m at *;have HM:=zaa hcl;clear hv hl s hx hcl;go_enter Tryz.func22,Tryz.ntmps22
 go_wp2_with fail
 refine(za AN).mono ?_;rintro e V1 ⟨s1,m1,cc1,rfl,hn1,ho1,hg1⟩;have B1:=zaa (zai (Nat.le_refl _) (OwnB.ofNil _ _) hg1 (za b1).size (za b1));have O1:=zaa ho1;have CC:=zaa (za KC V1 (za B1));clear ho1 hg1 AN
 go_wp2_with fail
 refine(za CC).mono ?_;rintro e V2 ⟨k,rfl,cf,v2,pq,rt⟩;obtain⟨w0,hw0,ck⟩:=zs6 (fun b hb=>(blk_lt (za O1) hb).2) (za OK) cf pq rt;have O2:=zaa ((za O1).later v2);have B2:=zaa ((za B1).trans (v2.mono (za B1).size));have AC:=zaa (zem w.heap.size hw0 (za OK).t ck (za hn1) (za O2) (by have:=za LV;omega) (za B2).size);clear cf v2 pq rt hw0 ck CC O1 B1
 go_wp2_with fail
 refine(za AC).mono ?_;rintro e V3 ⟨s3,m3,cc3,rfl,hn3,ho3,hg3⟩;have B3:=zaa (zai (Nat.le_refl _) (za O2) hg3 (za B2).size (za B2));have O3:=zaa ho3;have d3:=cell_later (za B3) c3;have ml:∀ ty,(Builtin.len_ #[77] ty #[.map (some h.C)]).run Tryz.prog V3=.ok (.int .i64 (m:Int)) V3:=fun ty=>by
  have:=((za SW).later (za B3)).cm.len mapTI ty
  rwa [show x.fc.length=m by rw[Sm.fc,List.length_map];exact za HM] at this
 have b4:=zaa (show Below V3.heap.size V3 (V3.alloc (.cells (zcl [m]) 3)) from(Below.refl _ _).alloc (Nat.le_refl _) _);have O4:=zaa ((za O3).later (za b4));have B4:=zaa ((za B3).trans ((za b4).mono (za B3).size));have AN:=zaa (zbb w.heap.size (za hn3) (za O4) V3.heap.size 1 1 [m] rfl (zad V3 (.cells (zcl [m]) 3)) (by intro n hn;simp at hn;omega) (by have h1:=za LV;have h2:=za CL;rw[List.length_append];omega) (by omega) (za B4).size);rw[zuo] at AN;rw[show zcl [m]=#[.int .i64 (m:Int)] from rfl] at AN b4 O4 B4;clear ho3 hg3 AC O2 B2
 go_wp2_with fail
 refine(za AN).mono ?_;rintro e V4 ⟨s4,m4,cc4,rfl,hn4,ho4,hg4⟩;have B5:=zaa (zai (Nat.le_refl _) (za O4) hg4 (za B4).size (za B4));have O5:=zaa ho4;have d4:=cell_later (za B5) c3;have KI:=zaa (zm5 h.C V4);have SI:=zaa (zko ((za SW).later (za B5)).cm (by rw[Sm.fc,List.length_map];have:=za HM;omega));rw[show x.fc.length=m by rw[Sm.fc,List.length_map];exact za HM,show x.fc.map (·.1)=x.cl.map lid by rw[Sm.fc,List.map_map];rfl] at SI;clear ho4 hg4 AN O4 B4 B3 O3 ml d3 c3
 go_wp2_with fail
 refine(za KI).mono ?_;rintro e V5 ⟨rfl,rfl⟩;clear KI
 go_wp2_with fail
 refine(za SI).mono ?_;rintro e V6 ⟨sk,ck,rfl,hk,v6⟩;have O6:=zaa ((za O5).later v6);have B6:=zaa ((za B5).trans (v6.mono (za B5).size));have IK:=zaa hk;clear hk v6 SI O5 B5 d4;have LL:=zaa (show(zal v++zav x.cf++zal m).length≤110000000012 by have h1:=za LV;have h2:=za CL;have h3:=zap m (by omega);simp only[List.length_append];omega)
 go_wp2_with fail
 go_loopw [3,5,6,40] (fun b _ _ i wr=>∃ (j:Nat) (s:Option Addr) (n' c':Nat),j≤m∧b=.slice s n' c'∧i=.int .i64 (j:Int)∧Hid ((zal v++zav x.cf++zal m++(x.cl.take j).flatMap lsB).length=n')∧Hid (OwnB w.heap.size wr s c' (zal v++zav x.cf++zal m++(x.cl.take j).flatMap lsB))∧Hid (Below w.heap.size w wr)∧Hid (zp2 V4.heap.size wr sk ck (x.cl.map lid))) (fun _ _ _ i _=>m - (intOf i).toNat)
 case atStart=>exact⟨0,s4,m4,cc4,by omega,rfl,rfl,zaa (by simpa using za hn4),zaa (by simpa using za O6),B6,IK⟩
 case round =>
  obtain⟨j,s,n',c',hj,rfl,rfl,hn,HO,HB,HK⟩:=hrel;by_cases hjm:j<m
  ·as_aux_lemma =>
   have y0:(0:Int)≤(j:Int):=by omega
   have y1:(j:Int)<(m:Int):=by omega
   have hjl:j<x.cl.length:=by rw[za HM];exact hjm
   obtain⟨g,rfl,_,_,hcell⟩:=(za HK).cell j (by rw[List.length_map];exact hjl);have p0:=hcell wr rfl;rw[List.getElem_map] at p0;have SJ:=zaa ((za SW).later (za HB));have hmem:=List.getElem_mem hjl;have hok:=za LC _ hmem;have lk:=zr6 (za SJ) _ hmem (by have:=hok.id;omega);obtain⟨hrow,hns⟩:=hok.row (za hv1);have FT:=zaa (zb5 lsB x.cl j hjl);have LJ:=zaa (show(zal v++zav x.cf++zal m++(x.cl.take j).flatMap lsB).length≤110000100000 by have h1:=za LL;have h2:=za HL j;rw[List.length_append];omega);have d3:=cell_later (za HB) (za C3H);have N4:=zaa (ns4 x.cl[j]);generalize x.cl[j]=c at *;obtain⟨ci,cs,ce,cv⟩:=c;dsimp only at *;simp only[lsV,lid] at lk p0;have bL:=zaa (show Below wr.heap.size wr (wr.alloc (.cells #[.int .i64 cs,.int .i64 ce,.int .i64 cv] 74)) from(Below.refl _ _).alloc (Nat.le_refl _) _);have XL:=zad wr (.cells #[.int .i64 cs,.int .i64 ce,.int .i64 cv] 74);have l0:=zab XL 0 (.int .i64 cs) rfl;have l1:=zab XL 1 (.int .i64 ce) rfl;have l2:=zab XL 2 (.int .i64 cv) rfl;clear XL;generalize hU:wr.alloc (.cells #[.int .i64 cs,.int .i64 ce,.int .i64 cv] 74)=U at *;have bM:=zaa (show Below U.heap.size U (U.alloc (.cells (zcl [ci.toNat,cs.toNat,ce.toNat,cv.toNat]) 3)) from(Below.refl _ _).alloc (Nat.le_refl _) _);have OM:=zaa (((za HO).later (za bL)).later (za bM));have BM:=zaa ((za HB).trans (((za bL).trans ((za bM).mono (za bL).size)).mono (za HB).size));have AN:=zaa (zbb w.heap.size (za hn) (za OM) U.heap.size 4 4 [ci.toNat,cs.toNat,ce.toNat,cv.toNat] rfl (zad U (.cells (zcl [ci.toNat,cs.toNat,ce.toNat,cv.toNat]) 3)) hns (by have h1:=za LJ;omega) (by omega) (za BM).size)
   rw[za N4] at AN;have KM:=zaa (zb0 (zb0 (za HK) (za bL)) (za bM));rw[hrow] at AN bM OM BM KM;clear hcell hmem hok hns hrow SJ
   go_wp2_with fail
   refine(za AN).mono ?_;rintro e U2 ⟨s5,m5,cc5,rfl,hn5,ho5,hg5⟩;rw[List.append_assoc (zal v++zav x.cf++zal m),← za FT] at hn5 ho5;have B9:=zaa (zai (Nat.le_refl _) (za OM) hg5 (za BM).size (za BM));have O9:=zaa ho5;have K9:=zaa (zrc (by decide) (za KM) (za OM) hg5);clear ho5 hg5 AN KM OM BM
   go_wp2
   exact⟨⟨j+1,s5,m5,cc5,by omega,rfl,by go_num,hn5,O9,B9,K9⟩,by simp[intOf];omega⟩
  ·as_aux_lemma =>
   have y1:¬ (j:Int)<(m:Int):=by omega
   have E:=zaa (show zal v++zav x.cf++zal m++(x.cl.take j).flatMap lsB=zjn x by rw[za EP,List.take_of_length_le (by rw[za HM];omega)];simp only[List.append_assoc]);rw[za E] at hn HO
   go_wp2
   go_ret
   exact⟨s,n',c',rfl,hn,za HO,za HB⟩
end
end Go.Proofs.YtjcjleaicjhpeaaGreatDoor
