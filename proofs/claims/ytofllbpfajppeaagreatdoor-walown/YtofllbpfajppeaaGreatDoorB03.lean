/- Disk: a file's crash. -/
import Derived.Test.YtofllbpfajppeaaGreatDoorB02
import Derived.Lib.ConvBytes
import Derived.Maps.OwnSet
import Derived.Maps.Views
import Derived.Sort.KeysCollected
import Derived.StringKeys
set_option linter.unusedVariables false
set_option maxRecDepth 20000
set_option maxHeartbeats 16000000
namespace Go.Proofs.YtofllbpfajppeaaGreatDoor
section
open Go.ChangeShapes Go.WideShapes Go.ChangeAt Go.RowKit
def zs6 (base:Nat) (w:World) (F:Nat) (f:Fil) (U:Nat) (e:Ending) (w':World):Prop :=
 (f.la=false∧(za3 (f.xs.map (·.1)) f.y U).2=U∧e=.returned (.bool false)∧∃ g,FGrew F w f w' g) ∨
 (¬ (f.la=false∧(za3 (f.xs.map (·.1)) f.y U).2=U)∧e=.returned (.bool true)∧∃ g,FileAt base w' F g∧FGrew F w f w' g∧g.b=(za3 (f.xs.map (·.1)) f.y U).1∧g.y=(za3 (f.xs.map (·.1)) f.y U).1∧g.la=true∧g.xs=[])
theorem ztk (c:Chg) (y:List Nat) (u:Nat) (hk:c.2.1≤y.length):(zc5 c y u).length≤y.length+c.2.2.length:=by
 unfold zc5;split
 ·rw[List.length_take];omega
 ·rw[zer _ _ _ hk,List.length_take];omega
theorem zrs (base:Nat) (w:World) (F:Nat) (f:Fil) (h:FileAt base w F f) (U:Nat) (hU:U≤9223372036854775807) (hx:f.xs.length≤1000000000) (hfit:zko (f.xs.map (·.1)) f.y) (hy:f.y.length≤140737488355328) (hbs:base≤w.heap.size) :
  Calls Tryz.prog 56 #[.pointer (some ⟨F,0,none⟩),.int .i64 (U:Int)] w (zs6 base w F f U):=by
 have c3:=h.c3;have H:=zaa h;have HF:=zaa hfit;have HY:=zaa hy;have HB:=zaa hbs;clear h hfit hy hbs;go_enter Tryz.func56,Tryz.ntmps56
 go_wp2_with fail
 go_loopw [5,15] (fun v i wr=>∃ (j L:Nat) (g:Fil),j≤f.xs.length∧L≤U∧v=.int .i64 (L:Int)∧i=.int .i64 (j:Int)∧Hid (FileAt base wr F g)∧Hid (FGrew F w f wr g)∧Hid (g.xs=f.xs∧g.cp=f.cp∧g.cc=f.cc∧g.la=f.la)∧Hid (za3 ((f.xs.drop j).map (·.1)) g.y L=za3 (f.xs.map (·.1)) f.y U)∧Hid (0<L→zko ((f.xs.drop j).map (·.1)) g.y)∧Hid (g.y.length≤140737488355328)) (fun _ i _=>f.xs.length - (intOf i).toNat)
 case atStart=>exact⟨0,U,f,by omega,Nat.le_refl _,rfl,rfl,za H,FGrew.refl _ _ _,⟨rfl,rfl,rfl,rfl⟩,rfl,fun _=>za HF,za HY⟩
 case round =>
  obtain⟨j,L,g,hj,hL,rfl,rfl,HG,GG,HS,HC,HT,HYG⟩:=hrel;by_cases hjn:j<f.xs.length
  ·have hj0:(0:Int)≤(j:Int):=by omega
   have hj1:(j:Int)<(f.xs.length:Int):=by omega
   have OC:=zaa (show OwnC base wr f.cp f.cc f.xs by
    have h1:=(za HG).chs;rw[(za HS).1,(za HS).2.1,(za HS).2.2.1] at h1
    exact h1)
   obtain⟨gb,hgb,p0,p1,p2⟩:=(za OC).cell j hjn;have HX:=zaa (show f.xs[j]∈g.xs by rw[(za HS).1];exact List.getElem_mem hjn);have HDR:=zaa (List.drop_eq_getElem_cons hjn);generalize f.xs[j]=x at *;have DX:=zaa ((za HG).chs.dat x (za HX));have NX:=zaa (fun g0 hg0=>((za HG).far x (za HX) g0 hg0).2);have bA:=zaa (show Below wr.heap.size wr (wr.alloc (.cells #[.bool x.1.1,.int .i64 (x.1.2.1:Int),.slice x.2.1 x.1.2.2.length x.2.2] 131)) from(Below.refl _ _).alloc (Nat.le_refl _) _);by_cases hL0:L=0
   ·subst hL0;have HE:=zaa (show za3 (f.xs.map (·.1)) f.y U=(g.y,0) by rw[← za HC,ze2]);rw[hgb];have FAh:=zaa ((za HG).later (za bA));have FGh:=zaa ((za GG).trans (FGrew.ofBelow (za bA)));have t1:=(za FAh).c1;have t2:=(za FAh).c2;have TB:=zaa (za FAh).sure.bytes;have TZ:=zaa (za FAh).sure.nil0;have TC:=zaa (fun (V:World) hb=>(za FAh).crash3 (V:=V) (Nat.le_trans (za HB) (za FGh).size) hb);rw[(za HS).2.2.2] at t2;by_cases hq:f.la=false∧0=U
    ·have hLU:((0:Nat):Int)=(U:Int):=by rw[hq.2]
     have HQ:=zaa hq;rw[hq.1] at t2;clear hq
     go_wp2
     go_ret
     exact Or.inl ⟨(za HQ).1,by rw[za HE];exact(za HQ).2,rfl,g,za FGh⟩
    ·have HQ:=zaa hq;have HQ2:=zaa (show ¬ (f.la=false∧(za3 (f.xs.map (·.1)) f.y U).2=U) by rw[za HE];exact hq);cases hla:f.la with
     |true =>
      rw[hla] at t2;clear hq
      go_wp2_with (go_at_call 82;refine(zc9 g.yp g.y.length g.yc g.y _ rfl (za HYG) (za TB) (za TZ)).mono ?_;rintro e1 V ⟨dp,rfl,hdo,hbV⟩;obtain⟨k1,k2,k3,k4⟩:=za TC V hbV dp hdo;have v0:=((za FAh).later hbV).c0;have x0:=((za FAh).later hbV).fz 0;have v2:=k1.c2;have x2:=k1.fz 2;have v3:=k2.c3;have x3:=k2.fz 3;have K3:=zaa k3;have K4:=zaa k4;clear k1 k2 k3 k4 hdo hbV)
      go_ret
      exact Or.inr ⟨za HQ2,rfl,g.crashed dp,za K3,(za FGh).trans (za K4),by rw[za HE];rfl,by rw[za HE];rfl,rfl,rfl⟩
     |false =>
      rw[hla] at t2;have hLU:¬ ((0:Nat):Int)=(U:Int):=fun e=>hq ⟨hla,by omega⟩;clear hq
      go_wp2_with (go_at_call 82;refine(zc9 g.yp g.y.length g.yc g.y _ rfl (za HYG) (za TB) (za TZ)).mono ?_;rintro e1 V ⟨dp,rfl,hdo,hbV⟩;obtain⟨k1,k2,k3,k4⟩:=za TC V hbV dp hdo;have v0:=((za FAh).later hbV).c0;have x0:=((za FAh).later hbV).fz 0;have v2:=k1.c2;have x2:=k1.fz 2;have v3:=k2.c3;have x3:=k2.fz 3;have K3:=zaa k3;have K4:=zaa k4;clear k1 k2 k3 k4 hdo hbV)
      go_ret
      exact Or.inr ⟨za HQ2,rfl,g.crashed dp,za K3,(za FGh).trans (za K4),by rw[za HE];rfl,by rw[za HE];rfl,rfl,rfl⟩
   ·have hLp:¬ ((L:Int)=0):=by omega
    have XA:=zaa (zad wr (.cells #[.bool x.1.1,.int .i64 (x.1.2.1:Int),.slice x.2.1 x.1.2.2.length x.2.2] 131));have q0:=zan (za XA) 0 (.bool x.1.1) rfl;have q1:=zan (za XA) 1 (.int .i64 (x.1.2.1:Int)) rfl;have q2:=zan (za XA) 2 (.slice x.2.1 x.1.2.2.length x.2.2) rfl;rw[hgb]
    go_wp2_with fail
    refine(zs0 x _).mono ?_;rintro e W2 ⟨rfl,b2⟩;have B2:=zaa (show Below wr.heap.size wr W2 from(za bA).trans (b2.mono (za bA).size));have X2:=zaa ((b2.block wr.heap.size (Array.getElem?_eq_some_iff.1 (za XA)).1).trans (za XA));have r0:=zan (za X2) 0 (.bool x.1.1) rfl;have r1:=zan (za X2) 1 (.int .i64 (x.1.2.1:Int)) rfl;have r2:=zan (za X2) 2 (.slice x.2.1 x.1.2.2.length x.2.2) rfl;have H2:=zaa ((za HG).later (za B2));have r3:=(za H2).c1;clear b2 p0 p1 p2 q0 q1 q2
    have FT:=zaa (show x.1.2.1≤g.y.length∧g.y.length+x.1.2.2.length≤140737488355328∧zko ((f.xs.drop (j+1)).map (·.1)) (zc5 x.1 g.y (zap x.1)) by
     have h1:=za HT (by omega);rw[za HDR] at h1
     exact h1)
    have DX2:=zaa ((za DX).later (za B2));have SB:=zaa (show base≤W2.heap.size from Nat.le_trans (Nat.le_trans (za HB) (za GG).size) (za B2).size);have G2:=zaa ((za GG).trans (FGrew.ofBelow (za B2)))
    have HN0:=zaa (show za3 ((f.xs.drop (j+1)).map (·.1)) (zc5 x.1 g.y (min L (zap x.1))) (L - min L (zap x.1))=za3 ((f.xs.drop j).map (·.1)) g.y L by
     rw[za HDR,List.map_cons,za3,if_neg hL0])
    go_wp2
    all_goals first
     |(have hcase:L≤zap x.1:=by omega
       have HN:=zaa (show za3 ((f.xs.drop (j+1)).map (·.1)) (zc5 x.1 g.y L) (L - L)=za3 ((f.xs.drop j).map (·.1)) g.y L by
        have h1:=za HN0;rw[show min L (zap x.1)=L by omega] at h1
        exact h1)
       have HM:=zaa (show min L (zap x.1)=L by omega);have hsub:IntKind.i64.wrap ((L:Int) - ((L:Nat):Int))=((L - L:Nat):Int):=by rw[IntKind.wrap_i64];omega
       have hU1:=zaa (show x.1.1=false→L≤x.1.2.2.length from fun e=>by
        have h1:zap x.1=x.1.2.2.length:=by simp[zap,e]
        omega)
       have hFT:=zaa (show 0<L - L→L=zap x.1 from fun h=>by omega);have hLm:=zaa (show L - L≤U by omega)
       go_region_law (go_simp;go_at_call 89;refine(zm8 base _ x g.yp g.yc g.y L (by first|exact(za H2).sure|exact⟨(za H2).sure.lt,(za H2).sure.row⟩) (by first|exact za DX2|exact⟨(za DX2).lt,(za DX2).row⟩) (za FT).1 (za hU1) (za NX) (za FT).2.1 (by exact za SB)).mono ?_;rintro e3 W3 ⟨yp,yc,rfl,hX,hG⟩;obtain⟨v1,x1,k3,k4⟩:=(za H2).overY yp yc (zc5 x.1 g.y L) hX ⟨⟨hG.grown.os,hG.grown.tape,hG.grown.output,hG.grown.size,hG.grown.block⟩,hG.lies⟩;have K3:=zaa k3;have K4:=zaa k4;clear hX hG k3 k4)
       all_goals
        go_wp2
        refine⟨⟨j+1,L - L,g.overY yp yc (zc5 x.1 g.y L),by omega,za hLm,by rw[Value.int.injEq];exact⟨rfl,by omega⟩,by rw[Value.int.injEq];exact⟨rfl,by omega⟩,za K3,(za G2).trans (za K4),?_,?_,?_,?_⟩,by simp[intOf];omega⟩
        ·exact zaa ⟨(za HS).1,by rw[← hgb];exact(za HS).2.1,(za HS).2.2.1,(za HS).2.2.2⟩
        ·exact zaa ((za HN).trans (za HC))
        ·exact zaa (fun h=>by rw[show(g.overY yp yc (zc5 x.1 g.y L)).y=zc5 x.1 g.y (zap x.1) by rw[← za hFT h];rfl];exact(za FT).2.2)
        ·exact zaa (Nat.le_trans (ztk x.1 g.y L (za FT).1) (za FT).2.1))
     |(have hcase:zap x.1≤L:=by omega
       have HN:=zaa (show za3 ((f.xs.drop (j+1)).map (·.1)) (zc5 x.1 g.y (zap x.1)) (L - zap x.1)=za3 ((f.xs.drop j).map (·.1)) g.y L by
        have h1:=za HN0;rw[show min L (zap x.1)=zap x.1 by omega] at h1
        exact h1)
       have HM:=zaa (show min L (zap x.1)=(zap x.1) by omega);have hsub:IntKind.i64.wrap ((L:Int) - (((zap x.1):Nat):Int))=((L - (zap x.1):Nat):Int):=by rw[IntKind.wrap_i64];omega
       have hU1:=zaa (show x.1.1=false→(zap x.1)≤x.1.2.2.length from fun e=>by
        have h1:zap x.1=x.1.2.2.length:=by simp[zap,e]
        omega)
       have hFT:=zaa (show 0<L - (zap x.1)→(zap x.1)=zap x.1 from fun h=>by omega);have hLm:=zaa (show L - (zap x.1)≤U by omega)
       go_region_law (go_simp;go_at_call 89;refine(zm8 base _ x g.yp g.yc g.y (zap x.1) (by first|exact(za H2).sure|exact⟨(za H2).sure.lt,(za H2).sure.row⟩) (by first|exact za DX2|exact⟨(za DX2).lt,(za DX2).row⟩) (za FT).1 (za hU1) (za NX) (za FT).2.1 (by exact za SB)).mono ?_;rintro e3 W3 ⟨yp,yc,rfl,hX,hG⟩;obtain⟨v1,x1,k3,k4⟩:=(za H2).overY yp yc (zc5 x.1 g.y (zap x.1)) hX ⟨⟨hG.grown.os,hG.grown.tape,hG.grown.output,hG.grown.size,hG.grown.block⟩,hG.lies⟩;have K3:=zaa k3;have K4:=zaa k4;clear hX hG k3 k4)
       all_goals
        go_wp2
        refine⟨⟨j+1,L - (zap x.1),g.overY yp yc (zc5 x.1 g.y (zap x.1)),by omega,za hLm,by rw[Value.int.injEq];exact⟨rfl,by omega⟩,by rw[Value.int.injEq];exact⟨rfl,by omega⟩,za K3,(za G2).trans (za K4),?_,?_,?_,?_⟩,by simp[intOf];omega⟩
        ·exact zaa ⟨(za HS).1,by rw[← hgb];exact(za HS).2.1,(za HS).2.2.1,(za HS).2.2.2⟩
        ·exact zaa ((za HN).trans (za HC))
        ·exact zaa (fun h=>by rw[show(g.overY yp yc (zc5 x.1 g.y (zap x.1))).y=zc5 x.1 g.y (zap x.1) by rw[← za hFT h];rfl];exact(za FT).2.2)
        ·exact zaa (Nat.le_trans (ztk x.1 g.y (zap x.1) (za FT).1) (za FT).2.1))
  ·have HE:=zaa (show za3 (f.xs.map (·.1)) f.y U=(g.y,L) by rw[← za HC,List.drop_of_length_le (by omega)];rfl);have hj2:¬ ((j:Int)<(f.xs.length:Int)):=by omega
   have FAh:=zaa (za HG);have FGh:=zaa (za GG);have t1:=(za FAh).c1;have t2:=(za FAh).c2;have TB:=zaa (za FAh).sure.bytes;have TZ:=zaa (za FAh).sure.nil0;have TC:=zaa (fun (V:World) hb=>(za FAh).crash3 (V:=V) (Nat.le_trans (za HB) (za FGh).size) hb);rw[(za HS).2.2.2] at t2;by_cases hq:f.la=false∧L=U
   ·have hLU:((L:Nat):Int)=(U:Int):=by rw[hq.2]
    have HQ:=zaa hq;rw[hq.1] at t2;clear hq
    go_wp2
    go_ret
    exact Or.inl ⟨(za HQ).1,by rw[za HE];exact(za HQ).2,rfl,g,za FGh⟩
   ·have HQ:=zaa hq;have HQ2:=zaa (show ¬ (f.la=false∧(za3 (f.xs.map (·.1)) f.y U).2=U) by rw[za HE];exact hq);cases hla:f.la with
    |true =>
     rw[hla] at t2;clear hq
     go_wp2_with (go_at_call 82;refine(zc9 g.yp g.y.length g.yc g.y _ rfl (za HYG) (za TB) (za TZ)).mono ?_;rintro e1 V ⟨dp,rfl,hdo,hbV⟩;obtain⟨k1,k2,k3,k4⟩:=za TC V hbV dp hdo;have v0:=((za FAh).later hbV).c0;have x0:=((za FAh).later hbV).fz 0;have v2:=k1.c2;have x2:=k1.fz 2;have v3:=k2.c3;have x3:=k2.fz 3;have K3:=zaa k3;have K4:=zaa k4;clear k1 k2 k3 k4 hdo hbV)
     go_ret
     exact Or.inr ⟨za HQ2,rfl,g.crashed dp,za K3,(za FGh).trans (za K4),by rw[za HE];rfl,by rw[za HE];rfl,rfl,rfl⟩
    |false =>
     rw[hla] at t2;have hLU:¬ ((L:Nat):Int)=(U:Int):=fun e=>hq ⟨hla,by omega⟩;clear hq
     go_wp2_with (go_at_call 82;refine(zc9 g.yp g.y.length g.yc g.y _ rfl (za HYG) (za TB) (za TZ)).mono ?_;rintro e1 V ⟨dp,rfl,hdo,hbV⟩;obtain⟨k1,k2,k3,k4⟩:=za TC V hbV dp hdo;have v0:=((za FAh).later hbV).c0;have x0:=((za FAh).later hbV).fz 0;have v2:=k1.c2;have x2:=k1.fz 2;have v3:=k2.c3;have x3:=k2.fz 3;have K3:=zaa k3;have K4:=zaa k4;clear k1 k2 k3 k4 hdo hbV)
     go_ret
     exact Or.inr ⟨za HQ2,rfl,g.crashed dp,za K3,(za FGh).trans (za K4),by rw[za HE];rfl,by rw[za HE];rfl,rfl,rfl⟩
def stands (c:Nat):Bool:=(decide (97≤c)&&decide (c≤122))||((decide (48≤c)&&decide (c≤57))||(decide (c=45)||decide (c=46)))
theorem zl2 (c:Nat) (w:World):Calls Tryz.prog 169 #[.int .u8 (c:Int)] w fun e w'=>e=.returned (.bool (stands c))∧w'=w:=by
 go_enter Tryz.func169,Tryz.ntmps169
 go_wp2
 all_goals
  go_ret
  refine⟨congrArg (fun b=>Ending.returned (Value.bool b)) (?_:_=stands c),rfl⟩;rw[Bool.eq_iff_iff];simp[stands];try omega
def zec (s:ByteArray):Bool:=decide (1≤s.size)&&(decide (s.size≤64)&&s.data.toList.all (fun b=>stands b.toNat))
theorem zgo (w:World) (s:ByteArray):Below w.heap.size w (Lib.bytesWorld w 5 s) :=
 ⟨rfl,rfl,rfl,by rw[Lib.bytesWorld_size];omega,fun j hj=>Lib.bytesWorld_at_old w _ s j hj⟩
theorem zbe (s:ByteArray) (w:World):Calls Tryz.prog 137 #[.string s] w fun e w'=>e=.returned (.bool (zec s))∧Below w.heap.size w w':=by
 have hcv:=fun (u:World)=>Lib.run_convert_string_bytes (P:=Tryz.prog) u 9 62 5 s Tryz.underlying9 Tryz.underlying62 zyh;by_cases h1:s.size<1
 ·have hi:(s.size:Int)<1:=by omega
  have HN:=zaa (show zec s=false by simp[zec];omega);go_enter Tryz.func137,Tryz.ntmps137
  go_wp2
  go_ret
  exact⟨by rw[za HN];rfl,Below.refl _ _⟩
 ·by_cases h2:64<s.size
  ·have hi:¬ (s.size:Int)<1:=by omega
   have hi2:(64:Int)<(s.size:Int):=by omega
   have HN:=zaa (show zec s=false by simp[zec];omega);go_enter Tryz.func137,Tryz.ntmps137
   go_wp2
   go_ret
   exact⟨by rw[za HN];rfl,Below.refl _ _⟩
  ·have hi:¬ (s.size:Int)<1:=by omega
   have hi2:¬ (64:Int)<(s.size:Int):=by omega
   have hlen:s.data.toList.length=s.size:=by simp
   have HC:=zaa (fun j hj=>Lib.bytesWorld_cell w 5 s j hj);have HB:=zaa (zgo w s);go_enter Tryz.func137,Tryz.ntmps137
   go_wp2_with fail
   generalize Lib.bytesWorld w 5 s=W at *;go_loopw [16] (fun i wr=>∃ j:Nat,j≤s.size∧i=.int .i64 (j:Int)∧Hid ((s.data.toList.take j).all (fun b=>stands b.toNat)=true)∧Hid (wr=W)) (fun i _=>s.size - (intOf i).toNat)
   case atStart=>exact⟨0,by omega,rfl,by exact zaa (by simp),zaa rfl⟩
   case round =>
    obtain⟨j,hj,rfl,HA,HW⟩:=hrel;have hW:=za HW;subst hW;by_cases hjn:j<s.size
    ·have hj0:(0:Int)≤(j:Int):=by omega
     have hj1:(j:Int)<(s.size:Int):=by omega
     have p0:=za HC j hjn
     have HT:=zaa (show s.data.toList.take (j+1)=s.data.toList.take j++[s.data.toList.getD j 0] by
      rw[List.take_succ_eq_append_getElem (by omega),List.getD_eq_getElem?_getD,List.getElem?_eq_getElem (by omega)];rfl)
     have HM:=zaa (show s.data.toList.getD j 0∈s.data.toList by
      rw[List.getD_eq_getElem?_getD,List.getElem?_eq_getElem (by omega)];exact List.getElem_mem (by omega))
     generalize s.data.toList.getD j 0=b at *
     go_wp2_with fail
     refine(zl2 b.toNat _).mono ?_;rintro e w1 ⟨rfl,rfl⟩;cases hp:stands b.toNat
     ·have HN:=zaa (show zec s=false by
       have:s.data.toList.all (fun b=>stands b.toNat)=false:=by
        rw[List.all_eq_false];exact⟨b,za HM,by simp[hp]⟩
       simp[zec,this])
      go_wp2
      go_ret
      exact⟨by rw[za HN];rfl,za HB⟩
     ·have HA2:=zaa (show(s.data.toList.take (j+1)).all (fun b=>stands b.toNat)=true by
       rw[za HT,List.all_append,za HA];simp[hp])
      go_wp2
      exact⟨⟨j+1,by omega,by go_num,za HA2,by first|exact zaa trivial|exact zaa rfl⟩,by simp[intOf];omega⟩
    ·have HN:=zaa (show zec s=true by
      have h3:=za HA;rw[List.take_of_length_le (by omega)] at h3;simp only[zec,h3,Bool.and_true,Bool.and_eq_true,decide_eq_true_eq]
      omega)
     go_wp2
     go_ret
     exact⟨by rw[za HN];rfl,za HB⟩
end
section
open Go.ChangeShapes Go.WideShapes Go.ChangeAt Go.RowKit Go.Maps
abbrev Nm:=List UInt8
theorem zbd (a:Nm):¬ a<a:=List.lt_irrefl a
theorem zis {a b c:Nm} (h:a<b) (k:b<c):a<c:=List.lt_trans h k
theorem zAh (a b:Nm):a<b∨a=b∨b<a:=by
 by_cases h:a<b
 ·exact .inl h
 ·by_cases k:b<a
  ·exact .inr (.inr k)
  ·exact .inr (.inl (List.le_antisymm (List.not_lt.1 k) (List.not_lt.1 h)))
section
variable {α β:Type}
def zbf (fs:List (Nm×α)):Prop:=fs.Pairwise (fun x y=>x.1<y.1)
def zbi (k:Nm) (v:α):List (Nm×α)→List (Nm×α)
 |[]=>[(k,v)]
 |x::r=>if x.1<k then x::zbi k v r else if x.1=k then (k,v)::r else (k,v)::x::r
def zdm (k:Nm) (fs:List (Nm×α)):List (Nm×α):=fs.filter (fun x=>decide (x.1≠k))
theorem zbf.nodup {fs:List (Nm×α)} (h:zbf fs):(fs.map (·.1)).Nodup:=by
 rw[List.Nodup,List.pairwise_map];refine List.Pairwise.imp ?_ (show fs.Pairwise (fun x y=>x.1<y.1) from h);intro a b hab e;rw[e] at hab;exact zbd _ hab
theorem zbf.one {fs:List (Nm×α)} (h:zbf fs) {x y:Nm×α} (hx:x∈fs) (hy:y∈fs) (e:x.1=y.1):x=y:=by
 induction fs with
 |nil=>simp at hx
 |cons z r ih =>
  have h1:=List.pairwise_cons.1 h;rcases List.mem_cons.1 hx with hx|hx <;> rcases List.mem_cons.1 hy with hy|hy
  ·rw[hx,hy]
  ·exact absurd (show y.1<y.1 by have:=h1.1 y hy;rw[← hx,e] at this;exact this) (zbd _)
  ·exact absurd (show y.1<y.1 by have:=h1.1 x hx;rw[← hy,e] at this;exact this) (zbd _)
  ·exact ih h1.2 hx hy
theorem zb3 {k:Nm} {v:α} : ∀ {fs:List (Nm×α)},zbf fs→∀ y,y∈zbi k v fs↔(y=(k,v)∨(y∈fs∧y.1≠k))
 |[],_,y=>by simp[zbi]
 |x::r,h,y=>by
  have h1:=List.pairwise_cons.1 h;have hr:∀ {z},z∈r→¬ x.1<k→z.1≠k:=fun {z} hz hn e=>hn (e ▸ h1.1 z hz);unfold zbi;by_cases h2:x.1<k
  ·rw[if_pos h2,List.mem_cons,zb3 h1.2 y,List.mem_cons];have:x.1≠k:=fun e=>zbd _ (e ▸ h2);constructor
   ·rintro(rfl|h|h)
    ·exact .inr ⟨.inl rfl,this⟩
    ·exact .inl h
    ·exact .inr ⟨.inr h.1,h.2⟩
   ·rintro(h|⟨rfl|h,hk⟩)
    ·exact .inr (.inl h)
    ·exact .inl rfl
    ·exact .inr (.inr ⟨h,hk⟩)
  ·rw[if_neg h2];by_cases h3:x.1=k
   ·rw[if_pos h3,List.mem_cons,List.mem_cons];constructor
    ·rintro(h|h)
     ·exact .inl h
     ·exact .inr ⟨.inr h,hr h h2⟩
    ·rintro(h|⟨rfl|h,hk⟩)
     ·exact .inl h
     ·exact absurd h3 hk
     ·exact .inr h
   ·rw[if_neg h3,List.mem_cons,List.mem_cons];constructor
    ·rintro(h|rfl|h)
     ·exact .inl h
     ·exact .inr ⟨.inl rfl,h3⟩
     ·exact .inr ⟨.inr h,hr h h2⟩
    ·rintro(h|⟨h,hk⟩)
     ·exact .inl h
     ·exact .inr h
theorem zbf.put {fs:List (Nm×α)} (h:zbf fs) (k:Nm) (v:α):zbf (zbi k v fs):=by
 induction fs with
 |nil=>exact List.pairwise_singleton _ _
 |cons x r ih =>
  have h1:=List.pairwise_cons.1 h;unfold zbi;by_cases h2:x.1<k
  ·rw[if_pos h2];refine List.pairwise_cons.2 ⟨fun y hy=>?_,ih h1.2⟩;rcases(zb3 h1.2 y).1 hy with rfl|⟨hy,_⟩
   ·exact h2
   ·exact h1.1 y hy
  ·rw[if_neg h2];by_cases h3:x.1=k
   ·rw[if_pos h3];exact List.pairwise_cons.2 ⟨fun y hy=>by have:=h1.1 y hy;rw[h3] at this;exact this,h1.2⟩
   ·rw[if_neg h3];have h4:k<x.1:=((zAh x.1 k).resolve_left h2).resolve_left h3;refine List.pairwise_cons.2 ⟨fun y hy=>?_,h⟩;rcases List.mem_cons.1 hy with rfl|hy
    ·exact h4
    ·exact zis h4 (h1.1 y hy)
theorem zbf.del {fs:List (Nm×α)} (h:zbf fs) (k:Nm):zbf (zdm k fs):=h.sublist List.filter_sublist
theorem zbq {fs:List (Nm×α)} {k:Nm} (y:Nm×α):y∈zdm k fs↔(y∈fs∧y.1≠k):=by simp[zdm]
theorem ziw (g:α→β) (k:Nm) (v:α):∀ fs:List (Nm×α),(zbi k v fs).map (fun x=>(x.1,g x.2))=zbi k (g v) (fs.map (fun x=>(x.1,g x.2)))
 |[]=>rfl
 |x::r=>by
  simp only[zbi,List.map_cons];split
  ·rw[List.map_cons,ziw g k v r]
  ·split <;> rfl
theorem znz (g:α→β) (k:Nm) (fs:List (Nm×α)):(zdm k fs).map (fun x=>(x.1,g x.2))=zdm k (fs.map (fun x=>(x.1,g x.2))):=by
 simp only[zdm,List.filter_map];rfl
theorem zbf.map (g:α→β) {fs:List (Nm×α)} (h:zbf fs):zbf (fs.map (fun x=>(x.1,g x.2))):=List.pairwise_map.2 h
theorem zdb {k:Nm} {v:α} : ∀ {fs:List (Nm×α)},zbf fs→(zbi k v fs).length=if k∈fs.map (·.1) then fs.length else fs.length+1
 |[],_=>by simp[zbi]
 |x::r,h=>by
  have h1:=List.pairwise_cons.1 h;have ih:=zdb (k:=k) (v:=v) h1.2;unfold zbi;by_cases h2:x.1<k
  ·have h3:k≠x.1:=fun e=>zbd _ (e ▸ h2);rw[if_pos h2,List.length_cons,ih];simp only[List.map_cons,List.mem_cons,h3,false_or,List.length_cons];split <;> rfl
  ·rw[if_neg h2];by_cases h3:x.1=k
   ·rw[if_pos h3];simp[h3]
   ·rw[if_neg h3];have h4:k ∉ (x::r).map (·.1):=by
     intro hm;simp only[List.map_cons,List.mem_cons] at hm;rcases hm with e|hm
     ·exact h3 e.symm
     ·obtain⟨z,hz,e⟩:=List.mem_map.1 hm;exact h2 (e ▸ h1.1 z hz)
    rw[if_neg h4];rfl
theorem zgb {k:Nm} : ∀ {fs:List (Nm×α)},zbf fs→(zdm k fs).length+(if k∈fs.map (·.1) then 1 else 0)=fs.length
 |[],_=>by simp[zdm]
 |x::r,h=>by
  have h1:=List.pairwise_cons.1 h;have ih:=zgb (k:=k) h1.2;unfold zdm at ih ⊢;rw[List.filter_cons];by_cases h3:x.1=k
  ·have h4:k ∉ r.map (·.1):=fun hm=>by
    obtain⟨z,hz,e⟩:=List.mem_map.1 hm;have:=h1.1 z hz;rw[e,h3] at this;exact zbd _ this
   rw[if_neg h4] at ih;simp[h3] at ih ⊢;exact ih
  ·have h5:(k=x.1)=False:=by simp;exact fun e=>h3 e.symm
   rw[if_pos (by simpa using h3)];simp only[List.length_cons,List.map_cons,List.mem_cons,h5,false_or];omega
end
def zek:Value→Option (DataW Unit×List MemPlace)
 |.pointer none=>some (.nil,[])
 |.pointer (some a)=>if a=⟨a.block,0,none⟩ then some (.lit (.int .i64 (a.block:Int)),[]) else none
 |_=>none
theorem zr0 (F:Nat):zek (.pointer (some ⟨F,0,none⟩))=some (.lit (.int .i64 (F:Int)),[]):=by simp[zek]
theorem zjs {v:Value} {F:Nat} {ps:List MemPlace} (h:zek v=some (.lit (.int .i64 (F:Int)),ps)):v=.pointer (some ⟨F,0,none⟩):=by
 unfold zek at h;split at h
 ·simp at h
 ·rename_i a
  split at h
  ·rename_i ha
   simp only[Option.some.injEq,Prod.mk.injEq,DataW.lit.injEq,Lit.int.injEq,true_and] at h;have:a.block=F:=by omega
   rw[ha,this]
  ·cases h
 ·cases h
theorem zps {v:Value} {ps:List MemPlace} (h:zek v=some (.nil,ps)):v=.pointer none:=by
 unfold zek at h;split at h
 ·rfl
 ·split at h
  ·simp at h
  ·cases h
 ·cases h
theorem zi2:Keyed Tryz.prog 9:=string_keyed Tryz.underlying9
theorem zBd {s:ByteArray} (h:s.size≤maxLen):keyOf Tryz.prog 9 (.string s)=some (.string s.data.toList):=WideMaps.keyOf_string_mk Tryz.underlying9 h
theorem zo5 (w:World):(zeroValue 90).run Tryz.prog w=.ok (.pointer none) w:=by kernel_rfl
structure MapAt (w:World) (B:Nat) (fs:List (Nm×Nat)):Prop where
 map:∃ D:DataW Unit,w.ownsMap Tryz.prog 9 zek B fs.length D∧(∀ k:Nm,Maps.has D (.string k)=true↔k∈fs.map (·.1))∧(∀ x∈fs,∀ zd,D.atKey (.string x.1) zd=.lit (.int .i64 (x.2:Int)))∧Maps.size D=fs.length
theorem ziu {H:Type} {P:Program} {k:TypeId} {R:Value→Option (DataW H×List MemPlace)} {w:World} {b n:Nat} {D:DataW H} (h:w.ownsMap P k R b n D):w.ownsMap P k R b (Maps.size D) D:=by
 obtain⟨es,clock,hb,F,hs,rfl⟩:=h;refine⟨es,clock,hb,F,?_,rfl⟩;simp[Maps.size,length_sorted]
section
variable {w w':World} {B:Nat} {fs:List (Nm×Nat)}
theorem MapAt.same (h:MapAt w B fs) (hb:w'.heap[B]? = w.heap[B]?):MapAt w' B fs:=by
 obtain⟨D,⟨es,k,h1,r⟩,r2⟩:=h.map;exact⟨D,⟨es,k,hb.trans h1,r⟩,r2⟩
theorem MapAt.isMap (h:MapAt w B fs):∃ es k,w.heap[B]? = some (.map es k):=by
 obtain⟨D,⟨es,k,hb,_⟩,_⟩:=h.map;exact⟨es,k,hb⟩
theorem MapAt.lt (h:MapAt w B fs):B<w.heap.size:=by
 obtain⟨es,k,hb⟩:=h.isMap;exact(Array.getElem?_eq_some_iff.1 hb).1
theorem MapAt.later (h:MapAt w B fs) (hb:Below w.heap.size w w'):MapAt w' B fs:=h.same (hb.block B h.lt)
theorem MapAt.made (w:World):MapAt (w.alloc (.map #[] 0)) w.heap.size [] :=
 ⟨_,World.ownsMap_made (H:=Unit) w Tryz.prog 9 zek,fun _=>by simp[Maps.has],by simp,rfl⟩
theorem MapAt.look_yes (h:MapAt w B fs) (s:ByteArray) (hs:s.size≤maxLen) (F:Nat) (hF:(s.data.toList,F)∈fs):(Instr.lookup 92 (.map (some B)) (.string s) true).run Tryz.prog w=.ok (.tuple #[.pointer (some ⟨F,0,none⟩),.bool true]) w∧(Instr.lookup 92 (.map (some B)) (.string s) false).run Tryz.prog w=.ok (.pointer (some ⟨F,0,none⟩)) w:=by
 obtain⟨D,hD,hH,hA,_⟩:=h.map;have hh:Maps.has D (.string s.data.toList)=true:=(hH _).2 (List.mem_map.2 ⟨_,hF,rfl⟩);obtain⟨v,ps,hrun,hv⟩:=hD.look_ok zi2 Tryz.underlying92 (zo5 w) (zd:=.nil) (zp:=[]) rfl (zBd hs);obtain⟨v2,ps2,hrun2,hv2⟩:=hD.lookup zi2 Tryz.underlying92 (zo5 w) (zd:=.nil) (zp:=[]) rfl (zBd hs);rw[hA _ hF] at hv hv2;rw[zjs hv,hh] at hrun;rw[zjs hv2] at hrun2;exact⟨hrun,hrun2⟩
theorem MapAt.look_no (h:MapAt w B fs) (s:ByteArray) (hs:s.size≤maxLen) (hF:s.data.toList ∉ fs.map (·.1)):(Instr.lookup 92 (.map (some B)) (.string s) true).run Tryz.prog w=.ok (.tuple #[.pointer none,.bool false]) w:=by
 obtain⟨D,hD,hH,hA,_⟩:=h.map;have hh:Maps.has D (.string s.data.toList)=false:=by
  cases e:Maps.has D (.string s.data.toList) with
  |false=>rfl
  |true=>exact absurd ((hH _).1 e) hF
 obtain⟨v,ps,hrun,hv⟩:=hD.look_ok zi2 Tryz.underlying92 (zo5 w) (zd:=.nil) (zp:=[]) rfl (zBd hs);rw[atKey_of_not_has hh] at hv;rw[zps hv,hh] at hrun;exact hrun
theorem MapAt.len (h:MapAt w B fs) (ty:TypeId):(Builtin.len_ #[92] ty #[.map (some B)]).run Tryz.prog w=.ok (.int .i64 (fs.length:Int)) w:=by
 obtain⟨D,hD,hH,hA,hS⟩:=h.map;rw[← hS];exact hD.len Tryz.underlying92 ty
theorem MapAt.store (h:MapAt w B fs) (hr:zbf fs) (s:ByteArray) (hs:s.size≤maxLen) (F:Nat) (hn:fs.length≤1000):∃ w',(Instr.mapUpdate 92 (.map (some B)) (.string s) (.pointer (some ⟨F,0,none⟩))).run Tryz.prog w=.ok () w'∧MapAt w' B (zbi s.data.toList F fs)∧w.grownBy w' (some B)∧w'.heap.size=w.heap.size:=by
 obtain⟨D,hD,hH,hA,hS⟩:=h.map;obtain⟨w',hrun,r1,r2⟩:=hD.store zi2 Tryz.underlying92 (show fs.length<maxLen by simp only[maxLen];omega) (zBd hs) (zr0 F);have hmap:=hD.isMap;have hkey:=zi2.key (zBd hs);have hsz:w'.heap.size=w.heap.size:=by
  obtain⟨_,_,_,_,_,rfl⟩:=r2;simp[ChangeMaps.setBlock]
 have hSZ:Maps.size (D.put (.string s.data.toList) (.lit (.int .i64 (F:Int))))=(zbi s.data.toList F fs).length:=by
  rw[size_put (hD.tidy zi2),zdb hr,hS];by_cases e:s.data.toList∈fs.map (·.1)
  ·rw[if_pos e,if_pos ((hH _).2 e)]
  ·rw[if_neg e,if_neg (fun e'=>e ((hH _).1 e'))]
 refine⟨w',hrun,⟨_,by rw[← hSZ];exact ziu r1,fun y=>?_,fun y hy zd=>?_,hSZ⟩,r2.grown,hsz⟩
 ·by_cases e:y=s.data.toList
  ·subst e;rw[has_put_same hmap hkey];simp only[true_iff];exact List.mem_map.2 ⟨_,(zb3 hr _).2 (.inl rfl),rfl⟩
  ·rw[has_put_other (fun e'=>e (by simpa using e')),hH y];constructor
   ·intro hm;obtain⟨z,hz,rfl⟩:=List.mem_map.1 hm;exact List.mem_map.2 ⟨z,(zb3 hr _).2 (.inr ⟨hz,e⟩),rfl⟩
   ·intro hm;obtain⟨z,hz,rfl⟩:=List.mem_map.1 hm;rcases(zb3 hr _).1 hz with rfl|⟨hz,_⟩
    ·exact absurd rfl e
    ·exact List.mem_map.2 ⟨z,hz,rfl⟩
 ·rcases(zb3 hr _).1 hy with rfl|⟨hy,e⟩
  ·exact atKey_put_same hmap hkey _ _
  ·rw[atKey_put_other (fun e'=>e (by simpa using e')),hA y hy]
theorem MapAt.drop (h:MapAt w B fs) (hr:zbf fs) (s:ByteArray) (hs:s.size≤maxLen) (ty:TypeId):∃ w',(Builtin.delete_ #[92,9] ty #[.map (some B),.string s]).run Tryz.prog w=.ok (.tuple #[]) w'∧MapAt w' B (zdm s.data.toList fs)∧w.grownBy w' (some B)∧w'.heap.size=w.heap.size:=by
 obtain⟨D,hD,hH,hA,hS⟩:=h.map;obtain⟨w',hrun,r1,r2⟩:=hD.drop zi2 Tryz.underlying92 (zBd hs) ty;have hsz:w'.heap.size=w.heap.size:=by
  obtain⟨_,_,_,_,_,rfl⟩:=r2;simp[ChangeMaps.setBlock]
 have hSZ:Maps.size (D.del (.string s.data.toList))=(zdm s.data.toList fs).length:=by
  have h1:=size_del (k:=.string s.data.toList) (hD.tidy zi2);have h2:=zgb (k:=s.data.toList) hr;by_cases e:s.data.toList∈fs.map (·.1)
  ·rw[if_pos e] at h2;rw[if_pos ((hH _).2 e)] at h1;omega
  ·rw[if_neg e] at h2;rw[if_neg (fun e'=>e ((hH _).1 e'))] at h1;omega
 refine⟨w',hrun,⟨_,by rw[← hSZ];exact ziu r1,fun y=>?_,fun y hy zd=>?_,hSZ⟩,r2.grown,hsz⟩
 ·by_cases e:y=s.data.toList
  ·subst e;rw[has_del_same];simp only[Bool.false_eq_true,false_iff];intro hm;obtain⟨z,hz,e⟩:=List.mem_map.1 hm;exact((zbq z).1 hz).2 e
  ·rw[has_del_other (fun e'=>e (by simpa using e')),hH y];constructor
   ·intro hm;obtain⟨z,hz,rfl⟩:=List.mem_map.1 hm;exact List.mem_map.2 ⟨z,(zbq z).2 ⟨hz,e⟩,rfl⟩
   ·intro hm;obtain⟨z,hz,rfl⟩:=List.mem_map.1 hm;exact List.mem_map.2 ⟨z,((zbq z).1 hz).1,rfl⟩
 ·obtain⟨hy,e⟩:=(zbq y).1 hy;rw[atKey_del_other (fun e'=>e (by simpa using e')),hA y hy]
theorem MapAt.keys (h:MapAt w B fs) (hr:zbf fs):∃ D:DataW Unit,w.ownsMap Tryz.prog 9 zek B fs.length D∧Maps.size D=fs.length∧∀ ss:List Nm,ss.Perm (strKeys D)→ss.mergeSort (fun x y=>decide (x≤y))=fs.map (·.1):=by
 obtain⟨D,hD,hH,hA,hS⟩:=h.map;refine⟨D,hD,hS,fun ss hp=>?_⟩;obtain⟨es,rfl,hke⟩:=hD.keysOf;obtain⟨es',e',ht⟩:=hD.tidy zi2;obtain rfl:es=es':=by simpa using e'
 have hq:(fs.map (·.1)).Perm (strKeys (.map es)):=by
  refine perm_strKeys ht (fun p hp=>?_) hr.nodup (fun x=>(hH x).symm);obtain⟨key,hk⟩:=hke p hp;obtain⟨x,_,hx,_⟩:=Maps.keyOf_str Tryz.underlying9 hk;exact⟨x,hx⟩
 have h1:=mergeSort_of_perm (hp.trans hq.symm);refine h1.trans (List.mergeSort_of_pairwise ?_);refine List.pairwise_map.2 (hr.imp fun {a b} hab=>?_);simp only[leB,decide_eq_true_eq];exact List.le_of_lt hab
end
end
end Go.Proofs.YtofllbpfajppeaaGreatDoor
