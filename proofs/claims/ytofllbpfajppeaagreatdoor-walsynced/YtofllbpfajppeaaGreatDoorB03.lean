/- Disk: what a crash leaves of a file. -/
import Derived.Test.YtofllbpfajppeaaGreatDoorB02
import Derived.Lib.ConvBytes
import Derived.Maps.OwnSet
import Derived.Maps.Views
import Derived.Sort.KeysCollected
import Derived.StringKeys
set_option linter.unusedVariables false
set_option maxRecDepth 20000
set_option maxHeartbeats 16000000
namespace Go.Proofs.YtofllbpfajppeaaGreatDoor
section
open Go.ChangeShapes Go.WideShapes Go.ChangeAt Go.RowKit
def za2:List Chg→List Nat→Nat→List Nat×Nat
 |[],y,n=>(y,n)
 |c::cs,y,n=>if n=0 then (y,0) else za2 cs (zc2 c y (min n (zao c))) (n - min n (zao c))
def fitsC:List Chg→List Nat→Prop
 |[],_=>True
 |c::cs,y=>c.2.1≤y.length∧y.length+c.2.2.length≤140737488355328∧fitsC cs (zc2 c y (zao c))
theorem zeq (cs:List Chg) (y:List Nat):za2 cs y 0=(y,0):=by cases cs <;> simp[za2]
theorem OwnC.cell {base:Nat} {w:World} {sp:Option Addr} {c:Nat} {xs:List ChH} (h:OwnC base w sp c xs) (i:Nat) (hi:i<xs.length):∃ g,sp=some ⟨g,0,none⟩∧w.cell? ⟨g,i*3,none⟩=some (.bool xs[i].1.1)∧w.cell? ⟨g,i*3+1,none⟩=some (.int .i64 (xs[i].1.2.1:Int))∧w.cell? ⟨g,i*3+2,none⟩=some (.slice xs[i].2.1 xs[i].1.2.2.length xs[i].2.2):=by
 rcases h.row.2 with⟨_,h0⟩|⟨g,cap,cur,hv,_,hg,_,_,_,ht⟩
 ·omega
 ·simp only[Value.slice.injEq] at hv;obtain⟨rfl,_,_⟩:=hv;have key:∀ f,f<3→w.cell? ⟨g,i*3+f,none⟩=(chRow xs[i])[f]?:=by
   intro f hf;rw[cell_of_row w g _ cur _ _ hg];have hlt:i*3+f<xs.length*3:=by omega
   have e:(cur.toList.take (xs.length*3))[i*3+f]? = cur.toList[i*3+f]?:=by rw[List.getElem?_take,if_pos hlt]
   rw[ht,rowsC_get xs i f hi hf] at e;rw[e];simp
  exact⟨g,rfl,by simpa [chRow] using key 0 (by omega),by simpa [chRow] using key 1 (by omega),by simpa [chRow] using key 2 (by omega)⟩
def Fil.overY (f:Fil) (yp:Option Addr) (yc:Nat) (y:List Nat):Fil:={ f with yp:=yp,yc:=yc,y:=y }
theorem FileAt.overY {base:Nat} {w V:World} {F:Nat} {f:Fil} (h:FileAt base w F f) (yp:Option Addr) (yc:Nat) (y:List Nat) (hX:Bx base V yp yc y) (hG:Grew w f.yp V yp) :
  V.cell? ⟨F,1,none⟩=some (.slice f.yp f.y.length f.yc)∧V.frozen? ⟨F,1,none⟩=false ∧
  FileAt base (V.setCell ⟨F,1,none⟩ (.slice yp y.length yc)) F (f.overY yp yc y)∧FGrew F w f (V.setCell ⟨F,1,none⟩ (.slice yp y.length yc)) (f.overY yp yc y):=by
 have hbox:V.heap[F]? = some (.cells f.row 122 (0,0)):=(hG.grown.block F h.ltF (fun e=>h.sure.ne_block h.box (by decide) e.symm)).trans h.box;have n1:∀ {b2:Nat} {sp:Option Addr} {c:Nat} {l:List Nat},Bx b2 w sp c l→(∀ g,blk sp=some g→blk f.yp≠some g)→∀ g,blk yp=some g→blk sp≠some g:=by
  intro b2 sp c l hB hne g hg hs;rcases hG.lies g hg with h1|h1
  ·exact hne g hs h1
  ·have:=(hB.isT g hs).2.1;omega
 refine⟨zam hbox 1 _ (by simp[Fil.row]),ffree hbox 1,?_,?_⟩
 ·refine FileAt.ofSet f hbox h.low 1 _ (f.overY yp yc y) (by simp[Fil.row,Fil.overY]) (h.bytes.grownNe hG.grown h.apart) hX (h.chs.grownNe hG.grown (fun g hg e=>h.sure.ne_row h.chs g e hg) (fun x hx g hg=>(h.far x hx g hg).2)) ?_ (fun x hx g hg=>⟨(h.far x hx g hg).1,fun e=>?_⟩)
  ·exact fun g hg e=>n1 h.bytes h.apart g e hg
  ·exact n1 (h.chs.dat x hx) (fun g hg=>(h.far x hx g hg).2) g e hg
 ·refine⟨hG.grown.os,hG.grown.tape,hG.grown.output,?_,fun i hi hn=>?_,fun g hg=>?_,fun g hg=>.inl hg⟩
  ·have:=hG.grown.size
   simpa [World.setCell] using this
  ·rw[heap_setCell_other _ ⟨F,1,none⟩ i _ (fun e=>hn (.inl e))];exact hG.grown.block i hi (fun e=>hn (.inr (.inr (.inl e.symm))))
  ·rcases hg with rfl|hg|hg|hg
   ·exact .inl (.inl rfl)
   ·exact .inl (.inr (.inl hg))
   ·rcases hG.lies g hg with h1|h1
    ·exact .inl (.inr (.inr (.inl h1)))
    ·exact .inr h1
   ·exact .inl (.inr (.inr (.inr hg)))
def Fil.crashed (f:Fil) (bp:Option Addr):Fil:={ f with bp:=bp,bc:=f.y.length,b:=f.y,la:=true,cp:=none,cc:=0,xs:=[] }
theorem FileAt.crash3 {base:Nat} {w V:World} {F:Nat} {f:Fil} (h:FileAt base w F f) (hbs:base≤w.heap.size) (hb:Below w.heap.size w V) (dp:Option Addr) (hd:Bx w.heap.size V dp f.y.length f.y) :
  FileAt base (V.setCell ⟨F,0,none⟩ (.slice dp f.y.length f.y.length)) F { f with bp:=dp,bc:=f.y.length,b:=f.y } ∧
  FileAt base ((V.setCell ⟨F,0,none⟩ (.slice dp f.y.length f.y.length)).setCell ⟨F,2,none⟩ (.bool true)) F { f with bp:=dp,bc:=f.y.length,b:=f.y,la:=true } ∧
  FileAt base (((V.setCell ⟨F,0,none⟩ (.slice dp f.y.length f.y.length)).setCell ⟨F,2,none⟩ (.bool true)).setCell ⟨F,3,none⟩ (.slice none 0 0)) F (f.crashed dp) ∧
  FGrew F w f (((V.setCell ⟨F,0,none⟩ (.slice dp f.y.length f.y.length)).setCell ⟨F,2,none⟩ (.bool true)).setCell ⟨F,3,none⟩ (.slice none 0 0)) (f.crashed dp):=by
 have hV:=h.later hb;have H1:FileAt base (V.setCell ⟨F,0,none⟩ (.slice dp f.y.length f.y.length)) F { f with bp:=dp,bc:=f.y.length,b:=f.y } :=
  hV.set 0 _ _ (by simp[Fil.row]) (hd.mono hbs) hV.sure hV.chs (fun g hg e=>h.sure.old_ne hd g e hg) (fun x hx g hg=>⟨(h.chs.dat x hx).old_ne hd g hg,(h.far x hx g hg).2⟩)
 have H2:=H1.set 2 (.bool true) { f with bp:=dp,bc:=f.y.length,b:=f.y,la:=true } (by simp[Fil.row]) H1.bytes H1.sure H1.chs H1.apart H1.far;have H3:=H2.set 3 (.slice none 0 0) (f.crashed dp) (by simp[Fil.row,Fil.crashed]) H2.bytes H2.sure (OwnC.ofNil _ _) H2.apart (by simp[Fil.crashed]);refine⟨H1,H2,H3,⟨hb.os,hb.tape,hb.output,?_,fun i hi hn=>?_,fun g hg=>?_,fun g hg=>?_⟩⟩
 ·simpa [World.setCell] using hb.size
 ·have hne:i≠F:=fun e=>hn (.inl e);rw[heap_setCell_other _ ⟨F,3,none⟩ i _ hne,heap_setCell_other _ ⟨F,2,none⟩ i _ hne,heap_setCell_other _ ⟨F,0,none⟩ i _ hne];exact hb.block i hi
 ·rcases hg with rfl|hg|hg|hg
  ·exact .inl (.inl rfl)
  ·exact .inr (hd.isT g hg).1
  ·exact .inl (.inr (.inr (.inl hg)))
  ·cases hg
 ·obtain⟨x,hx,_⟩:=hg;simp[Fil.crashed] at hx
def CrashEnd (base:Nat) (w:World) (F:Nat) (f:Fil) (U:Nat) (e:Ending) (w':World):Prop :=
 (f.la=false∧(za2 (f.xs.map (·.1)) f.y U).2=U∧e=.returned (.bool false)∧∃ g,FGrew F w f w' g) ∨
 (¬ (f.la=false∧(za2 (f.xs.map (·.1)) f.y U).2=U)∧e=.returned (.bool true)∧∃ g,FileAt base w' F g∧FGrew F w f w' g∧g.b=(za2 (f.xs.map (·.1)) f.y U).1∧g.y=(za2 (f.xs.map (·.1)) f.y U).1∧g.la=true∧g.xs=[])
theorem ontoC_le (c:Chg) (y:List Nat) (u:Nat) (hk:c.2.1≤y.length):(zc2 c y u).length≤y.length+c.2.2.length:=by
 unfold zc2;split
 ·rw[List.length_take];omega
 ·rw[zee _ _ _ hk,List.length_take];omega
theorem crash_calls (base:Nat) (w:World) (F:Nat) (f:Fil) (h:FileAt base w F f) (U:Nat) (hU:U≤9223372036854775807) (hx:f.xs.length≤1000000000) (hfit:fitsC (f.xs.map (·.1)) f.y) (hy:f.y.length≤140737488355328) (hbs:base≤w.heap.size) :
  Calls Tryz.prog 56 #[.pointer (some ⟨F,0,none⟩),.int .i64 (U:Int)] w (CrashEnd base w F f U):=by
 have c3:=h.c3;have H:=zaa h;have HF:=zaa hfit;have HY:=zaa hy;have HB:=zaa hbs;clear h hfit hy hbs;go_enter Tryz.func56,Tryz.ntmps56
 go_wp2_with fail
 go_loopw [5,15] (fun v i wr=>∃ (j L:Nat) (g:Fil),j≤f.xs.length∧L≤U∧v=.int .i64 (L:Int)∧i=.int .i64 (j:Int)∧Hid (FileAt base wr F g)∧Hid (FGrew F w f wr g)∧Hid (g.xs=f.xs∧g.cp=f.cp∧g.cc=f.cc∧g.la=f.la)∧Hid (za2 ((f.xs.drop j).map (·.1)) g.y L=za2 (f.xs.map (·.1)) f.y U)∧Hid (0<L→fitsC ((f.xs.drop j).map (·.1)) g.y)∧Hid (g.y.length≤140737488355328)) (fun _ i _=>f.xs.length - (intOf i).toNat)
 case atStart=>exact⟨0,U,f,by omega,Nat.le_refl _,rfl,rfl,za H,FGrew.refl _ _ _,⟨rfl,rfl,rfl,rfl⟩,rfl,fun _=>za HF,za HY⟩
 case round =>
  obtain⟨j,L,g,hj,hL,rfl,rfl,HG,GG,HS,HC,HT,HYG⟩:=hrel;by_cases hjn:j<f.xs.length
  ·have hj0:(0:Int)≤(j:Int):=by omega
   have hj1:(j:Int)<(f.xs.length:Int):=by omega
   have OC:=zaa (show OwnC base wr f.cp f.cc f.xs by
    have h1:=(za HG).chs;rw[(za HS).1,(za HS).2.1,(za HS).2.2.1] at h1
    exact h1)
   obtain⟨gb,hgb,p0,p1,p2⟩:=(za OC).cell j hjn;have HX:=zaa (show f.xs[j]∈g.xs by rw[(za HS).1];exact List.getElem_mem hjn);have HDR:=zaa (List.drop_eq_getElem_cons hjn);generalize f.xs[j]=x at *;have DX:=zaa ((za HG).chs.dat x (za HX));have NX:=zaa (fun g0 hg0=>((za HG).far x (za HX) g0 hg0).2);have bA:=zaa (show Below wr.heap.size wr (wr.alloc (.cells #[.bool x.1.1,.int .i64 (x.1.2.1:Int),.slice x.2.1 x.1.2.2.length x.2.2] 131)) from(Below.refl _ _).alloc (Nat.le_refl _) _);by_cases hL0:L=0
   ·subst hL0;have HE:=zaa (show za2 (f.xs.map (·.1)) f.y U=(g.y,0) by rw[← za HC,zeq]);rw[hgb];have FAh:=zaa ((za HG).later (za bA));have FGh:=zaa ((za GG).trans (FGrew.ofBelow (za bA)));have t1:=(za FAh).c1;have t2:=(za FAh).c2;have TB:=zaa (za FAh).sure.bytes;have TZ:=zaa (za FAh).sure.nil0;have TC:=zaa (fun (V:World) hb=>(za FAh).crash3 (V:=V) (Nat.le_trans (za HB) (za FGh).size) hb);rw[(za HS).2.2.2] at t2;by_cases hq:f.la=false∧0=U
    ·have hLU:((0:Nat):Int)=(U:Int):=by rw[hq.2]
     have HQ:=zaa hq;rw[hq.1] at t2;clear hq
     go_wp2
     go_ret
     exact Or.inl ⟨(za HQ).1,by rw[za HE];exact(za HQ).2,rfl,g,za FGh⟩
    ·have HQ:=zaa hq;have HQ2:=zaa (show ¬ (f.la=false∧(za2 (f.xs.map (·.1)) f.y U).2=U) by rw[za HE];exact hq);cases hla:f.la with
     |true =>
      rw[hla] at t2;clear hq
      go_wp2_with (go_at_call 82;refine(zdr g.yp g.y.length g.yc g.y _ rfl (za HYG) (za TB) (za TZ)).mono ?_;rintro e1 V ⟨dp,rfl,hdo,hbV⟩;obtain⟨k1,k2,k3,k4⟩:=za TC V hbV dp hdo;have v0:=((za FAh).later hbV).c0;have x0:=((za FAh).later hbV).fz 0;have v2:=k1.c2;have x2:=k1.fz 2;have v3:=k2.c3;have x3:=k2.fz 3;have K3:=zaa k3;have K4:=zaa k4;clear k1 k2 k3 k4 hdo hbV)
      go_ret
      exact Or.inr ⟨za HQ2,rfl,g.crashed dp,za K3,(za FGh).trans (za K4),by rw[za HE];rfl,by rw[za HE];rfl,rfl,rfl⟩
     |false =>
      rw[hla] at t2;have hLU:¬ ((0:Nat):Int)=(U:Int):=fun e=>hq ⟨hla,by omega⟩;clear hq
      go_wp2_with (go_at_call 82;refine(zdr g.yp g.y.length g.yc g.y _ rfl (za HYG) (za TB) (za TZ)).mono ?_;rintro e1 V ⟨dp,rfl,hdo,hbV⟩;obtain⟨k1,k2,k3,k4⟩:=za TC V hbV dp hdo;have v0:=((za FAh).later hbV).c0;have x0:=((za FAh).later hbV).fz 0;have v2:=k1.c2;have x2:=k1.fz 2;have v3:=k2.c3;have x3:=k2.fz 3;have K3:=zaa k3;have K4:=zaa k4;clear k1 k2 k3 k4 hdo hbV)
      go_ret
      exact Or.inr ⟨za HQ2,rfl,g.crashed dp,za K3,(za FGh).trans (za K4),by rw[za HE];rfl,by rw[za HE];rfl,rfl,rfl⟩
   ·have hLp:¬ ((L:Int)=0):=by omega
    have XA:=zaa (zad wr (.cells #[.bool x.1.1,.int .i64 (x.1.2.1:Int),.slice x.2.1 x.1.2.2.length x.2.2] 131));have q0:=zam (za XA) 0 (.bool x.1.1) rfl;have q1:=zam (za XA) 1 (.int .i64 (x.1.2.1:Int)) rfl;have q2:=zam (za XA) 2 (.slice x.2.1 x.1.2.2.length x.2.2) rfl;rw[hgb]
    go_wp2_with fail
    refine(units_calls x _).mono ?_;rintro e W2 ⟨rfl,b2⟩;have B2:=zaa (show Below wr.heap.size wr W2 from(za bA).trans (b2.mono (za bA).size));have X2:=zaa ((b2.block wr.heap.size (Array.getElem?_eq_some_iff.1 (za XA)).1).trans (za XA));have r0:=zam (za X2) 0 (.bool x.1.1) rfl;have r1:=zam (za X2) 1 (.int .i64 (x.1.2.1:Int)) rfl;have r2:=zam (za X2) 2 (.slice x.2.1 x.1.2.2.length x.2.2) rfl;have H2:=zaa ((za HG).later (za B2));have r3:=(za H2).c1;clear b2 p0 p1 p2 q0 q1 q2
    have FT:=zaa (show x.1.2.1≤g.y.length∧g.y.length+x.1.2.2.length≤140737488355328∧fitsC ((f.xs.drop (j+1)).map (·.1)) (zc2 x.1 g.y (zao x.1)) by
     have h1:=za HT (by omega);rw[za HDR] at h1
     exact h1)
    have DX2:=zaa ((za DX).later (za B2));have SB:=zaa (show base≤W2.heap.size from Nat.le_trans (Nat.le_trans (za HB) (za GG).size) (za B2).size);have G2:=zaa ((za GG).trans (FGrew.ofBelow (za B2)))
    have HN0:=zaa (show za2 ((f.xs.drop (j+1)).map (·.1)) (zc2 x.1 g.y (min L (zao x.1))) (L - min L (zao x.1))=za2 ((f.xs.drop j).map (·.1)) g.y L by
     rw[za HDR,List.map_cons,za2,if_neg hL0])
    go_wp2
    all_goals first
     |(have hcase:L≤zao x.1:=by omega
       have HN:=zaa (show za2 ((f.xs.drop (j+1)).map (·.1)) (zc2 x.1 g.y L) (L - L)=za2 ((f.xs.drop j).map (·.1)) g.y L by
        have h1:=za HN0;rw[show min L (zao x.1)=L by omega] at h1
        exact h1)
       have HM:=zaa (show min L (zao x.1)=L by omega);have hsub:IntKind.i64.wrap ((L:Int) - ((L:Nat):Int))=((L - L:Nat):Int):=by rw[IntKind.wrap_i64];omega
       have hU1:=zaa (show x.1.1=false→L≤x.1.2.2.length from fun e=>by
        have h1:zao x.1=x.1.2.2.length:=by simp[zao,e]
        omega)
       have hFT:=zaa (show 0<L - L→L=zao x.1 from fun h=>by omega);have hLm:=zaa (show L - L≤U by omega)
       go_region_law (go_simp;go_at_call 89;refine(onto_calls base _ x g.yp g.yc g.y L (by first|exact(za H2).sure|exact⟨(za H2).sure.lt,(za H2).sure.row⟩) (by first|exact za DX2|exact⟨(za DX2).lt,(za DX2).row⟩) (za FT).1 (za hU1) (za NX) (za FT).2.1 (by exact za SB)).mono ?_;rintro e3 W3 ⟨yp,yc,rfl,hX,hG⟩;obtain⟨v1,x1,k3,k4⟩:=(za H2).overY yp yc (zc2 x.1 g.y L) hX ⟨⟨hG.grown.os,hG.grown.tape,hG.grown.output,hG.grown.size,hG.grown.block⟩,hG.lies⟩;have K3:=zaa k3;have K4:=zaa k4;clear hX hG k3 k4)
       all_goals
        go_wp2
        refine⟨⟨j+1,L - L,g.overY yp yc (zc2 x.1 g.y L),by omega,za hLm,by rw[Value.int.injEq];exact⟨rfl,by omega⟩,by rw[Value.int.injEq];exact⟨rfl,by omega⟩,za K3,(za G2).trans (za K4),?_,?_,?_,?_⟩,by simp[intOf];omega⟩
        ·exact zaa ⟨(za HS).1,by rw[← hgb];exact(za HS).2.1,(za HS).2.2.1,(za HS).2.2.2⟩
        ·exact zaa ((za HN).trans (za HC))
        ·exact zaa (fun h=>by rw[show(g.overY yp yc (zc2 x.1 g.y L)).y=zc2 x.1 g.y (zao x.1) by rw[← za hFT h];rfl];exact(za FT).2.2)
        ·exact zaa (Nat.le_trans (ontoC_le x.1 g.y L (za FT).1) (za FT).2.1))
     |(have hcase:zao x.1≤L:=by omega
       have HN:=zaa (show za2 ((f.xs.drop (j+1)).map (·.1)) (zc2 x.1 g.y (zao x.1)) (L - zao x.1)=za2 ((f.xs.drop j).map (·.1)) g.y L by
        have h1:=za HN0;rw[show min L (zao x.1)=zao x.1 by omega] at h1
        exact h1)
       have HM:=zaa (show min L (zao x.1)=(zao x.1) by omega);have hsub:IntKind.i64.wrap ((L:Int) - (((zao x.1):Nat):Int))=((L - (zao x.1):Nat):Int):=by rw[IntKind.wrap_i64];omega
       have hU1:=zaa (show x.1.1=false→(zao x.1)≤x.1.2.2.length from fun e=>by
        have h1:zao x.1=x.1.2.2.length:=by simp[zao,e]
        omega)
       have hFT:=zaa (show 0<L - (zao x.1)→(zao x.1)=zao x.1 from fun h=>by omega);have hLm:=zaa (show L - (zao x.1)≤U by omega)
       go_region_law (go_simp;go_at_call 89;refine(onto_calls base _ x g.yp g.yc g.y (zao x.1) (by first|exact(za H2).sure|exact⟨(za H2).sure.lt,(za H2).sure.row⟩) (by first|exact za DX2|exact⟨(za DX2).lt,(za DX2).row⟩) (za FT).1 (za hU1) (za NX) (za FT).2.1 (by exact za SB)).mono ?_;rintro e3 W3 ⟨yp,yc,rfl,hX,hG⟩;obtain⟨v1,x1,k3,k4⟩:=(za H2).overY yp yc (zc2 x.1 g.y (zao x.1)) hX ⟨⟨hG.grown.os,hG.grown.tape,hG.grown.output,hG.grown.size,hG.grown.block⟩,hG.lies⟩;have K3:=zaa k3;have K4:=zaa k4;clear hX hG k3 k4)
       all_goals
        go_wp2
        refine⟨⟨j+1,L - (zao x.1),g.overY yp yc (zc2 x.1 g.y (zao x.1)),by omega,za hLm,by rw[Value.int.injEq];exact⟨rfl,by omega⟩,by rw[Value.int.injEq];exact⟨rfl,by omega⟩,za K3,(za G2).trans (za K4),?_,?_,?_,?_⟩,by simp[intOf];omega⟩
        ·exact zaa ⟨(za HS).1,by rw[← hgb];exact(za HS).2.1,(za HS).2.2.1,(za HS).2.2.2⟩
        ·exact zaa ((za HN).trans (za HC))
        ·exact zaa (fun h=>by rw[show(g.overY yp yc (zc2 x.1 g.y (zao x.1))).y=zc2 x.1 g.y (zao x.1) by rw[← za hFT h];rfl];exact(za FT).2.2)
        ·exact zaa (Nat.le_trans (ontoC_le x.1 g.y (zao x.1) (za FT).1) (za FT).2.1))
  ·have HE:=zaa (show za2 (f.xs.map (·.1)) f.y U=(g.y,L) by rw[← za HC,List.drop_of_length_le (by omega)];rfl);have hj2:¬ ((j:Int)<(f.xs.length:Int)):=by omega
   have FAh:=zaa (za HG);have FGh:=zaa (za GG);have t1:=(za FAh).c1;have t2:=(za FAh).c2;have TB:=zaa (za FAh).sure.bytes;have TZ:=zaa (za FAh).sure.nil0;have TC:=zaa (fun (V:World) hb=>(za FAh).crash3 (V:=V) (Nat.le_trans (za HB) (za FGh).size) hb);rw[(za HS).2.2.2] at t2;by_cases hq:f.la=false∧L=U
   ·have hLU:((L:Nat):Int)=(U:Int):=by rw[hq.2]
    have HQ:=zaa hq;rw[hq.1] at t2;clear hq
    go_wp2
    go_ret
    exact Or.inl ⟨(za HQ).1,by rw[za HE];exact(za HQ).2,rfl,g,za FGh⟩
   ·have HQ:=zaa hq;have HQ2:=zaa (show ¬ (f.la=false∧(za2 (f.xs.map (·.1)) f.y U).2=U) by rw[za HE];exact hq);cases hla:f.la with
    |true =>
     rw[hla] at t2;clear hq
     go_wp2_with (go_at_call 82;refine(zdr g.yp g.y.length g.yc g.y _ rfl (za HYG) (za TB) (za TZ)).mono ?_;rintro e1 V ⟨dp,rfl,hdo,hbV⟩;obtain⟨k1,k2,k3,k4⟩:=za TC V hbV dp hdo;have v0:=((za FAh).later hbV).c0;have x0:=((za FAh).later hbV).fz 0;have v2:=k1.c2;have x2:=k1.fz 2;have v3:=k2.c3;have x3:=k2.fz 3;have K3:=zaa k3;have K4:=zaa k4;clear k1 k2 k3 k4 hdo hbV)
     go_ret
     exact Or.inr ⟨za HQ2,rfl,g.crashed dp,za K3,(za FGh).trans (za K4),by rw[za HE];rfl,by rw[za HE];rfl,rfl,rfl⟩
    |false =>
     rw[hla] at t2;have hLU:¬ ((L:Nat):Int)=(U:Int):=fun e=>hq ⟨hla,by omega⟩;clear hq
     go_wp2_with (go_at_call 82;refine(zdr g.yp g.y.length g.yc g.y _ rfl (za HYG) (za TB) (za TZ)).mono ?_;rintro e1 V ⟨dp,rfl,hdo,hbV⟩;obtain⟨k1,k2,k3,k4⟩:=za TC V hbV dp hdo;have v0:=((za FAh).later hbV).c0;have x0:=((za FAh).later hbV).fz 0;have v2:=k1.c2;have x2:=k1.fz 2;have v3:=k2.c3;have x3:=k2.fz 3;have K3:=zaa k3;have K4:=zaa k4;clear k1 k2 k3 k4 hdo hbV)
     go_ret
     exact Or.inr ⟨za HQ2,rfl,g.crashed dp,za K3,(za FGh).trans (za K4),by rw[za HE];rfl,by rw[za HE];rfl,rfl,rfl⟩
def stands (c:Nat):Bool:=(decide (97≤c)&&decide (c≤122))||((decide (48≤c)&&decide (c≤57))||(decide (c=45)||decide (c=46)))
theorem mayStand_calls (c:Nat) (w:World):Calls Tryz.prog 169 #[.int .u8 (c:Int)] w fun e w'=>e=.returned (.bool (stands c))∧w'=w:=by
 go_enter Tryz.func169,Tryz.ntmps169
 go_wp2
 all_goals
  go_ret
  refine⟨congrArg (fun b=>Ending.returned (Value.bool b)) (?_:_=stands c),rfl⟩;rw[Bool.eq_iff_iff];simp[stands];try omega
def zd2 (s:ByteArray):Bool:=decide (1≤s.size)&&(decide (s.size≤64)&&s.data.toList.all (fun b=>stands b.toNat))
theorem bytesWorld_below (w:World) (s:ByteArray):Below w.heap.size w (Lib.bytesWorld w 5 s) :=
 ⟨rfl,rfl,rfl,by rw[Lib.bytesWorld_size];omega,fun j hj=>Lib.bytesWorld_at_old w _ s j hj⟩
theorem zbc (s:ByteArray) (w:World):Calls Tryz.prog 137 #[.string s] w fun e w'=>e=.returned (.bool (zd2 s))∧Below w.heap.size w w':=by
 have hcv:=fun (u:World)=>Lib.run_convert_string_bytes (P:=Tryz.prog) u 9 62 5 s Tryz.underlying9 Tryz.underlying62 under5;by_cases h1:s.size<1
 ·have hi:(s.size:Int)<1:=by omega
  have HN:=zaa (show zd2 s=false by simp[zd2];omega);go_enter Tryz.func137,Tryz.ntmps137
  go_wp2
  go_ret
  exact⟨by rw[za HN];rfl,Below.refl _ _⟩
 ·by_cases h2:64<s.size
  ·have hi:¬ (s.size:Int)<1:=by omega
   have hi2:(64:Int)<(s.size:Int):=by omega
   have HN:=zaa (show zd2 s=false by simp[zd2];omega);go_enter Tryz.func137,Tryz.ntmps137
   go_wp2
   go_ret
   exact⟨by rw[za HN];rfl,Below.refl _ _⟩
  ·have hi:¬ (s.size:Int)<1:=by omega
   have hi2:¬ (64:Int)<(s.size:Int):=by omega
   have hlen:s.data.toList.length=s.size:=by simp
   have HC:=zaa (fun j hj=>Lib.bytesWorld_cell w 5 s j hj);have HB:=zaa (bytesWorld_below w s);go_enter Tryz.func137,Tryz.ntmps137
   go_wp2_with fail
   generalize Lib.bytesWorld w 5 s=W at *;go_loopw [16] (fun i wr=>∃ j:Nat,j≤s.size∧i=.int .i64 (j:Int)∧Hid ((s.data.toList.take j).all (fun b=>stands b.toNat)=true)∧Hid (wr=W)) (fun i _=>s.size - (intOf i).toNat)
   case atStart=>exact⟨0,by omega,rfl,by exact zaa (by simp),zaa rfl⟩
   case round =>
    obtain⟨j,hj,rfl,HA,HW⟩:=hrel;have hW:=za HW;subst hW;by_cases hjn:j<s.size
    ·have hj0:(0:Int)≤(j:Int):=by omega
     have hj1:(j:Int)<(s.size:Int):=by omega
     have p0:=za HC j hjn
     have HT:=zaa (show s.data.toList.take (j+1)=s.data.toList.take j++[s.data.toList.getD j 0] by
      rw[List.take_succ_eq_append_getElem (by omega),List.getD_eq_getElem?_getD,List.getElem?_eq_getElem (by omega)];rfl)
     have HM:=zaa (show s.data.toList.getD j 0∈s.data.toList by
      rw[List.getD_eq_getElem?_getD,List.getElem?_eq_getElem (by omega)];exact List.getElem_mem (by omega))
     generalize s.data.toList.getD j 0=b at *
     go_wp2_with fail
     refine(mayStand_calls b.toNat _).mono ?_;rintro e w1 ⟨rfl,rfl⟩;cases hp:stands b.toNat
     ·have HN:=zaa (show zd2 s=false by
       have:s.data.toList.all (fun b=>stands b.toNat)=false:=by
        rw[List.all_eq_false];exact⟨b,za HM,by simp[hp]⟩
       simp[zd2,this])
      go_wp2
      go_ret
      exact⟨by rw[za HN];rfl,za HB⟩
     ·have HA2:=zaa (show(s.data.toList.take (j+1)).all (fun b=>stands b.toNat)=true by
       rw[za HT,List.all_append,za HA];simp[hp])
      go_wp2
      exact⟨⟨j+1,by omega,by go_num,za HA2,by first|exact zaa trivial|exact zaa rfl⟩,by simp[intOf];omega⟩
    ·have HN:=zaa (show zd2 s=true by
      have h3:=za HA;rw[List.take_of_length_le (by omega)] at h3;simp only[zd2,h3,Bool.and_true,Bool.and_eq_true,decide_eq_true_eq]
      omega)
     go_wp2
     go_ret
     exact⟨by rw[za HN];rfl,za HB⟩
end
section
open Go.ChangeShapes Go.WideShapes Go.ChangeAt Go.RowKit Go.Maps
abbrev Nm:=List UInt8
theorem zbb (a:Nm):¬ a<a:=List.lt_irrefl a
theorem nm_trans {a b c:Nm} (h:a<b) (k:b<c):a<c:=List.lt_trans h k
theorem nm_tri (a b:Nm):a<b∨a=b∨b<a:=by
 by_cases h:a<b
 ·exact .inl h
 ·by_cases k:b<a
  ·exact .inr (.inr k)
  ·exact .inr (.inl (List.le_antisymm (List.not_lt.1 k) (List.not_lt.1 h)))
section
variable {α β:Type}
def zbd (fs:List (Nm×α)):Prop:=fs.Pairwise (fun x y=>x.1<y.1)
def zbg (k:Nm) (v:α):List (Nm×α)→List (Nm×α)
 |[]=>[(k,v)]
 |x::r=>if x.1<k then x::zbg k v r else if x.1=k then (k,v)::r else (k,v)::x::r
def zdi (k:Nm) (fs:List (Nm×α)):List (Nm×α):=fs.filter (fun x=>decide (x.1≠k))
theorem zbd.nodup {fs:List (Nm×α)} (h:zbd fs):(fs.map (·.1)).Nodup:=by
 rw[List.Nodup,List.pairwise_map];refine List.Pairwise.imp ?_ (show fs.Pairwise (fun x y=>x.1<y.1) from h);intro a b hab e;rw[e] at hab;exact zbb _ hab
theorem zbd.one {fs:List (Nm×α)} (h:zbd fs) {x y:Nm×α} (hx:x∈fs) (hy:y∈fs) (e:x.1=y.1):x=y:=by
 induction fs with
 |nil=>simp at hx
 |cons z r ih =>
  have h1:=List.pairwise_cons.1 h;rcases List.mem_cons.1 hx with hx|hx <;> rcases List.mem_cons.1 hy with hy|hy
  ·rw[hx,hy]
  ·exact absurd (show y.1<y.1 by have:=h1.1 y hy;rw[← hx,e] at this;exact this) (zbb _)
  ·exact absurd (show y.1<y.1 by have:=h1.1 x hx;rw[← hy,e] at this;exact this) (zbb _)
  ·exact ih h1.2 hx hy
theorem zb1 {k:Nm} {v:α} : ∀ {fs:List (Nm×α)},zbd fs→∀ y,y∈zbg k v fs↔(y=(k,v)∨(y∈fs∧y.1≠k))
 |[],_,y=>by simp[zbg]
 |x::r,h,y=>by
  have h1:=List.pairwise_cons.1 h;have hr:∀ {z},z∈r→¬ x.1<k→z.1≠k:=fun {z} hz hn e=>hn (e ▸ h1.1 z hz);unfold zbg;by_cases h2:x.1<k
  ·rw[if_pos h2,List.mem_cons,zb1 h1.2 y,List.mem_cons];have:x.1≠k:=fun e=>zbb _ (e ▸ h2);constructor
   ·rintro(rfl|h|h)
    ·exact .inr ⟨.inl rfl,this⟩
    ·exact .inl h
    ·exact .inr ⟨.inr h.1,h.2⟩
   ·rintro(h|⟨rfl|h,hk⟩)
    ·exact .inr (.inl h)
    ·exact .inl rfl
    ·exact .inr (.inr ⟨h,hk⟩)
  ·rw[if_neg h2];by_cases h3:x.1=k
   ·rw[if_pos h3,List.mem_cons,List.mem_cons];constructor
    ·rintro(h|h)
     ·exact .inl h
     ·exact .inr ⟨.inr h,hr h h2⟩
    ·rintro(h|⟨rfl|h,hk⟩)
     ·exact .inl h
     ·exact absurd h3 hk
     ·exact .inr h
   ·rw[if_neg h3,List.mem_cons,List.mem_cons];constructor
    ·rintro(h|rfl|h)
     ·exact .inl h
     ·exact .inr ⟨.inl rfl,h3⟩
     ·exact .inr ⟨.inr h,hr h h2⟩
    ·rintro(h|⟨h,hk⟩)
     ·exact .inl h
     ·exact .inr h
theorem zbd.put {fs:List (Nm×α)} (h:zbd fs) (k:Nm) (v:α):zbd (zbg k v fs):=by
 induction fs with
 |nil=>exact List.pairwise_singleton _ _
 |cons x r ih =>
  have h1:=List.pairwise_cons.1 h;unfold zbg;by_cases h2:x.1<k
  ·rw[if_pos h2];refine List.pairwise_cons.2 ⟨fun y hy=>?_,ih h1.2⟩;rcases(zb1 h1.2 y).1 hy with rfl|⟨hy,_⟩
   ·exact h2
   ·exact h1.1 y hy
  ·rw[if_neg h2];by_cases h3:x.1=k
   ·rw[if_pos h3];exact List.pairwise_cons.2 ⟨fun y hy=>by have:=h1.1 y hy;rw[h3] at this;exact this,h1.2⟩
   ·rw[if_neg h3];have h4:k<x.1:=((nm_tri x.1 k).resolve_left h2).resolve_left h3;refine List.pairwise_cons.2 ⟨fun y hy=>?_,h⟩;rcases List.mem_cons.1 hy with rfl|hy
    ·exact h4
    ·exact nm_trans h4 (h1.1 y hy)
theorem zbd.del {fs:List (Nm×α)} (h:zbd fs) (k:Nm):zbd (zdi k fs):=h.sublist List.filter_sublist
theorem zbp {fs:List (Nm×α)} {k:Nm} (y:Nm×α):y∈zdi k fs↔(y∈fs∧y.1≠k):=by simp[zdi]
theorem putF_map (g:α→β) (k:Nm) (v:α):∀ fs:List (Nm×α),(zbg k v fs).map (fun x=>(x.1,g x.2))=zbg k (g v) (fs.map (fun x=>(x.1,g x.2)))
 |[]=>rfl
 |x::r=>by
  simp only[zbg,List.map_cons];split
  ·rw[List.map_cons,putF_map g k v r]
  ·split <;> rfl
theorem delF_map (g:α→β) (k:Nm) (fs:List (Nm×α)):(zdi k fs).map (fun x=>(x.1,g x.2))=zdi k (fs.map (fun x=>(x.1,g x.2))):=by
 simp only[zdi,List.filter_map];rfl
theorem zbd.map (g:α→β) {fs:List (Nm×α)} (h:zbd fs):zbd (fs.map (fun x=>(x.1,g x.2))):=List.pairwise_map.2 h
theorem zc7 {k:Nm} {v:α} : ∀ {fs:List (Nm×α)},zbd fs→(zbg k v fs).length=if k∈fs.map (·.1) then fs.length else fs.length+1
 |[],_=>by simp[zbg]
 |x::r,h=>by
  have h1:=List.pairwise_cons.1 h;have ih:=zc7 (k:=k) (v:=v) h1.2;unfold zbg;by_cases h2:x.1<k
  ·have h3:k≠x.1:=fun e=>zbb _ (e ▸ h2);rw[if_pos h2,List.length_cons,ih];simp only[List.map_cons,List.mem_cons,h3,false_or,List.length_cons];split <;> rfl
  ·rw[if_neg h2];by_cases h3:x.1=k
   ·rw[if_pos h3];simp[h3]
   ·rw[if_neg h3];have h4:k ∉ (x::r).map (·.1):=by
     intro hm;simp only[List.map_cons,List.mem_cons] at hm;rcases hm with e|hm
     ·exact h3 e.symm
     ·obtain⟨z,hz,e⟩:=List.mem_map.1 hm;exact h2 (e ▸ h1.1 z hz)
    rw[if_neg h4];rfl
theorem zfw {k:Nm} : ∀ {fs:List (Nm×α)},zbd fs→(zdi k fs).length+(if k∈fs.map (·.1) then 1 else 0)=fs.length
 |[],_=>by simp[zdi]
 |x::r,h=>by
  have h1:=List.pairwise_cons.1 h;have ih:=zfw (k:=k) h1.2;unfold zdi at ih ⊢;rw[List.filter_cons];by_cases h3:x.1=k
  ·have h4:k ∉ r.map (·.1):=fun hm=>by
    obtain⟨z,hz,e⟩:=List.mem_map.1 hm;have:=h1.1 z hz;rw[e,h3] at this;exact zbb _ this
   rw[if_neg h4] at ih;simp[h3] at ih ⊢;exact ih
  ·have h5:(k=x.1)=False:=by simp;exact fun e=>h3 e.symm
   rw[if_pos (by simpa using h3)];simp only[List.length_cons,List.map_cons,List.mem_cons,h5,false_or];omega
end
def zd9:Value→Option (DataW Unit×List MemPlace)
 |.pointer none=>some (.nil,[])
 |.pointer (some a)=>if a=⟨a.block,0,none⟩ then some (.lit (.int .i64 (a.block:Int)),[]) else none
 |_=>none
theorem fileElem_mk (F:Nat):zd9 (.pointer (some ⟨F,0,none⟩))=some (.lit (.int .i64 (F:Int)),[]):=by simp[zd9]
theorem fileElem_inv {v:Value} {F:Nat} {ps:List MemPlace} (h:zd9 v=some (.lit (.int .i64 (F:Int)),ps)):v=.pointer (some ⟨F,0,none⟩):=by
 unfold zd9 at h;split at h
 ·simp at h
 ·rename_i a
  split at h
  ·rename_i ha
   simp only[Option.some.injEq,Prod.mk.injEq,DataW.lit.injEq,Lit.int.injEq,true_and] at h;have:a.block=F:=by omega
   rw[ha,this]
  ·cases h
 ·cases h
theorem fileElem_nil {v:Value} {ps:List MemPlace} (h:zd9 v=some (.nil,ps)):v=.pointer none:=by
 unfold zd9 at h;split at h
 ·rfl
 ·split at h
  ·simp at h
  ·cases h
 ·cases h
theorem strLaw:Keyed Tryz.prog 9:=string_keyed Tryz.underlying9
theorem keyS {s:ByteArray} (h:s.size≤maxLen):keyOf Tryz.prog 9 (.string s)=some (.string s.data.toList):=WideMaps.keyOf_string_mk Tryz.underlying9 h
theorem zeroFile (w:World):(zeroValue 90).run Tryz.prog w=.ok (.pointer none) w:=by kernel_rfl
structure MapAt (w:World) (B:Nat) (fs:List (Nm×Nat)):Prop where
 map:∃ D:DataW Unit,w.ownsMap Tryz.prog 9 zd9 B fs.length D∧(∀ k:Nm,Maps.has D (.string k)=true↔k∈fs.map (·.1))∧(∀ x∈fs,∀ zd,D.atKey (.string x.1) zd=.lit (.int .i64 (x.2:Int)))∧Maps.size D=fs.length
theorem ownsMap_tight {H:Type} {P:Program} {k:TypeId} {R:Value→Option (DataW H×List MemPlace)} {w:World} {b n:Nat} {D:DataW H} (h:w.ownsMap P k R b n D):w.ownsMap P k R b (Maps.size D) D:=by
 obtain⟨es,clock,hb,F,hs,rfl⟩:=h;refine⟨es,clock,hb,F,?_,rfl⟩;simp[Maps.size,length_sorted]
section
variable {w w':World} {B:Nat} {fs:List (Nm×Nat)}
theorem MapAt.same (h:MapAt w B fs) (hb:w'.heap[B]? = w.heap[B]?):MapAt w' B fs:=by
 obtain⟨D,⟨es,k,h1,r⟩,r2⟩:=h.map;exact⟨D,⟨es,k,hb.trans h1,r⟩,r2⟩
theorem MapAt.isMap (h:MapAt w B fs):∃ es k,w.heap[B]? = some (.map es k):=by
 obtain⟨D,⟨es,k,hb,_⟩,_⟩:=h.map;exact⟨es,k,hb⟩
theorem MapAt.lt (h:MapAt w B fs):B<w.heap.size:=by
 obtain⟨es,k,hb⟩:=h.isMap;exact(Array.getElem?_eq_some_iff.1 hb).1
theorem MapAt.later (h:MapAt w B fs) (hb:Below w.heap.size w w'):MapAt w' B fs:=h.same (hb.block B h.lt)
theorem MapAt.made (w:World):MapAt (w.alloc (.map #[] 0)) w.heap.size [] :=
 ⟨_,World.ownsMap_made (H:=Unit) w Tryz.prog 9 zd9,fun _=>by simp[Maps.has],by simp,rfl⟩
theorem MapAt.look_yes (h:MapAt w B fs) (s:ByteArray) (hs:s.size≤maxLen) (F:Nat) (hF:(s.data.toList,F)∈fs):(Instr.lookup 92 (.map (some B)) (.string s) true).run Tryz.prog w=.ok (.tuple #[.pointer (some ⟨F,0,none⟩),.bool true]) w∧(Instr.lookup 92 (.map (some B)) (.string s) false).run Tryz.prog w=.ok (.pointer (some ⟨F,0,none⟩)) w:=by
 obtain⟨D,hD,hH,hA,_⟩:=h.map;have hh:Maps.has D (.string s.data.toList)=true:=(hH _).2 (List.mem_map.2 ⟨_,hF,rfl⟩);obtain⟨v,ps,hrun,hv⟩:=hD.look_ok strLaw Tryz.underlying92 (zeroFile w) (zd:=.nil) (zp:=[]) rfl (keyS hs);obtain⟨v2,ps2,hrun2,hv2⟩:=hD.lookup strLaw Tryz.underlying92 (zeroFile w) (zd:=.nil) (zp:=[]) rfl (keyS hs);rw[hA _ hF] at hv hv2;rw[fileElem_inv hv,hh] at hrun;rw[fileElem_inv hv2] at hrun2;exact⟨hrun,hrun2⟩
theorem MapAt.look_no (h:MapAt w B fs) (s:ByteArray) (hs:s.size≤maxLen) (hF:s.data.toList ∉ fs.map (·.1)):(Instr.lookup 92 (.map (some B)) (.string s) true).run Tryz.prog w=.ok (.tuple #[.pointer none,.bool false]) w:=by
 obtain⟨D,hD,hH,hA,_⟩:=h.map;have hh:Maps.has D (.string s.data.toList)=false:=by
  cases e:Maps.has D (.string s.data.toList) with
  |false=>rfl
  |true=>exact absurd ((hH _).1 e) hF
 obtain⟨v,ps,hrun,hv⟩:=hD.look_ok strLaw Tryz.underlying92 (zeroFile w) (zd:=.nil) (zp:=[]) rfl (keyS hs);rw[atKey_of_not_has hh] at hv;rw[fileElem_nil hv,hh] at hrun;exact hrun
theorem MapAt.len (h:MapAt w B fs) (ty:TypeId):(Builtin.len_ #[92] ty #[.map (some B)]).run Tryz.prog w=.ok (.int .i64 (fs.length:Int)) w:=by
 obtain⟨D,hD,hH,hA,hS⟩:=h.map;rw[← hS];exact hD.len Tryz.underlying92 ty
theorem MapAt.store (h:MapAt w B fs) (hr:zbd fs) (s:ByteArray) (hs:s.size≤maxLen) (F:Nat) (hn:fs.length≤1000):∃ w',(Instr.mapUpdate 92 (.map (some B)) (.string s) (.pointer (some ⟨F,0,none⟩))).run Tryz.prog w=.ok () w'∧MapAt w' B (zbg s.data.toList F fs)∧w.grownBy w' (some B)∧w'.heap.size=w.heap.size:=by
 obtain⟨D,hD,hH,hA,hS⟩:=h.map;obtain⟨w',hrun,r1,r2⟩:=hD.store strLaw Tryz.underlying92 (show fs.length<maxLen by simp only[maxLen];omega) (keyS hs) (fileElem_mk F);have hmap:=hD.isMap;have hkey:=strLaw.key (keyS hs);have hsz:w'.heap.size=w.heap.size:=by
  obtain⟨_,_,_,_,_,rfl⟩:=r2;simp[ChangeMaps.setBlock]
 have hSZ:Maps.size (D.put (.string s.data.toList) (.lit (.int .i64 (F:Int))))=(zbg s.data.toList F fs).length:=by
  rw[size_put (hD.tidy strLaw),zc7 hr,hS];by_cases e:s.data.toList∈fs.map (·.1)
  ·rw[if_pos e,if_pos ((hH _).2 e)]
  ·rw[if_neg e,if_neg (fun e'=>e ((hH _).1 e'))]
 refine⟨w',hrun,⟨_,by rw[← hSZ];exact ownsMap_tight r1,fun y=>?_,fun y hy zd=>?_,hSZ⟩,r2.grown,hsz⟩
 ·by_cases e:y=s.data.toList
  ·subst e;rw[has_put_same hmap hkey];simp only[true_iff];exact List.mem_map.2 ⟨_,(zb1 hr _).2 (.inl rfl),rfl⟩
  ·rw[has_put_other (fun e'=>e (by simpa using e')),hH y];constructor
   ·intro hm;obtain⟨z,hz,rfl⟩:=List.mem_map.1 hm;exact List.mem_map.2 ⟨z,(zb1 hr _).2 (.inr ⟨hz,e⟩),rfl⟩
   ·intro hm;obtain⟨z,hz,rfl⟩:=List.mem_map.1 hm;rcases(zb1 hr _).1 hz with rfl|⟨hz,_⟩
    ·exact absurd rfl e
    ·exact List.mem_map.2 ⟨z,hz,rfl⟩
 ·rcases(zb1 hr _).1 hy with rfl|⟨hy,e⟩
  ·exact atKey_put_same hmap hkey _ _
  ·rw[atKey_put_other (fun e'=>e (by simpa using e')),hA y hy]
theorem MapAt.drop (h:MapAt w B fs) (hr:zbd fs) (s:ByteArray) (hs:s.size≤maxLen) (ty:TypeId):∃ w',(Builtin.delete_ #[92,9] ty #[.map (some B),.string s]).run Tryz.prog w=.ok (.tuple #[]) w'∧MapAt w' B (zdi s.data.toList fs)∧w.grownBy w' (some B)∧w'.heap.size=w.heap.size:=by
 obtain⟨D,hD,hH,hA,hS⟩:=h.map;obtain⟨w',hrun,r1,r2⟩:=hD.drop strLaw Tryz.underlying92 (keyS hs) ty;have hsz:w'.heap.size=w.heap.size:=by
  obtain⟨_,_,_,_,_,rfl⟩:=r2;simp[ChangeMaps.setBlock]
 have hSZ:Maps.size (D.del (.string s.data.toList))=(zdi s.data.toList fs).length:=by
  have h1:=size_del (k:=.string s.data.toList) (hD.tidy strLaw);have h2:=zfw (k:=s.data.toList) hr;by_cases e:s.data.toList∈fs.map (·.1)
  ·rw[if_pos e] at h2;rw[if_pos ((hH _).2 e)] at h1;omega
  ·rw[if_neg e] at h2;rw[if_neg (fun e'=>e ((hH _).1 e'))] at h1;omega
 refine⟨w',hrun,⟨_,by rw[← hSZ];exact ownsMap_tight r1,fun y=>?_,fun y hy zd=>?_,hSZ⟩,r2.grown,hsz⟩
 ·by_cases e:y=s.data.toList
  ·subst e;rw[has_del_same];simp only[Bool.false_eq_true,false_iff];intro hm;obtain⟨z,hz,e⟩:=List.mem_map.1 hm;exact((zbp z).1 hz).2 e
  ·rw[has_del_other (fun e'=>e (by simpa using e')),hH y];constructor
   ·intro hm;obtain⟨z,hz,rfl⟩:=List.mem_map.1 hm;exact List.mem_map.2 ⟨z,(zbp z).2 ⟨hz,e⟩,rfl⟩
   ·intro hm;obtain⟨z,hz,rfl⟩:=List.mem_map.1 hm;exact List.mem_map.2 ⟨z,((zbp z).1 hz).1,rfl⟩
 ·obtain⟨hy,e⟩:=(zbp y).1 hy;rw[atKey_del_other (fun e'=>e (by simpa using e')),hA y hy]
theorem MapAt.keys (h:MapAt w B fs) (hr:zbd fs):∃ D:DataW Unit,w.ownsMap Tryz.prog 9 zd9 B fs.length D∧Maps.size D=fs.length∧∀ ss:List Nm,ss.Perm (strKeys D)→ss.mergeSort (fun x y=>decide (x≤y))=fs.map (·.1):=by
 obtain⟨D,hD,hH,hA,hS⟩:=h.map;refine⟨D,hD,hS,fun ss hp=>?_⟩;obtain⟨es,rfl,hke⟩:=hD.keysOf;obtain⟨es',e',ht⟩:=hD.tidy strLaw;obtain rfl:es=es':=by simpa using e'
 have hq:(fs.map (·.1)).Perm (strKeys (.map es)):=by
  refine perm_strKeys ht (fun p hp=>?_) hr.nodup (fun x=>(hH x).symm);obtain⟨key,hk⟩:=hke p hp;obtain⟨x,_,hx,_⟩:=Maps.keyOf_str Tryz.underlying9 hk;exact⟨x,hx⟩
 have h1:=mergeSort_of_perm (hp.trans hq.symm);refine h1.trans (List.mergeSort_of_pairwise ?_);refine List.pairwise_map.2 (hr.imp fun {a b} hab=>?_);simp only[leB,decide_eq_true_eq];exact List.le_of_lt hab
end
end
end Go.Proofs.YtofllbpfajppeaaGreatDoor
