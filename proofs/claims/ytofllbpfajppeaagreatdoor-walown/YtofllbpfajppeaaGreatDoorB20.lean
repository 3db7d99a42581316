/- Logs: blocks that lie aside may be written while a log stays; entries told by their indices. -/
import Derived.Test.YtofllbpfajppeaaGreatDoorB19
import Derived.Test.YtofllbpfajppeaaGreatDoorB18
import Derived.Test.YtofllbpfajppeaaGreatDoorB12
import Derived.BigQuiet
import Derived.Test.YtofllbpfajppeaaGreatDoorB07
import Derived.Test.YtofllbpfajppeaaGreatDoorB08
set_option linter.unusedVariables false
set_option maxRecDepth 20000
set_option maxHeartbeats 16000000
namespace Go.Proofs.YtofllbpfajppeaaGreatDoor
section
open Go.ChangeShapes Go.WideShapes Go.ChangeAt Go.RowKit
section
variable {Av:Nat→Prop} {base:Nat} {w w':World} {L d M room N N':Nat} {ss ss':Ds} {c:Wc} {n:Nat} {ep:Option Addr} {ec:Nat} {hs:List (Option Addr×Nat)}
theorem WAt.grow (z:WAt Av base w L d M room N ss c n ep ec hs) (h1:∀ g,g<w.heap.size→¬ Av g→w'.heap[g]? = w.heap[g]?) (hb:Below base w w'):WAt (fun g=>Av g∨(w.heap.size≤g∧g<w'.heap.size)) base w' L d M room N ss c n ep ec hs:=by
 have hL:w'.heap[L]? = w.heap[L]?:=h1 L z.ltL (fun ha=>(z.av L ha).1 rfl);refine⟨(z.dk.grow (fun g hg hn=>h1 g hg (fun ha=>hn (.inl ha))) hb.size).av (fun g hg=>?_),z.lg.same hL,z.ow.same (fun g hg=>h1 g (z.ow.foot g hg).2.1 (fun ha=>(z.av g ha).2 hg)),z.bl,fun g hg=>?_,z.ok,z.nn,z.le,let ⟨w0,q1,q2,q3⟩:=z.tz;⟨w0,q1,q2,q3.trans hb⟩⟩
 ·rcases hg with(hg|hg)|hg|hg
  ·exact .inl (.inl hg)
  ·exact .inr hg
  ·exact .inl (.inr (.inl hg))
  ·exact .inl (.inr (.inr hg))
 ·rcases hg with hg|hg
  ·exact z.av g hg
  ·refine⟨fun e=>?_,fun hf=>?_⟩
   ·have:=z.ltL;omega
   ·have:=(z.ow.foot g hf).2.1;omega
theorem zmq {c:Wc} (hi:Ix c) {i j:Int} (h1:i≤(c.bi:Int)+1) (h2:((c.bi+c.es.length:Nat):Int)≤j):zb7 c.es i j=c.es:=by
 unfold zb7;refine List.filter_eq_self.2 fun e he=>?_;obtain⟨k,hk,rfl⟩:=List.getElem_of_mem he;have:=hi k hk;rw[Bool.and_eq_true,decide_eq_true_eq,decide_eq_true_eq];omega
end
def zmg (p:Prop) (w:World) (e:Ending) (w':World):Prop:=∃ x:Bool,e=.returned (.bool x)∧(p→x=true)∧Below w.heap.size w w'
theorem zor (k t i k' t' i':Int) (a a':Option Addr) (n n' c c':Nat) (l l':List Nat) (w:World) (hn:l.length=n) (hn':l'.length=n') (hb:BytesAt w a l) (hb':BytesAt w a' l') :
  Calls Tryz.prog 50 #[entVal k t i a n c,entVal k' t' i' a' n' c'] w (zmg ((k,t,i,l)=(k',t',i',l')) w):=by
 by_cases hall:k=k'∧t=t'∧i=i'∧l=l'
 ·obtain⟨rfl,rfl,rfl,rfl⟩:=hall;refine(ziz k t i a a' n n' c c' l w hn hn' hb hb').mono ?_;rintro e w' ⟨rfl,h⟩;exact⟨true,rfl,fun _=>rfl,h⟩
 ·have NO:=zaa (show ¬ ((k,t,i,l)=(k',t',i',l')) from fun h=>by
   simp only[Prod.mk.injEq] at h
   exact hall h)
  clear hall;have x0:=zbp (entB k' t' i' a' n' c') (zad w (entB k t i a n c));have x1:=zad (w.alloc (entB k t i a n c)) (entB k' t' i' a' n' c');rw[size_alloc] at x1;obtain⟨c0,c1,c2,c3⟩:=zar x0;obtain⟨d0,d1,d2,d3⟩:=zar x1;have bA:Below w.heap.size w ((w.alloc (entB k t i a n c)).alloc (entB k' t' i' a' n' c')):=((Below.refl _ _).alloc (Nat.le_refl _) _).alloc (by rw[size_alloc];omega) _;have s1:=zcy (c:=c) n hn (hb.later bA);have s2:=zcy (c:=c') n' hn' (hb'.later bA);generalize zx5 l=q1 at *;generalize zx5 l'=q2 at *;have BA:=zaa bA;have FE:=zaa (show ∀ x:Bool,zmg ((k,t,i,l)=(k',t',i',l')) w (.returned (.bool x)) ((w.alloc (entB k t i a n c)).alloc (entB k' t' i' a' n' c')) from fun x=>⟨x,rfl,fun h=>absurd h (za NO),bA⟩);clear x0 x1 bA hb hb' hn hn' NO;by_cases h1:k=k'
  ·subst h1;by_cases h2:t=t'
   ·subst h2;by_cases h3:i=i'
    ·subst h3;cases h4:(q1.toList==q2.toList) with
     |true =>
      go_enter Tryz.func50,Tryz.ntmps50
      go_wp2
      go_ret
      exact za FE _
     |false =>
      go_enter Tryz.func50,Tryz.ntmps50
      go_wp2
      go_ret
      exact za FE _
    ·have h3':(i==i')=false:=by simp[h3]
     go_enter Tryz.func50,Tryz.ntmps50
     go_wp2
     go_ret
     exact za FE _
   ·have h2':(t==t')=false:=by simp[h2]
    go_enter Tryz.func50,Tryz.ntmps50
    go_wp2
    go_ret
    exact za FE _
  ·have h1':(k==k')=false:=by simp[h1]
   go_enter Tryz.func50,Tryz.ntmps50
   go_wp2
   go_ret
   exact za FE _
theorem zlh (a a':Option Addr) (n n' c c':Nat) (es es':List EntI) (w:World) (hn:es.length=n) (hn':es'.length=n') (hlen:n≤9223372036854775807) (hlen':n'≤9223372036854775807) (hb:EntsAt w a es) (hb':EntsAt w a' es') :
  Calls Tryz.prog 15 #[.slice a n c,.slice a' n' c'] w (zmg (es=es') w):=by
 have HB:=zaa hb;have HB':=zaa hb';have HN:=zaa hn;have HN':=zaa hn';clear hb hb' hn hn';have FE:=zaa (show ∀ (x:Bool) W,(es=es'→x=true)→Below w.heap.size w W→zmg (es=es') w (.returned (.bool x)) W from fun x W h u=>⟨x,rfl,h,u⟩);by_cases hnn:n=n'
 ·subst hnn;go_enter Tryz.func15,Tryz.ntmps15
  go_wp2_with fail
  go_loopw [5] (fun i wr=>∃ j:Nat,j≤n∧i=.int .i64 (j:Int)∧Hid (Below w.heap.size w wr)) (fun i _=>n - (intOf i).toNat)
  case atStart=>exact⟨0,by omega,rfl,Below.refl _ _⟩
  case round =>
   obtain⟨j,hj,rfl,F⟩:=hrel;by_cases hjn:j<n
   ·have hje:j<es.length:=by have:=za HN;omega
    have hje':j<es'.length:=by have:=za HN';omega
    obtain⟨b,off,dp,dc,rfl,p0,p1,p2,p3,p4,_⟩:=((za HB).later (za F)).cell j hje;obtain⟨b',off',dp',dc',rfl,q0,q1,q2,q3,q4,_⟩:=((za HB').later (za F)).cell j hje';have EQ:=zaa (show es=es'→es[j]=es'[j] from fun h=>by subst h;rfl);generalize es[j]=e at *;generalize es'[j]=e' at *;obtain⟨k,t,i,d⟩:=e;obtain⟨k',t',i',d'⟩:=e';have P4:=zaa p4;have Q4:=zaa q4;have hj0:(0:Int)≤(j:Int):=by omega
    have hj1:(j:Int)<(n:Int):=by omega
    clear p4 q4;simp only at p0 p1 p2 p3 q0 q1 q2 q3
    go_wp2_with fail
    go_region_held3 (fun w'=>w'.cell? ⟨b,off+j*4,none⟩=some (.int .i64 k)∧w'.cell? ⟨b,off+j*4+1,none⟩=some (.int .i64 t)∧w'.cell? ⟨b,off+j*4+2,none⟩=some (.int .i64 i)∧w'.cell? ⟨b,off+j*4+3,none⟩=some (.slice dp d.length dc) ∧
      w'.cell? ⟨b',off'+j*4,none⟩=some (.int .i64 k')∧w'.cell? ⟨b',off'+j*4+1,none⟩=some (.int .i64 t')∧w'.cell? ⟨b',off'+j*4+2,none⟩=some (.int .i64 i')∧w'.cell? ⟨b',off'+j*4+3,none⟩=some (.slice dp' d'.length dc'))
     (first
      |exact⟨p0,p1,p2,p3,q0,q1,q2,q3⟩
      |exact⟨cell_later hb1 p0,cell_later hb1 p1,cell_later hb1 p2,cell_later hb1 p3,cell_later hb1 q0,cell_later hb1 q1,cell_later hb1 q2,cell_later hb1 q3⟩)
     (first
      |(go_at_call 50;refine(zor k t i k' t' i' dp dp' d.length d'.length dc dc' d d' _ rfl rfl (by exact(za P4).drew) (by exact(za Q4).drew)).mono ?_;rintro e W1 ⟨x1,rfl,hx1,hb1⟩))
    have F1:=zaa ((za F).drew.trans (hb1.mono (za F).size));have X1:=zaa hx1;clear hb1 hx1;cases x1 with
    |true =>
     go_wp2
     exact⟨⟨j+1,by omega,by go_num,za F1⟩,by simp[intOf];omega⟩
    |false =>
     have FF:=zaa (za FE false W1 (fun h=>za X1 (za EQ h)) (za F1))
     go_wp2
     go_ret
     exact za FF
   ·have FF:=zaa (za FE true wr (fun _=>rfl) (za F))
    go_wp2
    go_ret
    exact za FF
 ·have h1:((n:Int)==(n':Int))=false:=by simp;omega
  have h2:¬ (n:Int)=(n':Int):=by omega
  have FF:=zaa (za FE false w (fun h=>absurd (show n=n' by rw[← za HN,← za HN',h]) hnn) (Below.refl _ _));clear hnn;go_enter Tryz.func15,Tryz.ntmps15
  go_wp2
  go_ret
  exact za FF
def zb1 (c:Wc) (sp:Option Addr) (k:Nat):Array Value:=#[.int .i64 (c.bi:Int),.int .i64 (c.bt:Int),.int .i64 (c.ht:Int),.int .i64 (c.hv:Int),.slice sp c.es.length k]
def zAr (w:World) (c:Wc) (e:Ending) (w':World):Prop:=∃ sp k hs,e=.returned (.agg (zb1 c sp k))∧OwnL w.heap.size w' sp k c.es hs∧Below w.heap.size w w'
section
variable {Av:Nat→Prop} {base:Nat} {w w':World} {L d M room N N':Nat} {ss ss':Ds} {c:Wc} {n:Nat} {ep:Option Addr} {ec:Nat} {hs:List (Option Addr×Nat)}
theorem za8 (z:WAt Av base w L d M room N ss c n ep ec hs) (hi:Ix c):Calls Tryz.prog 19 #[.pointer (some ⟨L,0,none⟩)] w (zAr w c):=by
 have U0:=zaa ((Below.refl w.heap.size w).alloc (Nat.le_refl _) (.cells #[.int .i64 0,.int .i64 0,.int .i64 0,.int .i64 0,.slice none 0 0] 51));have X0:=zaa (zad w (.cells #[.int .i64 0,.int .i64 0,.int .i64 0,.int .i64 0,.slice none 0 0] 51));have S0:=zaa (show(w.alloc (.cells #[.int .i64 0,.int .i64 0,.int .i64 0,.int .i64 0,.slice none 0 0] 51)).heap.size=w.heap.size+1 by simp);have BC:=zaa (fun W (u:Below w.heap.size w W)=>zs2 (z.later u));have HC:=zaa (fun W (u:Below w.heap.size w W)=>zlv (z.later u));have LC:=zaa (fun W (u:Below w.heap.size w W)=>zig (z.later u));have EC:=zaa (fun W (u:Below w.heap.size w W)=>zim (z.later u) 0 ((c.bi+c.es.length:Nat):Int));rw[zmq hi (by omega) (Int.le_refl _)] at EC;have SR:=zaa (show ∀ sp k,zb1 c sp k=#[.int .i64 (c.bi:Int),.int .i64 (c.bt:Int),.int .i64 (c.ht:Int),.int .i64 (c.hv:Int),.slice sp c.es.length k] from fun _ _=>rfl);have EL:=zaa (show c.es.length=c.es.length from rfl);clear z hi;generalize ((c.bi+c.es.length:Nat):Int)=la at *;go_enter Tryz.func19,Tryz.ntmps19
 go_wp2_with fail
 generalize w.alloc _=W0 at *;go_at_call 53
 refine(za BC _ (za U0)).mono ?_;rintro e V1 ⟨rfl,v1⟩;have U1:=zaa ((za U0).trans (v1.mono (za U0).size));have C1:=zaa v1;clear v1
 go_wp2_with fail
 go_at_call 48
 refine(za HC _ (za U1)).mono ?_;rintro e V2 ⟨rfl,v2⟩;have U2:=zaa ((za U1).trans (v2.mono (za U1).size));have C2:=zaa ((za C1).trans (v2.mono (za C1).size));clear v2
 go_wp2_with fail
 go_at_call 24
 refine(za LC _ (za U2)).mono ?_;rintro e V3 ⟨rfl,v3⟩;have U3:=zaa ((za U2).trans (v3.mono (za U2).size));have C3:=zaa ((za C2).trans (v3.mono (za C2).size));clear v3
 go_wp2_with fail
 go_at_call 16
 refine(za EC _ (za U3)).mono ?_;rintro e V4 ⟨sp,m,k,hs2,rfl,hm,o4,v4⟩;subst hm;have U4:=zaa ((za U3).trans (v4.mono (za U3).size));have C4:=zaa ((za C3).trans (v4.mono (za C3).size));have X4:=zaa (zac (za C4) (za X0));have x0:=zab (za X4) 0 _ rfl;have x1:=zab (za X4) 1 _ rfl;have x2:=zab (za X4) 2 _ rfl;have x3:=zab (za X4) 3 _ rfl;have x4:=zab (za X4) 4 _ rfl;have f0:=zbj (za X4) 0;have f1:=zbj (za X4) 1;have f2:=zbj (za X4) 2;have f3:=zbj (za X4) 3;have f4:=zbj (za X4) 4;have O4:=zaa (o4.mono (base':=w.heap.size) (za U3).size)
 have OE:=zaa (show ∀ g,zc6 sp hs2 g→g≠w.heap.size from fun g hg e=>by
  have h1:=(o4.foot g hg).1;have h2:=(za C3).size;have h3:=za S0
  omega)
 clear o4 v4;have ha:=heap_setCell_same V4 w.heap.size 0 _ _ (.int .i64 (c.bi:Int)) (za X4);have hb:=heap_setCell_same _ w.heap.size 1 _ _ (.int .i64 (c.bt:Int)) ha;have hc:=heap_setCell_same _ w.heap.size 2 _ _ (.int .i64 (c.ht:Int)) hb;have hd:=heap_setCell_same _ w.heap.size 3 _ _ (.int .i64 (c.hv:Int)) hc;have he:=heap_setCell_same _ w.heap.size 4 _ _ (.slice sp c.es.length k) hd;have G5:=zaa (((((zaf V4 w.heap.size 0 (.int .i64 (c.bi:Int))).trans (zaf _ w.heap.size 1 (.int .i64 (c.bt:Int)))).trans (zaf _ w.heap.size 2 (.int .i64 (c.ht:Int)))).trans (zaf _ w.heap.size 3 (.int .i64 (c.hv:Int)))).trans (zaf _ w.heap.size 4 (.slice sp c.es.length k)));have X5:=zaa he;clear ha hb hc hd he;have FE:=zaa (show ∀ W,V4.grownBy W (some w.heap.size)→zAr w c (.returned (.agg #[.int .i64 (c.bi:Int),.int .i64 (c.bt:Int),.int .i64 (c.ht:Int),.int .i64 (c.hv:Int),.slice sp c.es.length k])) W from fun W hg=>⟨sp,k,hs2,rfl,(za O4).same (fun g hgf=>hg.block g ((za O4).foot g hgf).2.1 (fun e=>za OE g hgf (Option.some.inj e))),(za U4).grown hg (za U4).size (fun j e=>by have:=Option.some.inj e;omega)⟩)
 go_wp2
 clear x0 x1 x2 x3 x4 f0 f1 f2 f3 f4;generalize ((((V4.setCell _ _).setCell _ _).setCell _ _).setCell _ _).setCell _ _=W5 at *;have y0:W5.cell? ⟨w.heap.size,0,none⟩=some (.int .i64 (c.bi:Int)):=zab (za X5) 0 _ rfl;have y1:W5.cell? ⟨w.heap.size,1,none⟩=some (.int .i64 (c.bt:Int)):=zab (za X5) 1 _ rfl;have y2:W5.cell? ⟨w.heap.size,2,none⟩=some (.int .i64 (c.ht:Int)):=zab (za X5) 2 _ rfl;have y3:W5.cell? ⟨w.heap.size,3,none⟩=some (.int .i64 (c.hv:Int)):=zab (za X5) 3 _ rfl;have y4:W5.cell? ⟨w.heap.size,4,none⟩=some (.slice sp c.es.length k):=zab (za X5) 4 _ rfl;refine bodyPost_ret (v:=.agg #[.int .i64 (c.bi:Int),.int .i64 (c.bt:Int),.int .i64 (c.ht:Int),.int .i64 (c.hv:Int),.slice sp c.es.length k]) (by simp[results,Tryz.results19,go_sem,y0,y1,y2,y3,y4]) rfl (za FE W5 (za G5))
end
theorem zaw {a b:Wc} {sp sp':Option Addr} {k k':Nat} (w:World) (ha:EntsAt w sp (a.es.map toI)) (hb:EntsAt w sp' (b.es.map toI)) (la:a.es.length≤9223372036854775807) (lb:b.es.length≤9223372036854775807) :
  Calls Tryz.prog 22 #[.agg (zb1 a sp k),.agg (zb1 b sp' k')] w (zmg (a=b) w):=by
 unfold zb1;have U0:=(Below.refl w.heap.size w).alloc (Nat.le_refl _) (.cells #[.int .i64 (a.bi:Int),.int .i64 (a.bt:Int),.int .i64 (a.ht:Int),.int .i64 (a.hv:Int),.slice sp a.es.length k] 51);have S0:(w.alloc (.cells #[.int .i64 (a.bi:Int),.int .i64 (a.bt:Int),.int .i64 (a.ht:Int),.int .i64 (a.hv:Int),.slice sp a.es.length k] 51)).heap.size=w.heap.size+1:=by simp
 have X0:=zad w (.cells #[.int .i64 (a.bi:Int),.int .i64 (a.bt:Int),.int .i64 (a.ht:Int),.int .i64 (a.hv:Int),.slice sp a.es.length k] 51);have X1:=zad (w.alloc (.cells #[.int .i64 (a.bi:Int),.int .i64 (a.bt:Int),.int .i64 (a.ht:Int),.int .i64 (a.hv:Int),.slice sp a.es.length k] 51)) (.cells #[.int .i64 (b.bi:Int),.int .i64 (b.bt:Int),.int .i64 (b.ht:Int),.int .i64 (b.hv:Int),.slice sp' b.es.length k'] 51);have X0:=zac ((Below.refl (w.alloc (.cells #[.int .i64 (a.bi:Int),.int .i64 (a.bt:Int),.int .i64 (a.ht:Int),.int .i64 (a.hv:Int),.slice sp a.es.length k] 51)).heap.size _).alloc (Nat.le_refl _) (.cells #[.int .i64 (b.bi:Int),.int .i64 (b.bt:Int),.int .i64 (b.ht:Int),.int .i64 (b.hv:Int),.slice sp' b.es.length k'] 51)) X0;rw[S0] at X1;have U1:=U0.alloc (o:=.cells #[.int .i64 (b.bi:Int),.int .i64 (b.bt:Int),.int .i64 (b.ht:Int),.int .i64 (b.hv:Int),.slice sp' b.es.length k'] 51) (by rw[S0];omega);have BA:=zaa U1;have HA:=zaa (ha.later U1);have HB:=zaa (hb.later U1);have c0:=zab X0 0 _ rfl;have c1:=zab X0 1 _ rfl;have c2:=zab X0 2 _ rfl;have c3:=zab X0 3 _ rfl;have c4:=zab X0 4 _ rfl;have d0:=zab X1 0 _ rfl;have d1:=zab X1 1 _ rfl;have d2:=zab X1 2 _ rfl;have d3:=zab X1 3 _ rfl;have d4:=zab X1 4 _ rfl;have FE:=zaa (show ∀ (x:Bool) W,(a=b→x=true)→Below w.heap.size w W→zmg (a=b) w (.returned (.bool x)) W from fun x W h u=>⟨x,rfl,h,u⟩);clear X0 X1 U0 U1 S0 ha hb;have EC:=zaa (fun W (u:Below ((w.alloc (.cells #[.int .i64 (a.bi:Int),.int .i64 (a.bt:Int),.int .i64 (a.ht:Int),.int .i64 (a.hv:Int),.slice sp a.es.length k] 51)).alloc (.cells #[.int .i64 (b.bi:Int),.int .i64 (b.bt:Int),.int .i64 (b.ht:Int),.int .i64 (b.hv:Int),.slice sp' b.es.length k'] 51)).heap.size ((w.alloc (.cells #[.int .i64 (a.bi:Int),.int .i64 (a.bt:Int),.int .i64 (a.ht:Int),.int .i64 (a.hv:Int),.slice sp a.es.length k] 51)).alloc (.cells #[.int .i64 (b.bi:Int),.int .i64 (b.bt:Int),.int .i64 (b.ht:Int),.int .i64 (b.hv:Int),.slice sp' b.es.length k'] 51)) W)=>zlh sp sp' a.es.length b.es.length k k' (a.es.map toI) (b.es.map toI) W (by rw[List.length_map]) (by rw[List.length_map]) la lb ((za HA).later u) ((za HB).later u))
 have NE:∀ x:Nat,∀ y:Nat,x=y∨(((x:Int)==(y:Int))=false∧¬ (x:Int)=(y:Int)):=fun x y=>by
  by_cases h:x=y
  ·exact .inl h
  ·exact .inr ⟨by simp;omega,by omega⟩
 obtain⟨ai,at_,ah,av,aes⟩:=a;obtain⟨bi,bt,bh,bv,bes⟩:=b;dsimp only at *;rcases NE ai bi with rfl|⟨q1,q2⟩
 ·rcases NE at_ bt with rfl|⟨q1,q2⟩
  ·rcases NE ah bh with rfl|⟨q1,q2⟩
   ·rcases NE av bv with rfl|⟨q1,q2⟩
    ·clear NE;go_enter Tryz.func22,Tryz.ntmps22
     go_wp2_with fail
     generalize (w.alloc _).alloc _=W0 at *;go_at_call 15
     refine(za EC W0 (Below.refl _ _)).mono ?_;rintro e V ⟨x,rfl,hx,v⟩;have FF:=zaa (za FE x V (fun h=>hx (by injection h with _ _ _ _ h5;rw[h5])) ((za BA).trans (v.mono (za BA).size)));clear v hx EC
     go_wp2
     go_ret
     exact za FF
    ·have FF:=zaa (za FE false _ (fun h=>absurd (by injection h with _ _ _ h4;rw[h4]) q2) (za BA));clear NE;go_enter Tryz.func22,Tryz.ntmps22
     go_wp2
     go_ret
     exact za FF
   ·have FF:=zaa (za FE false _ (fun h=>absurd (by injection h with _ _ h4;rw[h4]) q2) (za BA));clear NE;go_enter Tryz.func22,Tryz.ntmps22
    go_wp2
    go_ret
    exact za FF
  ·have FF:=zaa (za FE false _ (fun h=>absurd (by injection h with _ h4;rw[h4]) q2) (za BA));clear NE;go_enter Tryz.func22,Tryz.ntmps22
   go_wp2
   go_ret
   exact za FF
 ·have FF:=zaa (za FE false _ (fun h=>absurd (by injection h with h4;rw[h4]) q2) (za BA));clear NE;go_enter Tryz.func22,Tryz.ntmps22
  go_wp2
  go_ret
  exact za FF
theorem zgg (n:Nat) (w:World) (hn:n≤1099511627776) :
  Calls Tryz.prog 140 #[.int .i64 (n:Int)] w fun e w'=>∃ sp n' c',e=.returned (.tuple #[.slice sp n' c',.int .i64 0])∧Hid ((za2 n).length=n')∧OwnB w.heap.size w' sp c' (za2 n)∧Below w.heap.size w w':=by
 have HLen:=zaa (show(za2 n).length≤2199023255553 by have:=(zda n).2;omega);have o1:=zaa (OwnB.empty w w.heap.size (Nat.le_refl _));have b1:=zaa (show Below w.heap.size w (w.alloc (.cells #[] 5)) from(Below.refl _ _).alloc (Nat.le_refl _) _);go_enter Tryz.func140,Tryz.ntmps140
 go_wp2
 go_loopw [0,4] (fun i v wr=>∃ (sp':Option Addr) (n' c':Nat) (l':List Nat) (m:Nat),m≤1099511627776∧v=.slice sp' n' c'∧i=.int .i64 (m:Int)∧Hid (l'.length=n')∧Hid (OwnB w.heap.size wr sp' c' l')∧Hid (l'++za2 m=za2 n)∧Hid (Below w.heap.size w wr)) (fun i _ _=>(intOf i).toNat)
 case atStart=>exact⟨_,0,0,[],n,hn,rfl,rfl,rfl,za o1,by simp[Hid],za b1⟩
 case round =>
  obtain⟨sp',n',c',l',m,hm,rfl,rfl,hl',ho',heq,hbw⟩:=hrel
  have hlen':=zaa (show l'.length+1≤140737488355328 by
   have h1:=za HLen;rw[← za heq,List.length_append] at h1;have:=(zda m).1
   omega)
  have hbr:=zaa (show w.heap.size≤wr.heap.size from(za hbw).size);by_cases h128:m<128
  ·have hlit:=zaa (zbx (l:=[m]) (zad wr (.cells #[.int .u8 (m:Int)] 5)) (by intro c hc;simp only[List.mem_cons,List.not_mem_nil,or_false] at hc;omega));have bA:=zaa (show Below wr.heap.size wr (wr.alloc (.cells #[.int .u8 (m:Int)] 5)) from(Below.refl _ _).alloc (Nat.le_refl _) _);have heq':=zaa (show l'++[m]=za2 n by rw[← za heq,zc2 h128]);have hmod:(m:Int) % 128=(m:Int):=by omega
   have hdiv:(m:Int) / 128=0:=by omega
   go_wp2_with (at_builtin;refine zas rfl (.tmp 19) (.tmp 22) rfl w.heap.size sp' n' c' l' rfl (za hl') (by exact(za ho').later (za bA)) (some ⟨wr.heap.size,0,none⟩) 1 1 rfl [m] rfl (by exact za hlit) (fun h=>by cases h) (za hlen') (by exact Nat.le_trans (za hbr) (za bA).size) ?_;intro sp2 n2 c2 W2 hn2 ho2 hg2 hb2)
   rw[za heq'] at hn2 ho2
   go_ret2
   exact⟨sp2,n2,c2,rfl,hn2,ho2,((za hbw).trans ((za bA).mono (za hbr))).trans hb2⟩
  ·obtain⟨q,hq⟩:∃ q,q=m % 128+128:=⟨_,rfl⟩
   obtain⟨d,hd⟩:∃ d,d=m / 128:=⟨_,rfl⟩
   have hlit:=zaa (zbx (l:=[q]) (zad wr (.cells #[.int .u8 (q:Int)] 5)) (by intro c hc;simp only[List.mem_cons,List.not_mem_nil,or_false] at hc;omega));have bA:=zaa (show Below wr.heap.size wr (wr.alloc (.cells #[.int .u8 (q:Int)] 5)) from(Below.refl _ _).alloc (Nat.le_refl _) _);have heq':=zaa (show l'++[q]++za2 d=za2 n by rw[← za heq,zdz h128,hq,hd,List.append_assoc];rfl);have hmod:(m:Int) % 128+128=(q:Int):=by omega
   have hdiv:(m:Int) / 128=(d:Int):=by omega
   have hd0:¬ (d:Int)=0:=by omega
   have hq256:(q:Int)<256:=by omega
   have HD:=zaa hd;have HQ:=zaa hq;clear hd hq
   go_wp2_with (at_builtin;refine zas rfl (.tmp 24) (.tmp 28) rfl w.heap.size sp' n' c' l' rfl (za hl') (by exact(za ho').later (za bA)) (some ⟨wr.heap.size,0,none⟩) 1 1 rfl [q] rfl (by exact za hlit) (fun h=>by cases h) (za hlen') (by exact Nat.le_trans (za hbr) (za bA).size) ?_;intro sp2 n2 c2 W2 hn2 ho2 hg2 hb2)
   have hbn:=((za hbw).trans ((za bA).mono (za hbr))).trans hb2;exact⟨⟨sp2,n2,c2,l'++[q],d,by have:=za HD;omega,rfl,rfl,hn2,ho2,za heq',hbn⟩,by have:=za HD;simp[intOf];omega⟩
def ze8 (l:List Nat) (k:Nat):Value :=
 if (zdw l k).1=0 then .tuple #[.int .i64 ((zdw l k).2.1:Int),.int .i64 ((zdw l k).2.2:Int),.int .i64 0] else .tuple #[.int .i64 0,.int .i64 0,.int .i64 ((zdw l k).1:Int)]
theorem zgh (a:Option Addr) (M c:Nat) (l:List Nat) (k:Nat) (kk:Int) (w:World) (hM:l.length=M) (hkk:kk=(k:Int)) (hl:l.length≤140737488355328) (hk:k≤l.length) (hb:BytesAt w a l) :
  Calls Tryz.prog 131 #[.slice a M c,.int .i64 kk] w fun e w'=>e=.returned (ze8 l k)∧w'=w:=by
 subst hM hkk;have HB:=zaa hb;clear hb;have hk0:=hk;go_enter Tryz.func131,Tryz.ntmps131
 go_wp2
 clear hk
 go_loop [7,8,9] (fun x u i=>∃ (m s:Nat),s≤6∧i=.int .i64 (s:Int)∧u=.int .i64 ((128 ^ s:Nat):Int)∧x=.int .i64 (m:Int)∧m<128 ^ s∧Hid (zd6 l (6 - s) s m (k+s)=zdw l k)) (fun _ _ i=>6 - (intOf i).toNat)
 case atStart=>exact⟨0,0,by omega,rfl,rfl,rfl,by decide,rfl⟩
 case round =>
  obtain⟨m,s,hs,rfl,rfl,rfl,hm,heq⟩:=hrel;by_cases hk:k+s<l.length
  ·obtain⟨b,off,rfl,hc⟩:=(za HB).cell (k+s) hk;have hx:=zcv (za HB).lt (k+s);generalize hxx:l.getD (k+s) 0=x at *;have HX:=zaa hxx;clear hxx;rcases(by omega:s=0∨s=1∨s=2∨s=3∨s=4∨s=5∨s=6) with rfl|rfl|rfl|rfl|rfl|rfl|rfl
   ·obtain⟨n,hn⟩:∃ n,n=m+x % 128*128 ^ 0:=⟨_,rfl⟩
    have hA:(m:Int)+((x:Int) % 128)=(n:Int):=by rw[hn];simp only[Nat.reducePow];omega
    have hm':m<1:=hm;simp only[Nat.add_zero] at hc;have hlt:n<128:=by rw[hn];simp only[Nat.reducePow];omega
    have HN:=zaa hn;clear hn hm;by_cases h128:128≤x
    ·have ht:=zaa ((zcs 5 0 m (za HX) hk h128 (by decide)).symm.trans (za heq));rw[← za HN] at ht
     go_wp2
     exact⟨⟨n,1,by omega,rfl,rfl,rfl,by simp only[Nat.reducePow];exact hlt,by rw[show k+1=k+0+1 by omega];exact za ht⟩,by simp[intOf]⟩
    ·have hxx:x % 128=x:=by omega
     rw[hxx] at HN;by_cases hb:1099511627776<n
     ·omega
     ·have ht:=zaa ((zdk 5 0 m (za HX) hk h128 (fun h=>absurd h.2 (by decide)) (by rw[← za HN];exact hb)).symm.trans (za heq));rw[← za HN] at ht
      go_wp2
      all_goals (go_ret3;exact⟨by rw[ze8,← za ht];rfl,rfl⟩)
   ·obtain⟨n,hn⟩:∃ n,n=m+x % 128*128 ^ 1:=⟨_,rfl⟩
    have hA:(m:Int)+((x:Int) % 128*128)=(n:Int):=by rw[hn];simp only[Nat.reducePow];omega
    have hm':m<128:=hm;have hlt:n<16384:=by rw[hn];simp only[Nat.reducePow];omega
    have HN:=zaa hn;clear hn hm;by_cases h128:128≤x
    ·have ht:=zaa ((zcs 4 1 m (za HX) hk h128 (by decide)).symm.trans (za heq));rw[← za HN] at ht
     go_wp2
     exact⟨⟨n,2,by omega,rfl,rfl,rfl,by simp only[Nat.reducePow];exact hlt,by rw[show k+2=k+1+1 by omega];exact za ht⟩,by simp[intOf]⟩
    ·have hxx:x % 128=x:=by omega
     rw[hxx] at HN;by_cases h0:x=0
     ·have ht:=zaa ((zc3 4 1 m (za HX) hk h0 (by decide)).symm.trans (za heq))
      go_wp2
      go_ret3
      exact⟨by rw[ze8,← za ht];rfl,rfl⟩
     ·by_cases hb:1099511627776<n
      ·omega
      ·have ht:=zaa ((zdk 4 1 m (za HX) hk h128 (fun h=>h0 h.1) (by rw[← za HN];exact hb)).symm.trans (za heq));rw[← za HN] at ht
       go_wp2
       all_goals (go_ret3;exact⟨by rw[ze8,← za ht];rfl,rfl⟩)
   ·obtain⟨n,hn⟩:∃ n,n=m+x % 128*128 ^ 2:=⟨_,rfl⟩
    have hA:(m:Int)+((x:Int) % 128*16384)=(n:Int):=by rw[hn];simp only[Nat.reducePow];omega
    have hm':m<16384:=hm;have hlt:n<2097152:=by rw[hn];simp only[Nat.reducePow];omega
    have HN:=zaa hn;clear hn hm;by_cases h128:128≤x
    ·have ht:=zaa ((zcs 3 2 m (za HX) hk h128 (by decide)).symm.trans (za heq));rw[← za HN] at ht
     go_wp2
     exact⟨⟨n,3,by omega,rfl,rfl,rfl,by simp only[Nat.reducePow];exact hlt,by rw[show k+3=k+2+1 by omega];exact za ht⟩,by simp[intOf]⟩
    ·have hxx:x % 128=x:=by omega
     rw[hxx] at HN;by_cases h0:x=0
     ·have ht:=zaa ((zc3 3 2 m (za HX) hk h0 (by decide)).symm.trans (za heq))
      go_wp2
      go_ret3
      exact⟨by rw[ze8,← za ht];rfl,rfl⟩
     ·by_cases hb:1099511627776<n
      ·omega
      ·have ht:=zaa ((zdk 3 2 m (za HX) hk h128 (fun h=>h0 h.1) (by rw[← za HN];exact hb)).symm.trans (za heq));rw[← za HN] at ht
       go_wp2
       all_goals (go_ret3;exact⟨by rw[ze8,← za ht];rfl,rfl⟩)
   ·obtain⟨n,hn⟩:∃ n,n=m+x % 128*128 ^ 3:=⟨_,rfl⟩
    have hA:(m:Int)+((x:Int) % 128*2097152)=(n:Int):=by rw[hn];simp only[Nat.reducePow];omega
    have hm':m<2097152:=hm;have hlt:n<268435456:=by rw[hn];simp only[Nat.reducePow];omega
    have HN:=zaa hn;clear hn hm;by_cases h128:128≤x
    ·have ht:=zaa ((zcs 2 3 m (za HX) hk h128 (by decide)).symm.trans (za heq));rw[← za HN] at ht
     go_wp2
     exact⟨⟨n,4,by omega,rfl,rfl,rfl,by simp only[Nat.reducePow];exact hlt,by rw[show k+4=k+3+1 by omega];exact za ht⟩,by simp[intOf]⟩
    ·have hxx:x % 128=x:=by omega
     rw[hxx] at HN;by_cases h0:x=0
     ·have ht:=zaa ((zc3 2 3 m (za HX) hk h0 (by decide)).symm.trans (za heq))
      go_wp2
      go_ret3
      exact⟨by rw[ze8,← za ht];rfl,rfl⟩
     ·by_cases hb:1099511627776<n
      ·omega
      ·have ht:=zaa ((zdk 2 3 m (za HX) hk h128 (fun h=>h0 h.1) (by rw[← za HN];exact hb)).symm.trans (za heq));rw[← za HN] at ht
       go_wp2
       all_goals (go_ret3;exact⟨by rw[ze8,← za ht];rfl,rfl⟩)
   ·obtain⟨n,hn⟩:∃ n,n=m+x % 128*128 ^ 4:=⟨_,rfl⟩
    have hA:(m:Int)+((x:Int) % 128*268435456)=(n:Int):=by rw[hn];simp only[Nat.reducePow];omega
    have hm':m<268435456:=hm;have hlt:n<34359738368:=by rw[hn];simp only[Nat.reducePow];omega
    have HN:=zaa hn;clear hn hm;by_cases h128:128≤x
    ·have ht:=zaa ((zcs 1 4 m (za HX) hk h128 (by decide)).symm.trans (za heq));rw[← za HN] at ht
     go_wp2
     exact⟨⟨n,5,by omega,rfl,rfl,rfl,by simp only[Nat.reducePow];exact hlt,by rw[show k+5=k+4+1 by omega];exact za ht⟩,by simp[intOf]⟩
    ·have hxx:x % 128=x:=by omega
     rw[hxx] at HN;by_cases h0:x=0
     ·have ht:=zaa ((zc3 1 4 m (za HX) hk h0 (by decide)).symm.trans (za heq))
      go_wp2
      go_ret3
      exact⟨by rw[ze8,← za ht];rfl,rfl⟩
     ·by_cases hb:1099511627776<n
      ·omega
      ·have ht:=zaa ((zdk 1 4 m (za HX) hk h128 (fun h=>h0 h.1) (by rw[← za HN];exact hb)).symm.trans (za heq));rw[← za HN] at ht
       go_wp2
       all_goals (go_ret3;exact⟨by rw[ze8,← za ht];rfl,rfl⟩)
   ·obtain⟨n,hn⟩:∃ n,n=m+x % 128*128 ^ 5:=⟨_,rfl⟩
    have hA:(m:Int)+((x:Int) % 128*34359738368)=(n:Int):=by rw[hn];simp only[Nat.reducePow];omega
    have hm':m<34359738368:=hm;have hlt:n<4398046511104:=by rw[hn];simp only[Nat.reducePow];omega
    have HN:=zaa hn;clear hn hm;by_cases h128:128≤x
    ·have ht:=zaa ((zng 5 m (za HX) hk h128).symm.trans (za heq))
     go_wp2
     exact⟨⟨n,6,by omega,rfl,rfl,rfl,by simp only[Nat.reducePow];exact hlt,by rw[← za ht];rfl⟩,by simp[intOf]⟩
    ·have hxx:x % 128=x:=by omega
     rw[hxx] at HN;by_cases h0:x=0
     ·have ht:=zaa ((zc3 0 5 m (za HX) hk h0 (by decide)).symm.trans (za heq))
      go_wp2
      go_ret3
      exact⟨by rw[ze8,← za ht];rfl,rfl⟩
     ·by_cases hb:1099511627776<n
      ·have ht:=zaa ((ze7 0 5 m (za HX) hk h128 (fun h=>h0 h.1) (by rw[← za HN];exact hb)).symm.trans (za heq))
       go_wp2
       go_ret3
       exact⟨by rw[ze8,← za ht];rfl,rfl⟩
      ·have ht:=zaa ((zdk 0 5 m (za HX) hk h128 (fun h=>h0 h.1) (by rw[← za HN];exact hb)).symm.trans (za heq));rw[← za HN] at ht
       go_wp2
       all_goals (go_ret3;exact⟨by rw[ze8,← za ht];rfl,rfl⟩)
   ·have ht:=zaa (show(6,0,k+6)=zdw l k from za heq)
    go_wp2
    go_ret3
    exact⟨by rw[ze8,← za ht];rfl,rfl⟩
  ·by_cases h6:s=6
   ·subst h6;have ht:=zaa (show(6,0,k+6)=zdw l k from za heq)
    go_wp2
    go_ret3
    exact⟨by rw[ze8,← za ht];rfl,rfl⟩
   ·have ht:=zaa (show(3,0,k+s)=zdw l k by
     rw[← za heq];obtain⟨f,hf⟩:∃ f,6 - s=f+1:=⟨5 - s,by omega⟩
     rw[hf,zsw _ _ _ hk])
    go_wp2
    go_ret3
    exact⟨by rw[ze8,← za ht];rfl,rfl⟩
structure ScAt (S:Nat) (w:World) (a:Option Addr) (c:Nat) (l:List Nat) (k x:Nat):Prop where
 blk:w.heap[S]? = some (.cells #[.slice a l.length c,.int .i64 (k:Int),.int .i64 (x:Int)] 194 (0,0))
 bytes:BytesAt w a l
 low:∀ b off,0<l.length→a=some ⟨b,off,none⟩→b≠S
 le:k≤l.length
theorem ScAt.cells {S:Nat} {w:World} {a:Option Addr} {c:Nat} {l:List Nat} {k x:Nat} (h:ScAt S w a c l k x) :
  w.cell? ⟨S,0,none⟩=some (.slice a l.length c)∧w.cell? ⟨S,1,none⟩=some (.int .i64 (k:Int))∧w.cell? ⟨S,2,none⟩=some (.int .i64 (x:Int))∧w.frozen? ⟨S,1,none⟩=false∧w.frozen? ⟨S,2,none⟩=false:=by
 refine⟨?_,?_,?_,?_,?_⟩
 ·rw[cell_of_row _ _ _ _ _ _ h.blk];rfl
 ·rw[cell_of_row _ _ _ _ _ _ h.blk];rfl
 ·rw[cell_of_row _ _ _ _ _ _ h.blk];rfl
 ·simp[World.frozen?,h.blk]
 ·simp[World.frozen?,h.blk]
theorem ScAt.set {S:Nat} {w w':World} {a:Option Addr} {c:Nat} {l:List Nat} {k x k' x':Nat} (h:ScAt S w a c l k x) (hg:w.grownBy w' (some S)) (hb:w'.heap[S]? = some (.cells #[.slice a l.length c,.int .i64 (k':Int),.int .i64 (x':Int)] 194 (0,0))) (hk:k'≤l.length):ScAt S w' a c l k' x':=by
 refine⟨hb,⟨h.bytes.lt,fun i hi=>?_⟩,h.low,hk⟩;obtain⟨b,off,h1,h2⟩:=h.bytes.cell i hi;refine⟨b,off,h1,?_⟩;rw[hg.cell_far ⟨b,off+i,none⟩ (World.block_lt_of_cell? _ _ h2) (by simpa using h.low b off (by omega) h1)];exact h2
theorem ScAt.place {S:Nat} {w:World} {a:Option Addr} {c:Nat} {l:List Nat} {k x:Nat} (h:ScAt S w a c l k x) (k':Nat) (hk:k'≤l.length):ScAt S (w.setCell ⟨S,1,none⟩ (.int .i64 (k':Int))) a c l k' x:=by
 refine h.set (zaf _ _ _ _) ?_ hk;have:=heap_setCell_same w S 1 _ 194 (.int .i64 (k':Int)) h.blk
 simpa using this
theorem ScAt.fault {S:Nat} {w:World} {a:Option Addr} {c:Nat} {l:List Nat} {k x:Nat} (h:ScAt S w a c l k x) (x':Nat):ScAt S (w.setCell ⟨S,2,none⟩ (.int .i64 (x':Int))) a c l k x':=by
 refine h.set (zaf _ _ _ _) ?_ h.le;have:=heap_setCell_same w S 2 _ 194 (.int .i64 (x':Int)) h.blk
 simpa using this
theorem ScAt.drewN {S:Nat} {w:World} {a:Option Addr} {c:Nat} {l:List Nat} {k x:Nat} (h:ScAt S w a c l k x) (n:Nat):ScAt S (w.drewN n) a c l k x:=⟨h.blk,⟨h.bytes.lt,h.bytes.cell⟩,h.low,h.le⟩
theorem zc1 (S:Nat) (a:Option Addr) (c:Nat) (l:List Nat) (k y:Nat) (w:World) (h:ScAt S w a c l k 0) :
  Calls Tryz.prog 164 #[.pointer (some ⟨S,0,none⟩),.int .i64 (y:Int)] w fun e w'=>e=.returned (.tuple #[])∧ScAt S w' a c l k y∧w.grownBy w' (some S):=by
 obtain⟨c0,c1,c2,f1,f2⟩:=h.cells;have H:=zaa h;clear h;go_enter Tryz.func164,Tryz.ntmps164
 go_wp2
 go_end0
 exact⟨rfl,(za H).fault y,zaf _ _ _ _⟩
theorem zjn (a:Option Addr) (M c:Nat) (l:List Nat) (k:Nat) (kk:Int) (V:Value) (w:World) (hV:ze8 l k=V) (hM:l.length=M) (hkk:kk=(k:Int)) (hl:l.length≤140737488355328) (hk:k≤l.length) (hb:BytesAt w a l) :
  Calls Tryz.prog 131 #[.slice a M c,.int .i64 kk] w fun e w'=>e=.returned V∧w'=w:=by
 subst hV;exact zgh a M c l k kk w hM hkk hl hk hb
def zfk (l:List Nat) (least k x:Nat):Nat×Nat×Nat :=
 if x≠0 then (0,k,x) else
 match zbh l k with
 |.error y=>(0,k,y)
 |.ok (n,k2)=>if n<least then (0,k,4) else (n,k2,0)
theorem zz3 (l:List Nat):∀ (f s m k:Nat),k≤l.length→(zd6 l f s m k).2.2≤l.length:=by
 intro f;induction f with
 |zero=>intro s m k h;exact h
 |succ f ih =>
  intro s m k h;rw[zd6];split
  ·exact h
  ·repeat' split
   all_goals first|(apply ih;omega)|(show k+1≤l.length;omega)
theorem zt2 {l:List Nat} {k n k2:Nat} (h:zbh l k=.ok (n,k2)) (hk:k≤l.length):k2≤l.length:=by
 unfold zbh at h;split at h
 ·simp only[Except.ok.injEq,Prod.mk.injEq] at h;rw[← h.2];exact zz3 l 6 0 0 k hk
 ·cases h
theorem zdt (S:Nat) (a:Option Addr) (c:Nat) (l:List Nat) (least k x:Nat) (w:World) (h:ScAt S w a c l k x) (hl:l.length≤140737488355328) :
  Calls Tryz.prog 163 #[.pointer (some ⟨S,0,none⟩),.int .i64 (least:Int)] w fun e w'=>e=.returned (.int .i64 ((zfk l least k x).1:Int))∧ScAt S w' a c l (zfk l least k x).2.1 (zfk l least k x).2.2∧w.grownBy w' (some S):=by
 obtain⟨c0,c1,c2,f1,f2⟩:=h.cells;have H:=zaa h;have HL:=zaa hl;clear h hl;by_cases hx:x=0
 ·subst hx;cases ht:zbh l k with
  |error y =>
   have hy:=zc ht
   have hV:=zaa (show ze8 l k=.tuple #[.int .i64 0,.int .i64 0,.int .i64 (y:Int)] by
    unfold zbh at ht;split at ht
    ·cases ht
    ·next h0=>cases ht;rw[ze8,if_neg h0])
   have hN:=zaa (show zfk l least k 0=(0,k,y) by simp only[zfk,ht];rfl);have hy0:¬ (y:Int)=0:=by omega
   clear ht hy;go_enter Tryz.func163,Tryz.ntmps163
   go_wp2_with fail
   go_quiet ((go_at_call 131;refine Calls.quiet_of_same (zjn a l.length c l k _ _ _ (za hV) rfl rfl (za HL) (za H).le ((za H).drewN _).bytes)))
   go_wp2_with fail
   refine(zc1 S a c l k y _ ((za H).drewN _)).mono ?_;rintro e w1 ⟨rfl,hs1,hg1⟩
   go_wp2
   go_ret
   rw[za hN];exact⟨rfl,hs1,zag (za4 _ _ _) hg1⟩
  |ok p =>
   obtain⟨n,k2⟩:=p
   have hV:=zaa (show ze8 l k=.tuple #[.int .i64 (n:Int),.int .i64 (k2:Int),.int .i64 0] by
    unfold zbh at ht;split at ht
    ·next h0 =>
     simp only[Except.ok.injEq,Prod.mk.injEq] at ht;rw[ze8,if_pos h0,ht.1,ht.2]
    ·cases ht)
   have HK:=zaa (zt2 ht (za H).le);by_cases hn:n<least
   ·have hN:=zaa (show zfk l least k 0=(0,k,4) by simp only[zfk,ht,if_pos hn];rfl);clear ht;go_enter Tryz.func163,Tryz.ntmps163
    go_wp2_with fail
    go_quiet ((go_at_call 131;refine Calls.quiet_of_same (zjn a l.length c l k _ _ _ (za hV) rfl rfl (za HL) (za H).le ((za H).drewN _).bytes)))
    go_wp2_with fail
    refine(zc1 S a c l k 4 _ ((za H).drewN _)).mono ?_;rintro e w1 ⟨rfl,hs1,hg1⟩
    go_wp2
    go_ret
    rw[za hN];exact⟨rfl,hs1,zag (za4 _ _ _) hg1⟩
   ·have hN:=zaa (show zfk l least k 0=(n,k2,0) by simp only[zfk,ht,if_neg hn];rfl);clear ht;go_enter Tryz.func163,Tryz.ntmps163
    go_wp2_with fail
    go_quiet ((go_at_call 131;refine Calls.quiet_of_same (zjn a l.length c l k _ _ _ (za hV) rfl rfl (za HL) (za H).le ((za H).drewN _).bytes)))
    go_wp2
    go_ret
    rw[za hN];exact⟨rfl,((za H).drewN _).place k2 (za HK),zag (za4 _ _ _) (zaf _ _ _ _)⟩
 ·have hN:=zaa (show zfk l least k x=(0,k,x) by rw[zfk,if_pos hx]);have hx0:¬ (x:Int)=0:=by omega
  clear hx;go_enter Tryz.func163,Tryz.ntmps163
  go_wp2
  go_ret
  rw[za hN];exact⟨rfl,za H,zdf _ _⟩
def zkl (l:List Nat) (k x:Nat):Nat:=if x=0∧k<l.length then 4 else x
theorem zdj (S:Nat) (a:Option Addr) (c:Nat) (l:List Nat) (k x:Nat) (w:World) (h:ScAt S w a c l k x) :
  Calls Tryz.prog 165 #[.pointer (some ⟨S,0,none⟩)] w fun e w'=>e=.returned (.tuple #[])∧ScAt S w' a c l k (zkl l k x)∧w.grownBy w' (some S):=by
 obtain⟨c0,c1,c2,f1,f2⟩:=h.cells;have H:=zaa h;clear h;by_cases hx:x=0
 ·subst hx;by_cases hk:k<l.length
  ·have hE:=zaa (show zkl l k 0=4 by rw[zkl,if_pos ⟨rfl,hk⟩]);have hk':(k:Int)<(l.length:Int):=by omega
   go_enter Tryz.func165,Tryz.ntmps165
   go_wp2_with fail
   go_quiet (fail)
   go_wp2_with fail
   refine(zc1 S a c l k 4 _ ((za H).drewN _)).mono ?_;rintro e w1 ⟨rfl,hs1,hg1⟩
   go_wp2
   go_end0
   rw[za hE];exact⟨rfl,hs1,zag (za4 _ _ _) hg1⟩
  ·have hE:=zaa (show zkl l k 0=0 by rw[zkl,if_neg (fun h=>hk h.2)]);have hk':decide ((k:Int)<(l.length:Int))=false:=by simp;omega
   go_enter Tryz.func165,Tryz.ntmps165
   go_wp2_with fail
   go_quiet (fail)
   go_wp2
   go_end0
   rw[za hE];exact⟨rfl,(za H).drewN _,za4 _ _ _⟩
 ·have hE:=zaa (show zkl l k x=x by rw[zkl,if_neg (fun h=>hx h.1)]);have hx0:((x:Int)==0)=false:=by simp;omega
  clear hx;go_enter Tryz.func165,Tryz.ntmps165
  go_wp2_with fail
  go_quiet (fail)
  go_wp2
  go_end0
  rw[za hE];exact⟨rfl,(za H).drewN _,za4 _ _ _⟩
theorem zes (base:Nat) (sp:Option Addr) (n0 c:Nat) (l:List Nat) (n:Nat) (w:World) (hn0:l.length=n0) (hown:OwnB base w sp c l) (hl:l.length≤1099511627776) (hn:n≤1099511627776) (hbase:base≤w.heap.size) :
  Calls Tryz.prog 108 #[.slice sp n0 c,.int .i64 (n:Int)] w fun e w'=>∃ sp' n' c',e=.returned (.slice sp' n' c')∧Hid ((l++za2 n).length=n')∧OwnB base w' sp' c' (l++za2 n)∧Grew w sp w' sp':=by
 have HO:=zaa hown;have HN:=zaa hn0;have Hb:=zaa hbase;have H6:=zaa (zcd n hn);clear hown hn0 hbase;go_enter Tryz.func108,Tryz.ntmps108
 go_wp2_with fail
 refine(zgg n _ hn).mono ?_;rintro e W1 ⟨sp1,n1,c1,rfl,hn1,ho1,hb1⟩;have B1:=zaa ho1.bytes;have O1:=zaa ((za HO).later hb1);have F1:=zaa hb1
 have Z1:=zaa (show sp1=none→c1=0 by
  intro e;subst e;rcases ho1.owns.2 with⟨hv,_⟩|⟨g,cap,cur,hv,_⟩
  ·simp only[Value.slice.injEq] at hv;exact hv.2.2
  ·cases hv)
 clear ho1 hb1
 go_wp2_with (at_builtin;refine zby rfl (.tmp 12) (.tmp 13) rfl base sp n0 c l rfl (za HN) (by exact za O1) sp1 n1 c1 rfl (za2 n) (za hn1) (by exact za B1) (za Z1) (by have:=za H6;have:=za hn1;omega) (by exact Nat.le_trans (za Hb) (za F1).size) ?_;intro sp2 n2 c2 W2 hn2 ho2 hg2 hl2)
 go_ret
 exact⟨sp2,n2,c2,rfl,hn2,ho2,Grew.aside (za F1) ⟨hg2,hl2⟩⟩
theorem OwnB.drew {base:Nat} {w:World} {sp:Option Addr} {c:Nat} {l:List Nat} (h:OwnB base w sp c l):OwnB base w.drew sp c l:=⟨h.owns,h.lt⟩
theorem zAm {w W:World} {a:Option Addr} {c:Nat} {l:List Nat} {S:Nat} (hb:BytesAt w a l) (hW:Below w.heap.size w W) (hS:w.heap.size≤S) (hblk:W.heap[S]? = some (.cells #[.slice a l.length c,.int .i64 0,.int .i64 0] 194 (0,0))):ScAt S W a c l 0 0 :=
 ⟨hblk,hb.later hW,fun b off h0 e=>by have:=zfe hb h0 b off e;omega,Nat.zero_le _⟩
theorem zk {l:List Nat} {k x:Nat} (hx:x≠0):zkl l k x=x:=by rw[zkl,if_neg (fun h=>hx h.1)]
theorem zpp {l:List Nat} {k:Nat} (h:k<l.length):zkl l k 0=4:=by rw[zkl,if_pos ⟨rfl,h⟩]
theorem zwr {l:List Nat} {k:Nat} (h:¬ k<l.length):zkl l k 0=0:=by rw[zkl,if_neg (fun h'=>h h'.2)]
end
end Go.Proofs.YtofllbpfajppeaaGreatDoor
