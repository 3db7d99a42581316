/- The document's log: Append. -/
import Derived.Test.YtofllbpfajppeaaGreatDoorB32
set_option linter.unusedVariables false
set_option maxRecDepth 20000
set_option maxHeartbeats 16000000
namespace Go.Proofs.YtofllbpfajppeaaGreatDoor
open Go.ChangeShapes Go.WideShapes Go.ChangeAt Go.RowKit
theorem zxp {es:List EntI} {j:Nat} (hj:j<es.length) {l:List Nat} (h:zcl (es.take j)=.ok l):(∀ x,zi6 es[j]=.error x→zcl es=.error x)∧(∀ b,zi6 es[j]=.ok b→zcl (es.take (j+1))=.ok (l++zjw 3 b)):=by
 refine⟨fun x hx=>?_,fun b hb=>?_⟩
 ·have e:es=es.take j++es[j]::es.drop (j+1):=by rw[← List.drop_eq_getElem_cons hj,List.take_append_drop]
  rw[e];exact zqf _ _ _ l x h hx
 ·rw[List.take_succ_eq_append_getElem hj];exact zn _ _ l b h hb
theorem zkm {P:Nat→Prop} {w:World} {sp:Option Addr} {es:List EntI} (h:EntsIn P w sp es) (j:Nat) (hj:j<es.length):∃ g off dp dc,sp=some ⟨g,off,none⟩∧w.cell? ⟨g,off+j*4,none⟩=some (.int .i64 es[j].1)∧w.cell? ⟨g,off+j*4+1,none⟩=some (.int .i64 es[j].2.1)∧w.cell? ⟨g,off+j*4+2,none⟩=some (.int .i64 es[j].2.2.1)∧w.cell? ⟨g,off+j*4+3,none⟩=some (.slice dp es[j].2.2.2.length dc)∧DatIn (fun g=>P g∧g<w.heap.size) w (dp,dc) es[j].2.2.2:=by
 obtain⟨g,off,dp,dc,h0,h1,h2,h3,h4,h5,h6⟩:=h.at_.cell j hj;refine⟨g,off,dp,dc,h0,h1,h2,h3,h4,h5,h6,fun g' o e h7=>⟨?_,?_⟩⟩
 ·exact h.dat j hj g off dp dc _ h0 h4 g' o e h7
 ·obtain⟨b,o',e2,hc⟩:=h5.cell 0 h7;rw[show dp=some ⟨g',o,none⟩ from e] at e2;cases e2
  exact zg hc
theorem zvk {P:Nat→Prop} {c:Wc} {sp:Option Addr} {k xk xt xi:Nat} {dp:Option Addr} {dc:Nat} {xd:List Nat} {w:World} (hE:EntsIn P w sp (c.es.map toI)) (hxd:DatIn P w (dp,dc) xd) (xn:Nat) (hxn:xd.length=xn) (hix:Ix c) (hb:c.bi≤1099511627776) (hl:c.es.length≤1048576) (hx:xi≤1099511627776) :
  Calls Tryz.prog 70 #[.agg (zb1 c sp k),entV (xk:Int) (xt:Int) (xi:Int) dp xn dc] w (zmh P w (if zde c (xi:Int)=true then zfb c (xk,xt,xi,xd) else c) (zde c (xi:Int))):=by
 by_cases hf:zde c (xi:Int)=true
 ·rw[if_pos hf,hf];exact zqo hE hxd xn hxn hix hb hl hx hf
 ·have hf2:zde c (xi:Int)=false:=by simpa using hf
  rw[if_neg hf,hf2];exact zty hE xn hb hl hx hf2
theorem zn9 {w cur:World} (u:Below w.heap.size w cur) (o:Obj):Below w.heap.size w (cur.alloc o)∧(cur.alloc o).heap[cur.heap.size]? = some o∧w.heap.size≤cur.heap.size:=⟨u.alloc u.size o,zad cur o,u.size⟩
theorem zce {n E:Nat} {w w1 w2:World} (h:Below n w w1) (g:w1.grownBy w2 (some E)) (hE:n≤E) (hs:n≤w1.heap.size):Below n w w2:=⟨g.os.trans h.os,g.tape.trans h.tape,g.output.trans h.output,Nat.le_trans h.size g.size,fun i hi=>(g.block i (by omega) (fun e=>by have:=Option.some.inj e;omega)).trans (h.block i hi)⟩
theorem zB0 {w:World} {g:Nat} {o a b c d e f:Value} {T:TypeId} (h:w.heap[g]? = some (.cells #[o,a,b,c,d,e,f] T (0,0))) (x2 x3 x4 x5 x6:Value):∃ W,W.heap[g]? = some (.cells #[o,a,x2,x3,x4,x5,x6] T (0,0))∧w.grownBy W (some g)∧((((w.setCell ⟨g,2,none⟩ x2).setCell ⟨g,3,none⟩ x3).setCell ⟨g,4,none⟩ x4).setCell ⟨g,5,none⟩ x5).setCell ⟨g,6,none⟩ x6=W:=by
 have h1:=heap_setCell_same w g 2 _ T x2 h;have h2:=heap_setCell_same _ g 3 _ T x3 h1;have h3:=heap_setCell_same _ g 4 _ T x4 h2;have h4:=heap_setCell_same _ g 5 _ T x5 h3;have h5:=heap_setCell_same _ g 6 _ T x6 h4;exact⟨_,h5,zag (zag (zag (zag (zaf w g 2 x2) (zaf _ g 3 x3)) (zaf _ g 4 x4)) (zaf _ g 5 x5)) (zaf _ g 6 x6),rfl⟩
theorem RL.far {Fv:Nat→Prop} {w W:World} {Lr R room n E:Nat} {ss:Ds} {c:Wc} (h:RL Fv w Lr R room ss n c) (g:w.grownBy W (some E)) (h1:E≠Lr) (h2:E≠R) (h3:¬ Fv E):RL Fv W Lr R room ss n c:=by
 obtain⟨sp,k,q1,q2⟩:=h.lg;refine⟨?_,h.ne,h.nL,h.nR,⟨sp,k,(g.block Lr h.ltL (fun e=>h1 (Option.some.inj e).symm)).trans q1,(q2.both.same (fun x hx=>g.block x hx.2 (fun e=>?_))).sub (fun x hx=>hx.1)⟩,h.ok,h.ix,h.le,h.nn⟩
 ·obtain⟨sp',c',rs,r1,r2,r3⟩:=h.dk;refine⟨sp',c',rs,r1.same (g.block R h.dk.ltR (fun e=>h2 (Option.some.inj e).symm)) (fun x hx=>g.block x (r1.own.lt hx).2 (fun e=>?_)),r2,r3⟩;have e2:=Option.some.inj e;have z:=r3 x hx;rw[e2] at z;exact h3 z
 ·have e2:=Option.some.inj e;have z:=hx.1;rw[e2] at z;exact h3 z
section
variable {Fv P:Nat→Prop} {w w':World} {Lr R room n:Nat} {ss:Ds} {c:Wc}
theorem zvf (h:RL Fv w Lr R room ss n c) (hF:∀ g,Fv g→g<w.heap.size) (hc:zht 300 ss) (hn1:n+1<1099511627776) (a:Option Addr) (m k:Nat) (es:List EntI) (hm:es.length=m) (hml:m≤100000) (hle:c.es.length+m≤1000000) (hE:EntsIn P w a es) (hP:∀ g,P g→g≠R∧g≠Lr) :
  Calls Tryz.prog 30 #[.pointer (some ⟨Lr,0,none⟩),.slice a m k] w (zc7 Fv w Lr R room (zjl room n c es ss)):=by
 have HH:=zaa h;have HF:=zaa hF;have FEW:=zaa hc;have HM:=zaa hm;have HEW:=zaa hE;have HP:=zaa hP;have HE:=zaa (fun V (u:Below w.heap.size w V)=>hE.both.later u)
 have RA:=zaa (show zjl room n c es ss=(match zcl es with
 |.error x=>(x,ss,c,n)
 |.ok b =>
  if zcn c es=false then (2,ss,c,n)
  else if es.length=0 then (0,ss,c,n)
  else if (zdp room n c b ss).1≠0 then ((zdp room n c b ss).1,(zdp room n c b ss).2.1,c,(zdp room n c b ss).2.2)
  else (0,(zdp room n c b ss).2.1,zbk c es,(zdp room n c b ss).2.2)) from rfl)
 generalize zjl room n c es ss=RR at *;have B0:=zaa (show Below w.heap.size w (w.alloc (.cells #[] 5)) from(Below.refl _ _).alloc (Nat.le_refl _) _);have O0:=zaa (OwnB.empty w w.heap.size (Nat.le_refl _))
 have LEN:=zaa (show ∀ j l,zcl (es.take j)=.ok l→l.length≤210000000 from fun j l hl=>by
  have h1:=zk6 hl;have h2:(es.take j).length≤100000:=by rw[List.length_take];omega
  omega)
 clear h hc hm hE hP hF;go_enter Tryz.func30,Tryz.ntmps30
 go_wp2_with fail
 go_loopw [5,6] (fun v i wr=>∃ (j:Nat) (q:Option Addr) (y z:Nat) (l:List Nat),j≤m∧i=.int .i64 (j:Int)∧v=.slice q y z∧Hid (zcl (es.take j)=.ok l)∧Hid (l.length=y)∧Hid (OwnB w.heap.size wr q z l)∧Hid (Below w.heap.size w wr)) (fun _ i _=>m - (intOf i).toNat)
 case atStart=>exact⟨0,_,0,0,[],by omega,rfl,rfl,zaa rfl,zaa rfl,O0,B0⟩
 case round =>
  obtain⟨j,q,y,z,l,hj,rfl,rfl,HR,HL,HO,HA⟩:=hrel;by_cases hje:j<m
  ·as_aux_lemma =>
   have hjl:j<es.length:=by rw[za HM];exact hje
   have y0:(0:Int)≤(j:Int):=by omega
   have y1:(j:Int)<(m:Int):=by omega
   obtain⟨g,off,dp,dc,hsp,p0,p1,p2,p3,pd⟩:=zkm (za HE wr (za HA)) j hjl;subst hsp;obtain⟨r1,r2⟩:=zxp hjl (za HR);have R1:=zaa r1;have R2:=zaa r2;have PC:=zaa (zsk es[j] dp es[j].2.2.2.length dc wr rfl pd.by_ pd.z);clear r1 r2 pd;generalize zi6 es[j]=pe at *;generalize es[j]=x at *;obtain⟨ek,et,ei,ed⟩:=x;dsimp only at *;generalize ed.length=dn at *;cases pe with
   |error x =>
    have RX:=zaa (za R1 x rfl);rw[za RX] at RA;dsimp only at RA PC
    go_wp2_with fail
    clear p0 p1 p2 p3;go_at_call 68
    refine(za PC).mono ?_;rintro e V ⟨v,hx,rfl⟩
    have FF:=zaa (show zc7 Fv w Lr R room RR (.returned (.int .i64 (x:Int))) V from by
     rw[za RA]
     exact(za HH).stay ((za HA).trans (v.mono (za HA).size)) (x:=x))
    have y3:¬ (x:Int)=0:=by omega
    have y4:((x:Int)==0)=false:=by simp;omega
    clear v hx
    go_wp2_with fail
    go_ret
    exact za FF
   |ok b =>
    have RX:=zaa (za R2 b rfl);have LX:=zaa (za LEN (j+1) _ (za RX));dsimp only at PC
    go_wp2_with fail
    clear p0 p1 p2 p3;go_at_call 68
    refine(za PC).mono ?_;rintro e V10 ⟨vx,sx,nx,cx,rfl,hnx,bx,hb0,hb1⟩;have RC:=zaa (zf4 3 sx nx cx b V10 (by omega) (za hnx) bx (zi8 bx hb0) (by have:=za hnx;omega));have UX:=zaa vx;clear bx vx PC hb0 hb1
    go_wp2_with fail
    go_at_call 69
    refine(za RC).mono ?_;rintro e V11 ⟨sy,ny,cy,rfl,hny,oy,vy⟩;have UY:=zaa ((za UX).trans (vy.mono (za UX).size));have HO2:=zaa ((za HO).later (za UY));have YY:=zaa oy.bytes;have ZY:=zaa oy.toBx.nil0;have HA2:=zaa ((za HA).trans ((za UY).mono (za HA).size))
    have LS2:=zaa (show l.length+ny≤140737488355328 by
     have h1:=za LX;rw[List.length_append,za hny] at h1
     omega)
    clear oy vy RC
    go_wp2_with (at_builtin;refine za ?_)
    refine zaa ?_;refine zas rfl (.tmp 34) (.tmp 36) rfl w.heap.size q y z l rfl (za HL) (by exact za HO2) sy ny cy rfl (zjw 3 b) (za hny) (by exact za YY) (za ZY) (za LS2) (by exact(za HA2).size) ?_;intro s12 n12 c12 V12 hn12 ho12 hg12 hb12;have O12:=zaa ho12;have HA3:=zaa ((za HA2).trans hb12);clear ho12 hg12 hb12
    go_wp2_with fail
    exact⟨⟨j+1,s12,n12,c12,l++zjw 3 b,by omega,by go_num,rfl,RX,hn12,O12,HA3⟩,by simp[intOf];omega⟩
  ·as_aux_lemma =>
   have y1:¬ (j:Int)<(m:Int):=by omega
   have RX:=zaa (show zcl es=.ok l from by have h9:=za HR;rw[List.take_of_length_le (by rw[za HM];omega)] at h9;exact h9);rw[za RX] at RA;dsimp only at RA;have RALL:=zaa (zh (za RX));obtain⟨sp0,kk0,h1,h2⟩:=(za HH).lg;have x2:wr.cell? ⟨Lr,2,none⟩=some (.int .i64 (c.bi:Int)):=zab (zac (za HA) h1) 2 _ rfl;have x3:wr.cell? ⟨Lr,3,none⟩=some (.int .i64 (c.bt:Int)):=zab (zac (za HA) h1) 3 _ rfl;have x4:wr.cell? ⟨Lr,4,none⟩=some (.int .i64 (c.ht:Int)):=zab (zac (za HA) h1) 4 _ rfl;have x5:wr.cell? ⟨Lr,5,none⟩=some (.int .i64 (c.hv:Int)):=zab (zac (za HA) h1) 5 _ rfl;have x6:wr.cell? ⟨Lr,6,none⟩=some (.slice sp0 c.es.length kk0):=zab (zac (za HA) h1) 6 _ rfl;have E0:=zaa (h2.both.later (za HA));have B1:=zaa (show Below wr.heap.size wr (wr.alloc (.cells #[.int .i64 (c.bi:Int),.int .i64 (c.bt:Int),.int .i64 (c.ht:Int),.int .i64 (c.hv:Int),.slice sp0 c.es.length kk0] 51)) from(Below.refl _ _).alloc (Nat.le_refl _) _);have X1:=zaa (zad wr (.cells #[.int .i64 (c.bi:Int),.int .i64 (c.bt:Int),.int .i64 (c.ht:Int),.int .i64 (c.hv:Int),.slice sp0 c.es.length kk0] 51));have WZ:=zaa (show w.heap.size≤wr.heap.size from(za HA).size);clear h1 h2
   go_wp2_with fail
   clear x2 x3 x4 x5 x6;have S1:=zaa (show wr.heap.size<(wr.alloc (.cells #[.int .i64 (c.bi:Int),.int .i64 (c.bt:Int),.int .i64 (c.ht:Int),.int .i64 (c.hv:Int),.slice sp0 c.es.length kk0] 51)).heap.size by simp);generalize wr.alloc _=W1 at *;have E1:=zaa (((za E0).later (za B1)).sub (Q:=fun g=>g≠wr.heap.size∧(Fv g∨P g∨wr.heap.size≤g)) (fun g hg=>⟨by have:=za WZ;omega,.inl hg.1⟩));clear E0;generalize hEE:wr.heap.size=E at *;have HEE:=zaa hEE;clear hEE;obtain⟨V0,hV0⟩:∃ V0,V0=wr:=⟨_,rfl⟩
   subst hV0;go_loopw [10] (fun i wq=>∃ (j:Nat) (sp:Option Addr) (kk:Nat),j≤m∧i=.int .i64 (j:Int)∧Hid (wq.heap[E]? = some (.cells (zb1 (zbk c (es.take j)) sp kk) 51 (0,0)))∧Hid (EntsIn (fun g=>g≠E∧(Fv g∨P g∨E≤g)) wq sp ((zbk c (es.take j)).es.map toI))∧Hid (Below E V0 wq)∧Hid (Ix (zbk c (es.take j)))∧Hid (∀ i hi,i<j→zu4 c es i hi)) (fun i _=>m - (intOf i).toNat)
   case atStart=>exact⟨0,sp0,kk0,by omega,rfl,X1,E1,B1,zaa (za HH).ix,zaa (fun i hi h=>absurd h (by omega))⟩
   case round =>
    obtain⟨j2,sp,kk,hj2,rfl,XE,EN,HB,HIX,HG⟩:=hrel;have BW:=zaa ((za HA).trans ((za HB).mono (za WZ)));by_cases hje2:j2<m
    ·have hjl:j2<es.length:=by rw[za HM];exact hje2
     have z0:(0:Int)≤(j2:Int):=by omega
     have z1:(j2:Int)<(m:Int):=by omega
     have hq:=za RALL _ (List.getElem_mem hjl)
     have FB:=zaa (show ¬ zu4 c es j2 hjl→∀ V,Below w.heap.size w V→zc7 Fv w Lr R room RR (.returned (.int .i64 2)) V from fun hng V u=>by
      have hf:zcn c es=false:=by
       rcases Bool.eq_false_or_eq_true (zcn c es) with q|q
       ·exact absurd (zyr q (fun e he=>by
         have h5:=za RALL e he;rw[← h5.1];have h6:=h5.2.2.2.1.1;show(1:Int)≤((toN e).2.2.1:Int)
         omega) j2 hjl) hng
       ·exact q
      rw[za RA,if_pos hf]
      exact(za HH).stay u (x:=2))
     have AT:=zaa (zf7 c es j2 hjl)
     have GD:=zaa (show(∀ i (hi:i<es.length),j2=i+1→es[j2].2.2.1 - 1=es[i].2.2.1)→zde (zbk c (es.take j2)) es[j2].2.2.1=true→∀ i hi,i<j2+1→zu4 c es i hi from fun q1 q2 i hi h=>by
      rcases Nat.lt_or_ge i j2 with q|q
      ·exact za HG i hi q
      ·have:i=j2:=by omega
       subst this
       exact⟨q1,q2⟩)
     have GN:=zaa (show(zde (zbk c (es.take j2)) es[j2].2.2.1≠true∨∃ i,∃ (hi:i<es.length),j2=i+1∧es[j2].2.2.1 - 1≠es[i].2.2.1)→¬ zu4 c es j2 hjl from fun q gd=>by
      rcases q with q|⟨i,hi,q1,q2⟩
      ·exact q gd.2
      ·exact q2 (gd.1 i hi q1))
     obtain⟨g,off,dp,dc,hsp,p0,p1,p2,p3,pd⟩:=zkm (za HE wr (za BW)) j2 hjl
     have PV:=zaa (show ∀ i (hi:i<es.length),wr.cell? ⟨g,off+i*4+2,none⟩=some (.int .i64 es[i].2.2.1)∧1≤es[i].2.2.1∧es[i].2.2.1≤1099511627776 from fun i hi=>by
      obtain⟨g',off',dp',dc',hsp',_,_,p2',_,_⟩:=zkm (za HE wr (za BW)) i hi;rw[hsp] at hsp';cases hsp'
      have h5:=za RALL _ (List.getElem_mem hi);have h6:=h5.2.2.2.1;have h7:es[i].2.2.1=((toN es[i]).2.2.1:Int):=by
       have h8:=congrArg (fun e:EntI=>e.2.2.1) h5.1;exact h8.symm
      exact⟨p2',by omega,by omega⟩)
     subst hsp;have PD:=zaa pd;obtain⟨xe,hxe,hok,hto⟩:∃ xe:EntN,toI xe=es[j2]∧EOk xe∧toN es[j2]=xe:=⟨toN es[j2],hq.1,hq.2,rfl⟩
     rw[hto] at AT;clear hto hq pd;generalize es[j2]=x at *;subst hxe;obtain⟨xk,xt,xi,xd⟩:=xe;dsimp only[toI] at *;obtain⟨⟨a1,a2⟩,⟨b1,b2⟩,⟨e1,e2⟩,d1,d2⟩:=hok;dsimp only at a1 a2 b1 b2 e1 e2 d1 d2;have hcb:(zbk c (es.take j2)).bi≤1099511627776:=by rw[(zgr c (es.take j2)).1];exact(za HH).ok.bi
     have hcl:(zbk c (es.take j2)).es.length≤1000000:=by
      have h5:=zhg c (es.take j2);rw[List.length_take] at h5;omega
     generalize zbk c (es.take j2)=c' at *;have hw1:IntKind.i64.wrap ((xi:Int) - 1)=(xi:Int) - 1:=by rw[IntKind.wrap_i64];omega
     generalize hxd:xd.length=xn at *;have HXD:=zaa hxd;clear hxd d1;have XS:=zaa (show ∀ V,Below wr.heap.size wr V→V.cell? ⟨E,0,none⟩=some (.int .i64 (c'.bi:Int))∧V.cell? ⟨E,1,none⟩=some (.int .i64 (c'.bt:Int))∧V.cell? ⟨E,2,none⟩=some (.int .i64 (c'.ht:Int))∧V.cell? ⟨E,3,none⟩=some (.int .i64 (c'.hv:Int))∧V.cell? ⟨E,4,none⟩=some (.slice sp c'.es.length kk)∧V.cell? ⟨g,off+j2*4,none⟩=some (.int .i64 (xk:Int))∧V.cell? ⟨g,off+j2*4+1,none⟩=some (.int .i64 (xt:Int))∧V.cell? ⟨g,off+j2*4+2,none⟩=some (.int .i64 (xi:Int))∧V.cell? ⟨g,off+j2*4+3,none⟩=some (.slice dp xn dc) from fun V u=>⟨zab (zac u (za XE)) 0 _ rfl,zab (zac u (za XE)) 1 _ rfl,zab (zac u (za XE)) 2 _ rfl,zab (zac u (za XE)) 3 _ rfl,zab (zac u (za XE)) 4 _ rfl,cell_later u p0,cell_later u p1,cell_later u p2,cell_later u p3⟩);have ELT:=zaa (show E<wr.heap.size from(Array.getElem?_eq_some_iff.1 (za XE)).1);obtain⟨ok,hokk⟩:∃ ok,zde c' (xi:Int)=ok:=⟨_,rfl⟩
     obtain⟨c2,hc2⟩:∃ c2,(if ok=true then zfb c' (xk,xt,xi,xd) else c')=c2:=⟨_,rfl⟩
     have FC:=zaa (show ∀ V,Below wr.heap.size wr V→Calls Tryz.prog 70 #[.agg #[.int .i64 (c'.bi:Int),.int .i64 (c'.bt:Int),.int .i64 (c'.ht:Int),.int .i64 (c'.hv:Int),.slice sp c'.es.length kk],.agg #[.int .i64 (xk:Int),.int .i64 (xt:Int),.int .i64 (xi:Int),.slice dp xn dc]] V (zmh (fun g=>(g≠E∧(Fv g∨P g∨E≤g))∧g<wr.heap.size) V c2 ok) from fun V u=>by
      have hf:=zvk (k:=kk) (xk:=xk) (xt:=xt) (xi:=xi) (dp:=dp) (dc:=dc) (xd:=xd) ((za EN).both.later u) ⟨(za PD).by_.later u,(za PD).z,fun g o e h0=>⟨⟨by have h5:=((za PD).p g o e h0).1.2;have h6:=za WZ;omega,.inr (.inl ((za PD).p g o e h0).1.1)⟩,((za PD).p g o e h0).2⟩⟩ xn (za HXD) (za HIX) hcb (by omega) e2;rw[hokk,hc2] at hf
      exact hf)
     have HOK:=zaa hokk;have HC2:=zaa hc2;obtain⟨cn,hcn⟩:∃ cn,c'.es.length=cn:=⟨_,rfl⟩
     rw[hcn] at XS FC hcl;have HCN:=zaa hcn;clear hokk hc2 hcn;have KEY:(¬ 0<j2)∨(∃ i,∃ (hi:i<es.length),j2=i+1∧(xi:Int) - 1=es[i].2.2.1)∨(∃ i,∃ (hi:i<es.length),j2=i+1∧(xi:Int) - 1≠es[i].2.2.1):=by
      by_cases q:0<j2
      ·by_cases q2:(xi:Int) - 1=(es[j2 - 1]'(by omega)).2.2.1
       ·exact .inr (.inl ⟨j2 - 1,by omega,by omega,q2⟩)
       ·exact .inr (.inr ⟨j2 - 1,by omega,by omega,q2⟩)
      ·exact .inl q
     rcases KEY with hz|⟨i,hi,hji,hch⟩|⟨i,hi,hji,hch⟩
     ·as_aux_lemma =>
      have CH:=zaa (show ∀ i (hi:i<es.length),j2=i+1→(xi:Int) - 1=es[i].2.2.1 from fun i hi h=>absurd h (by omega));have y2:¬ (0:Int)<(j2:Int):=by omega
      go_wp2_with fail
      go_quiet (fail)
      have UB:=zaa (_root_.Go.below_drewN (Below.refl wr.heap.size wr) nq);generalize wr.drewN nq=WQ at *;clear p0 p1 p2 p3 PV
      go_wp2_with fail
      have U:=zaa ((za UB).drew);refine wp_region_held_drew (S:=fun u=>u.cell? ⟨E,0,none⟩=some (.int .i64 (c'.bi:Int))∧u.cell? ⟨E,1,none⟩=some (.int .i64 (c'.bt:Int))∧u.cell? ⟨E,2,none⟩=some (.int .i64 (c'.ht:Int))∧u.cell? ⟨E,3,none⟩=some (.int .i64 (c'.hv:Int))∧u.cell? ⟨E,4,none⟩=some (.slice sp cn kk)∧u.cell? ⟨g,off+j2*4,none⟩=some (.int .i64 (xk:Int))∧u.cell? ⟨g,off+j2*4+1,none⟩=some (.int .i64 (xt:Int))∧u.cell? ⟨g,off+j2*4+2,none⟩=some (.int .i64 (xi:Int))∧u.cell? ⟨g,off+j2*4+3,none⟩=some (.slice dp xn dc)) (by kernel_rfl) ?_ (fun hHeld=>?_)
      ·try dsimp only
       exact za XS _ (za U)
      refine hT 0 ?_;refine hT 1 ?_;refine hT 2 ?_;refine hT 3 ?_;refine hT 4 ?_;refine wpAnyH_ready (rs:=[5,9]) (by kernel_rfl) (by simp) ?_;refine AllReadyH.cons rfl (fun K hK=>?_) ?_
      ·try generalize WQ.drew=WD at *
       go_simp
       refine(za FC _ (za U)).mono ?_;rintro e V ⟨v,sq,kq,rfl,hq⟩;first
        |(have EN3:=zaa (hq.sub (Q:=fun g=>(g≠E∧(Fv g∨P g∨E≤g))∧g≠F) (fun g hg=>by
          have h5:=za ELT;have h6:=(za U).size;have h7:=za SF;have h8:=(Array.getElem?_eq_some_iff.1 (za XF)).1;rcases hg with hg|hg
          ·exact⟨hg.1,by omega⟩
          ·exact⟨⟨by omega,.inr (.inr (by omega))⟩,by omega⟩));have XF:=zaa (zac v (za XF)))
        |(have EN3:=zaa (hq.sub (Q:=fun g=>(g≠E∧(Fv g∨P g∨E≤g))∧g<V.heap.size) (fun g hg=>by
          have h5:=za ELT;have h6:=(za U).size;have h7:=v.size;rcases hg with hg|hg
          ·exact⟨hg.1,by omega⟩
          ·exact⟨⟨by omega,.inr (.inr (by omega))⟩,by omega⟩)))
       have U:=zaa ((za U).trans (v.mono (za U).size));unfold zb1;clear v hq
       go_wp2_with fail
       refine hK.out _ _ ?_ (fun hHeld=>?_)
       ·try dsimp only
        exact za XS _ (za U)
       clear hK K;refine hP ?_;refine hT 6 ?_;refine hT 7 ?_;refine hT 8 ?_;refine wpAnyH_ready (rs:=[9]) (by kernel_rfl) (by simp) ?_;refine AllReadyH.cons rfl (fun K hK=>?_) ?_
       ·try generalize WQ.drew=WD at *
        go_simp
        obtain⟨u9,x9,s9⟩:=zn9 (za U) (.cells #[.int .i64 0,.int .i64 0,.int .i64 0,.int .i64 0,.slice none 0 0] 51);try have EN3:=zaa ((za EN3).later ((Below.refl _ _).alloc (Nat.le_refl _) (.cells #[.int .i64 0,.int .i64 0,.int .i64 0,.int .i64 0,.slice none 0 0] 51)))
        generalize World.alloc _ (.cells #[.int .i64 0,.int .i64 0,.int .i64 0,.int .i64 0,.slice none 0 0] 51)=V9 at *;first
         |(generalize hF:V.heap.size=F at *;have EN3:=zaa ((za EN3).sub (Q:=fun g=>(g≠E∧(Fv g∨P g∨E≤g))∧g≠F) (fun g hg=>⟨hg.1,by have:=hg.2;omega⟩)))
         |(generalize hF:WD.heap.size=F at *)
        have U:=zaa u9;have XF:=zaa x9;have SF:=zaa s9;clear u9 x9 s9 hF;refine hK.out _ _ ?_ (fun hHeld=>?_)
        ·try dsimp only
         exact za XS _ (za U)
        clear hK K;refine hP ?_;refine wpAnyH_ready (rs:=[10]) (by kernel_rfl) (by simp) ?_;refine AllReadyH.cons rfl (fun K hK=>?_) ?_
        ·obtain⟨W,hr,gW,hW⟩:=zbo (za XF) (.int .i64 (c2.bi:Int)) (.int .i64 (c2.bt:Int)) (.int .i64 (c2.ht:Int)) (.int .i64 (c2.hv:Int)) (.slice sq c2.es.length kq);have HW:=zaa hW;have EN4:=zaa (((za EN3).both.same (fun g hg=>gW.block g hg.2 (fun e=>hg.1.2 (Option.some.inj e)))).sub (Q:=fun g=>g≠E∧(Fv g∨P g∨E≤g)) (fun g hg=>hg.1.1));have z0:=zab (za XF) 0 _ rfl;have z1:=zab (za XF) 1 _ rfl;have z2:=zab (za XF) 2 _ rfl;have z3:=zab (za XF) 3 _ rfl;have z4:=zab (za XF) 4 _ rfl;have f0:=zae (za XF) 0;have f1:=zae (za XF) 1;have f2:=zae (za XF) 2;have f3:=zae (za XF) 3;have f4:=zae (za XF) 4;have XW:=zaa hr;have UW:=zaa (zce (za U) gW (za SF) (za U).size);clear hr hW gW;go_simp
         rw[za HW];have U:=zaa (za UW);clear z0 z1 z2 z3 z4 f0 f1 f2 f3 f4 UW XF EN3;refine hK.out _ _ ?_ (fun hHeld=>?_)
         ·try dsimp only
          exact za XS _ (za U)
         clear hK K;refine hP ?_;refine hT 11 ?_;refine wpAnyH_done (by kernel_rfl) ?_ _
         as_aux_lemma =>
         have BV:=zaa ((za BW).trans ((za U).mono (za BW).size));clear HCN XS FC;cases ok with
         |false =>
          have FF:=zaa (za FB (za GN (.inl (by rw[za HOK];decide))) W (za BV))
          go_wp2_with fail
          go_ret
          exact za FF
         |true =>
          have AT2:=zaa (show zbk c (es.take (j2+1))=c2 from by
           have h5:=za HC2;rw[if_pos rfl] at h5
           rw[za AT,h5])
          have IX2:=zaa (show Ix c2 from by
           have h5:=za HC2;rw[if_pos rfl] at h5;have h6:=za HOK;unfold zde at h6;rw[Bool.and_eq_true,decide_eq_true_eq,decide_eq_true_eq] at h6;rw[← h5]
           exact Ix.add (za HIX) (by dsimp only;omega) (by dsimp only;omega))
          have XEW:=zaa (zac (za U) (za XE));unfold zb1 at XEW;obtain⟨W2,hr2,gW2,hW2⟩:=zbo (za XEW) (.int .i64 (c2.bi:Int)) (.int .i64 (c2.bt:Int)) (.int .i64 (c2.ht:Int)) (.int .i64 (c2.hv:Int)) (.slice sq c2.es.length kq);have HW2:=zaa hW2;have EN5:=zaa (((za EN4).both.same (fun g hg=>gW2.block g hg.2 (fun e=>hg.1.1 (Option.some.inj e)))).sub (Q:=fun g=>g≠E∧(Fv g∨P g∨E≤g)) (fun g hg=>hg.1));have HB5:=zaa (zce ((za HB).trans ((za U).mono (by have:=za ELT;omega))) gW2 (Nat.le_refl _) (by have:=za ELT;have:=(za U).size;omega));have XE5:=zaa (show W2.heap[E]? = some (.cells (zb1 c2 sq kq) 51 (0,0)) from hr2);rw[← za AT2] at EN5 XE5 IX2;have G5:=zaa (za GD (za CH) (za HOK));have z0:=zab (za XEW) 0 _ rfl;have z1:=zab (za XEW) 1 _ rfl;have z2:=zab (za XEW) 2 _ rfl;have z3:=zab (za XEW) 3 _ rfl;have z4:=zab (za XEW) 4 _ rfl;have f0:=zae (za XEW) 0;have f1:=zae (za XEW) 1;have f2:=zae (za XEW) 2;have f3:=zae (za XEW) 3;have f4:=zae (za XEW) 4;have u0:=zab (za XW) 0 _ rfl;have u1:=zab (za XW) 1 _ rfl;have u2:=zab (za XW) 2 _ rfl;have u3:=zab (za XW) 3 _ rfl;have u4:=zab (za XW) 4 _ rfl;clear hr2 gW2 hW2
          go_wp2_with fail
          rw[za HW2];exact⟨⟨j2+1,sq,kq,by omega,by go_num,XE5,EN5,HB5,IX2,G5⟩,by simp[intOf];omega⟩
        exact AllReadyH.nil
       exact AllReadyH.nil
      refine AllReadyH.cons rfl (fun K hK=>?_) ?_
      ·try generalize WQ.drew=WD at *
       go_simp
       obtain⟨u9,x9,s9⟩:=zn9 (za U) (.cells #[.int .i64 0,.int .i64 0,.int .i64 0,.int .i64 0,.slice none 0 0] 51);try have EN3:=zaa ((za EN3).later ((Below.refl _ _).alloc (Nat.le_refl _) (.cells #[.int .i64 0,.int .i64 0,.int .i64 0,.int .i64 0,.slice none 0 0] 51)))
       generalize World.alloc _ (.cells #[.int .i64 0,.int .i64 0,.int .i64 0,.int .i64 0,.slice none 0 0] 51)=V9 at *;first
        |(generalize hF:V.heap.size=F at *;have EN3:=zaa ((za EN3).sub (Q:=fun g=>(g≠E∧(Fv g∨P g∨E≤g))∧g≠F) (fun g hg=>⟨hg.1,by have:=hg.2;omega⟩)))
        |(generalize hF:WD.heap.size=F at *)
       have U:=zaa u9;have XF:=zaa x9;have SF:=zaa s9;clear u9 x9 s9 hF;refine hK.out _ _ ?_ (fun hHeld=>?_)
       ·try dsimp only
        exact za XS _ (za U)
       clear hK K;refine hP ?_;refine wpAnyH_ready (rs:=[5]) (by kernel_rfl) (by simp) ?_;refine AllReadyH.cons rfl (fun K hK=>?_) ?_
       ·try generalize WQ.drew=WD at *
        go_simp
        refine(za FC _ (za U)).mono ?_;rintro e V ⟨v,sq,kq,rfl,hq⟩;first
         |(have EN3:=zaa (hq.sub (Q:=fun g=>(g≠E∧(Fv g∨P g∨E≤g))∧g≠F) (fun g hg=>by
           have h5:=za ELT;have h6:=(za U).size;have h7:=za SF;have h8:=(Array.getElem?_eq_some_iff.1 (za XF)).1;rcases hg with hg|hg
           ·exact⟨hg.1,by omega⟩
           ·exact⟨⟨by omega,.inr (.inr (by omega))⟩,by omega⟩));have XF:=zaa (zac v (za XF)))
         |(have EN3:=zaa (hq.sub (Q:=fun g=>(g≠E∧(Fv g∨P g∨E≤g))∧g<V.heap.size) (fun g hg=>by
           have h5:=za ELT;have h6:=(za U).size;have h7:=v.size;rcases hg with hg|hg
           ·exact⟨hg.1,by omega⟩
           ·exact⟨⟨by omega,.inr (.inr (by omega))⟩,by omega⟩)))
        have U:=zaa ((za U).trans (v.mono (za U).size));unfold zb1;clear v hq
        go_wp2_with fail
        refine hK.out _ _ ?_ (fun hHeld=>?_)
        ·try dsimp only
         exact za XS _ (za U)
        clear hK K;refine hP ?_;refine hT 6 ?_;refine hT 7 ?_;refine hT 8 ?_;refine wpAnyH_ready (rs:=[10]) (by kernel_rfl) (by simp) ?_;refine AllReadyH.cons rfl (fun K hK=>?_) ?_
        ·obtain⟨W,hr,gW,hW⟩:=zbo (za XF) (.int .i64 (c2.bi:Int)) (.int .i64 (c2.bt:Int)) (.int .i64 (c2.ht:Int)) (.int .i64 (c2.hv:Int)) (.slice sq c2.es.length kq);have HW:=zaa hW;have EN4:=zaa (((za EN3).both.same (fun g hg=>gW.block g hg.2 (fun e=>hg.1.2 (Option.some.inj e)))).sub (Q:=fun g=>g≠E∧(Fv g∨P g∨E≤g)) (fun g hg=>hg.1.1));have z0:=zab (za XF) 0 _ rfl;have z1:=zab (za XF) 1 _ rfl;have z2:=zab (za XF) 2 _ rfl;have z3:=zab (za XF) 3 _ rfl;have z4:=zab (za XF) 4 _ rfl;have f0:=zae (za XF) 0;have f1:=zae (za XF) 1;have f2:=zae (za XF) 2;have f3:=zae (za XF) 3;have f4:=zae (za XF) 4;have XW:=zaa hr;have UW:=zaa (zce (za U) gW (za SF) (za U).size);clear hr hW gW;go_simp
         rw[za HW];have U:=zaa (za UW);clear z0 z1 z2 z3 z4 f0 f1 f2 f3 f4 UW XF EN3;refine hK.out _ _ ?_ (fun hHeld=>?_)
         ·try dsimp only
          exact za XS _ (za U)
         clear hK K;refine hP ?_;refine hT 11 ?_;refine wpAnyH_done (by kernel_rfl) ?_ _
         as_aux_lemma =>
         have BV:=zaa ((za BW).trans ((za U).mono (za BW).size));clear HCN XS FC;cases ok with
         |false =>
          have FF:=zaa (za FB (za GN (.inl (by rw[za HOK];decide))) W (za BV))
          go_wp2_with fail
          go_ret
          exact za FF
         |true =>
          have AT2:=zaa (show zbk c (es.take (j2+1))=c2 from by
           have h5:=za HC2;rw[if_pos rfl] at h5
           rw[za AT,h5])
          have IX2:=zaa (show Ix c2 from by
           have h5:=za HC2;rw[if_pos rfl] at h5;have h6:=za HOK;unfold zde at h6;rw[Bool.and_eq_true,decide_eq_true_eq,decide_eq_true_eq] at h6;rw[← h5]
           exact Ix.add (za HIX) (by dsimp only;omega) (by dsimp only;omega))
          have XEW:=zaa (zac (za U) (za XE));unfold zb1 at XEW;obtain⟨W2,hr2,gW2,hW2⟩:=zbo (za XEW) (.int .i64 (c2.bi:Int)) (.int .i64 (c2.bt:Int)) (.int .i64 (c2.ht:Int)) (.int .i64 (c2.hv:Int)) (.slice sq c2.es.length kq);have HW2:=zaa hW2;have EN5:=zaa (((za EN4).both.same (fun g hg=>gW2.block g hg.2 (fun e=>hg.1.1 (Option.some.inj e)))).sub (Q:=fun g=>g≠E∧(Fv g∨P g∨E≤g)) (fun g hg=>hg.1));have HB5:=zaa (zce ((za HB).trans ((za U).mono (by have:=za ELT;omega))) gW2 (Nat.le_refl _) (by have:=za ELT;have:=(za U).size;omega));have XE5:=zaa (show W2.heap[E]? = some (.cells (zb1 c2 sq kq) 51 (0,0)) from hr2);rw[← za AT2] at EN5 XE5 IX2;have G5:=zaa (za GD (za CH) (za HOK));have z0:=zab (za XEW) 0 _ rfl;have z1:=zab (za XEW) 1 _ rfl;have z2:=zab (za XEW) 2 _ rfl;have z3:=zab (za XEW) 3 _ rfl;have z4:=zab (za XEW) 4 _ rfl;have f0:=zae (za XEW) 0;have f1:=zae (za XEW) 1;have f2:=zae (za XEW) 2;have f3:=zae (za XEW) 3;have f4:=zae (za XEW) 4;have u0:=zab (za XW) 0 _ rfl;have u1:=zab (za XW) 1 _ rfl;have u2:=zab (za XW) 2 _ rfl;have u3:=zab (za XW) 3 _ rfl;have u4:=zab (za XW) 4 _ rfl;clear hr2 gW2 hW2
          go_wp2_with fail
          rw[za HW2];exact⟨⟨j2+1,sq,kq,by omega,by go_num,XE5,EN5,HB5,IX2,G5⟩,by simp[intOf];omega⟩
        exact AllReadyH.nil
       exact AllReadyH.nil
      exact AllReadyH.nil
     ·as_aux_lemma =>
      have CH:=zaa (show ∀ i (hi:i<es.length),j2=i+1→(xi:Int) - 1=es[i].2.2.1 from fun i' hi' h=>by
       have:i'=i:=by omega
       subst this
       exact hch)
      obtain⟨v2,v3,v4⟩:=za PV i hi;generalize (es[i]).2.2.1=pi at *;have y2:(0:Int)<(j2:Int):=by omega
      have y3:0<j2:=by omega
      have y4:(j2:Int) - 1=(i:Int):=by omega
      have y5:(0:Int)≤(i:Int):=by omega
      have y6:(i:Int)<(m:Int):=by omega
      have y7:(((xi:Int) - 1)==pi)=true:=by simp;exact hch
      have hw2:IntKind.i64.wrap ((j2:Int) - 1)=(i:Int):=by rw[IntKind.wrap_i64];omega
      clear hji
      go_wp2_with fail
      go_quiet (fail)
      clear v2 v3 v4 y4 y5 y6 y7 hw2 hch;have UB:=zaa (_root_.Go.below_drewN (Below.refl wr.heap.size wr) nq);generalize wr.drewN nq=WQ at *;clear p0 p1 p2 p3 PV
      go_wp2_with fail
      have U:=zaa ((za UB).drew);refine wp_region_held_drew (S:=fun u=>u.cell? ⟨E,0,none⟩=some (.int .i64 (c'.bi:Int))∧u.cell? ⟨E,1,none⟩=some (.int .i64 (c'.bt:Int))∧u.cell? ⟨E,2,none⟩=some (.int .i64 (c'.ht:Int))∧u.cell? ⟨E,3,none⟩=some (.int .i64 (c'.hv:Int))∧u.cell? ⟨E,4,none⟩=some (.slice sp cn kk)∧u.cell? ⟨g,off+j2*4,none⟩=some (.int .i64 (xk:Int))∧u.cell? ⟨g,off+j2*4+1,none⟩=some (.int .i64 (xt:Int))∧u.cell? ⟨g,off+j2*4+2,none⟩=some (.int .i64 (xi:Int))∧u.cell? ⟨g,off+j2*4+3,none⟩=some (.slice dp xn dc)) (by kernel_rfl) ?_ (fun hHeld=>?_)
      ·try dsimp only
       exact za XS _ (za U)
      refine hT 0 ?_;refine hT 1 ?_;refine hT 2 ?_;refine hT 3 ?_;refine hT 4 ?_;refine wpAnyH_ready (rs:=[5,9]) (by kernel_rfl) (by simp) ?_;refine AllReadyH.cons rfl (fun K hK=>?_) ?_
      ·try generalize WQ.drew=WD at *
       go_simp
       refine(za FC _ (za U)).mono ?_;rintro e V ⟨v,sq,kq,rfl,hq⟩;first
        |(have EN3:=zaa (hq.sub (Q:=fun g=>(g≠E∧(Fv g∨P g∨E≤g))∧g≠F) (fun g hg=>by
          have h5:=za ELT;have h6:=(za U).size;have h7:=za SF;have h8:=(Array.getElem?_eq_some_iff.1 (za XF)).1;rcases hg with hg|hg
          ·exact⟨hg.1,by omega⟩
          ·exact⟨⟨by omega,.inr (.inr (by omega))⟩,by omega⟩));have XF:=zaa (zac v (za XF)))
        |(have EN3:=zaa (hq.sub (Q:=fun g=>(g≠E∧(Fv g∨P g∨E≤g))∧g<V.heap.size) (fun g hg=>by
          have h5:=za ELT;have h6:=(za U).size;have h7:=v.size;rcases hg with hg|hg
          ·exact⟨hg.1,by omega⟩
          ·exact⟨⟨by omega,.inr (.inr (by omega))⟩,by omega⟩)))
       have U:=zaa ((za U).trans (v.mono (za U).size));unfold zb1;clear v hq
       go_wp2_with fail
       refine hK.out _ _ ?_ (fun hHeld=>?_)
       ·try dsimp only
        exact za XS _ (za U)
       clear hK K;refine hP ?_;refine hT 6 ?_;refine hT 7 ?_;refine hT 8 ?_;refine wpAnyH_ready (rs:=[9]) (by kernel_rfl) (by simp) ?_;refine AllReadyH.cons rfl (fun K hK=>?_) ?_
       ·try generalize WQ.drew=WD at *
        go_simp
        obtain⟨u9,x9,s9⟩:=zn9 (za U) (.cells #[.int .i64 0,.int .i64 0,.int .i64 0,.int .i64 0,.slice none 0 0] 51);try have EN3:=zaa ((za EN3).later ((Below.refl _ _).alloc (Nat.le_refl _) (.cells #[.int .i64 0,.int .i64 0,.int .i64 0,.int .i64 0,.slice none 0 0] 51)))
        generalize World.alloc _ (.cells #[.int .i64 0,.int .i64 0,.int .i64 0,.int .i64 0,.slice none 0 0] 51)=V9 at *;first
         |(generalize hF:V.heap.size=F at *;have EN3:=zaa ((za EN3).sub (Q:=fun g=>(g≠E∧(Fv g∨P g∨E≤g))∧g≠F) (fun g hg=>⟨hg.1,by have:=hg.2;omega⟩)))
         |(generalize hF:WD.heap.size=F at *)
        have U:=zaa u9;have XF:=zaa x9;have SF:=zaa s9;clear u9 x9 s9 hF;refine hK.out _ _ ?_ (fun hHeld=>?_)
        ·try dsimp only
         exact za XS _ (za U)
        clear hK K;refine hP ?_;refine wpAnyH_ready (rs:=[10]) (by kernel_rfl) (by simp) ?_;refine AllReadyH.cons rfl (fun K hK=>?_) ?_
        ·obtain⟨W,hr,gW,hW⟩:=zbo (za XF) (.int .i64 (c2.bi:Int)) (.int .i64 (c2.bt:Int)) (.int .i64 (c2.ht:Int)) (.int .i64 (c2.hv:Int)) (.slice sq c2.es.length kq);have HW:=zaa hW;have EN4:=zaa (((za EN3).both.same (fun g hg=>gW.block g hg.2 (fun e=>hg.1.2 (Option.some.inj e)))).sub (Q:=fun g=>g≠E∧(Fv g∨P g∨E≤g)) (fun g hg=>hg.1.1));have z0:=zab (za XF) 0 _ rfl;have z1:=zab (za XF) 1 _ rfl;have z2:=zab (za XF) 2 _ rfl;have z3:=zab (za XF) 3 _ rfl;have z4:=zab (za XF) 4 _ rfl;have f0:=zae (za XF) 0;have f1:=zae (za XF) 1;have f2:=zae (za XF) 2;have f3:=zae (za XF) 3;have f4:=zae (za XF) 4;have XW:=zaa hr;have UW:=zaa (zce (za U) gW (za SF) (za U).size);clear hr hW gW;go_simp
         rw[za HW];have U:=zaa (za UW);clear z0 z1 z2 z3 z4 f0 f1 f2 f3 f4 UW XF EN3;refine hK.out _ _ ?_ (fun hHeld=>?_)
         ·try dsimp only
          exact za XS _ (za U)
         clear hK K;refine hP ?_;refine hT 11 ?_;refine wpAnyH_done (by kernel_rfl) ?_ _
         as_aux_lemma =>
         have BV:=zaa ((za BW).trans ((za U).mono (za BW).size));clear HCN XS FC;cases ok with
         |false =>
          have FF:=zaa (za FB (za GN (.inl (by rw[za HOK];decide))) W (za BV))
          go_wp2_with fail
          go_ret
          exact za FF
         |true =>
          have AT2:=zaa (show zbk c (es.take (j2+1))=c2 from by
           have h5:=za HC2;rw[if_pos rfl] at h5
           rw[za AT,h5])
          have IX2:=zaa (show Ix c2 from by
           have h5:=za HC2;rw[if_pos rfl] at h5;have h6:=za HOK;unfold zde at h6;rw[Bool.and_eq_true,decide_eq_true_eq,decide_eq_true_eq] at h6;rw[← h5]
           exact Ix.add (za HIX) (by dsimp only;omega) (by dsimp only;omega))
          have XEW:=zaa (zac (za U) (za XE));unfold zb1 at XEW;obtain⟨W2,hr2,gW2,hW2⟩:=zbo (za XEW) (.int .i64 (c2.bi:Int)) (.int .i64 (c2.bt:Int)) (.int .i64 (c2.ht:Int)) (.int .i64 (c2.hv:Int)) (.slice sq c2.es.length kq);have HW2:=zaa hW2;have EN5:=zaa (((za EN4).both.same (fun g hg=>gW2.block g hg.2 (fun e=>hg.1.1 (Option.some.inj e)))).sub (Q:=fun g=>g≠E∧(Fv g∨P g∨E≤g)) (fun g hg=>hg.1));have HB5:=zaa (zce ((za HB).trans ((za U).mono (by have:=za ELT;omega))) gW2 (Nat.le_refl _) (by have:=za ELT;have:=(za U).size;omega));have XE5:=zaa (show W2.heap[E]? = some (.cells (zb1 c2 sq kq) 51 (0,0)) from hr2);rw[← za AT2] at EN5 XE5 IX2;have G5:=zaa (za GD (za CH) (za HOK));have z0:=zab (za XEW) 0 _ rfl;have z1:=zab (za XEW) 1 _ rfl;have z2:=zab (za XEW) 2 _ rfl;have z3:=zab (za XEW) 3 _ rfl;have z4:=zab (za XEW) 4 _ rfl;have f0:=zae (za XEW) 0;have f1:=zae (za XEW) 1;have f2:=zae (za XEW) 2;have f3:=zae (za XEW) 3;have f4:=zae (za XEW) 4;have u0:=zab (za XW) 0 _ rfl;have u1:=zab (za XW) 1 _ rfl;have u2:=zab (za XW) 2 _ rfl;have u3:=zab (za XW) 3 _ rfl;have u4:=zab (za XW) 4 _ rfl;clear hr2 gW2 hW2
          go_wp2_with fail
          rw[za HW2];exact⟨⟨j2+1,sq,kq,by omega,by go_num,XE5,EN5,HB5,IX2,G5⟩,by simp[intOf];omega⟩
        exact AllReadyH.nil
       exact AllReadyH.nil
      refine AllReadyH.cons rfl (fun K hK=>?_) ?_
      ·try generalize WQ.drew=WD at *
       go_simp
       obtain⟨u9,x9,s9⟩:=zn9 (za U) (.cells #[.int .i64 0,.int .i64 0,.int .i64 0,.int .i64 0,.slice none 0 0] 51);try have EN3:=zaa ((za EN3).later ((Below.refl _ _).alloc (Nat.le_refl _) (.cells #[.int .i64 0,.int .i64 0,.int .i64 0,.int .i64 0,.slice none 0 0] 51)))
       generalize World.alloc _ (.cells #[.int .i64 0,.int .i64 0,.int .i64 0,.int .i64 0,.slice none 0 0] 51)=V9 at *;first
        |(generalize hF:V.heap.size=F at *;have EN3:=zaa ((za EN3).sub (Q:=fun g=>(g≠E∧(Fv g∨P g∨E≤g))∧g≠F) (fun g hg=>⟨hg.1,by have:=hg.2;omega⟩)))
        |(generalize hF:WD.heap.size=F at *)
       have U:=zaa u9;have XF:=zaa x9;have SF:=zaa s9;clear u9 x9 s9 hF;refine hK.out _ _ ?_ (fun hHeld=>?_)
       ·try dsimp only
        exact za XS _ (za U)
       clear hK K;refine hP ?_;refine wpAnyH_ready (rs:=[5]) (by kernel_rfl) (by simp) ?_;refine AllReadyH.cons rfl (fun K hK=>?_) ?_
       ·try generalize WQ.drew=WD at *
        go_simp
        refine(za FC _ (za U)).mono ?_;rintro e V ⟨v,sq,kq,rfl,hq⟩;first
         |(have EN3:=zaa (hq.sub (Q:=fun g=>(g≠E∧(Fv g∨P g∨E≤g))∧g≠F) (fun g hg=>by
           have h5:=za ELT;have h6:=(za U).size;have h7:=za SF;have h8:=(Array.getElem?_eq_some_iff.1 (za XF)).1;rcases hg with hg|hg
           ·exact⟨hg.1,by omega⟩
           ·exact⟨⟨by omega,.inr (.inr (by omega))⟩,by omega⟩));have XF:=zaa (zac v (za XF)))
         |(have EN3:=zaa (hq.sub (Q:=fun g=>(g≠E∧(Fv g∨P g∨E≤g))∧g<V.heap.size) (fun g hg=>by
           have h5:=za ELT;have h6:=(za U).size;have h7:=v.size;rcases hg with hg|hg
           ·exact⟨hg.1,by omega⟩
           ·exact⟨⟨by omega,.inr (.inr (by omega))⟩,by omega⟩)))
        have U:=zaa ((za U).trans (v.mono (za U).size));unfold zb1;clear v hq
        go_wp2_with fail
        refine hK.out _ _ ?_ (fun hHeld=>?_)
        ·try dsimp only
         exact za XS _ (za U)
        clear hK K;refine hP ?_;refine hT 6 ?_;refine hT 7 ?_;refine hT 8 ?_;refine wpAnyH_ready (rs:=[10]) (by kernel_rfl) (by simp) ?_;refine AllReadyH.cons rfl (fun K hK=>?_) ?_
        ·obtain⟨W,hr,gW,hW⟩:=zbo (za XF) (.int .i64 (c2.bi:Int)) (.int .i64 (c2.bt:Int)) (.int .i64 (c2.ht:Int)) (.int .i64 (c2.hv:Int)) (.slice sq c2.es.length kq);have HW:=zaa hW;have EN4:=zaa (((za EN3).both.same (fun g hg=>gW.block g hg.2 (fun e=>hg.1.2 (Option.some.inj e)))).sub (Q:=fun g=>g≠E∧(Fv g∨P g∨E≤g)) (fun g hg=>hg.1.1));have z0:=zab (za XF) 0 _ rfl;have z1:=zab (za XF) 1 _ rfl;have z2:=zab (za XF) 2 _ rfl;have z3:=zab (za XF) 3 _ rfl;have z4:=zab (za XF) 4 _ rfl;have f0:=zae (za XF) 0;have f1:=zae (za XF) 1;have f2:=zae (za XF) 2;have f3:=zae (za XF) 3;have f4:=zae (za XF) 4;have XW:=zaa hr;have UW:=zaa (zce (za U) gW (za SF) (za U).size);clear hr hW gW;go_simp
         rw[za HW];have U:=zaa (za UW);clear z0 z1 z2 z3 z4 f0 f1 f2 f3 f4 UW XF EN3;refine hK.out _ _ ?_ (fun hHeld=>?_)
         ·try dsimp only
          exact za XS _ (za U)
         clear hK K;refine hP ?_;refine hT 11 ?_;refine wpAnyH_done (by kernel_rfl) ?_ _
         as_aux_lemma =>
         have BV:=zaa ((za BW).trans ((za U).mono (za BW).size));clear HCN XS FC;cases ok with
         |false =>
          have FF:=zaa (za FB (za GN (.inl (by rw[za HOK];decide))) W (za BV))
          go_wp2_with fail
          go_ret
          exact za FF
         |true =>
          have AT2:=zaa (show zbk c (es.take (j2+1))=c2 from by
           have h5:=za HC2;rw[if_pos rfl] at h5
           rw[za AT,h5])
          have IX2:=zaa (show Ix c2 from by
           have h5:=za HC2;rw[if_pos rfl] at h5;have h6:=za HOK;unfold zde at h6;rw[Bool.and_eq_true,decide_eq_true_eq,decide_eq_true_eq] at h6;rw[← h5]
           exact Ix.add (za HIX) (by dsimp only;omega) (by dsimp only;omega))
          have XEW:=zaa (zac (za U) (za XE));unfold zb1 at XEW;obtain⟨W2,hr2,gW2,hW2⟩:=zbo (za XEW) (.int .i64 (c2.bi:Int)) (.int .i64 (c2.bt:Int)) (.int .i64 (c2.ht:Int)) (.int .i64 (c2.hv:Int)) (.slice sq c2.es.length kq);have HW2:=zaa hW2;have EN5:=zaa (((za EN4).both.same (fun g hg=>gW2.block g hg.2 (fun e=>hg.1.1 (Option.some.inj e)))).sub (Q:=fun g=>g≠E∧(Fv g∨P g∨E≤g)) (fun g hg=>hg.1));have HB5:=zaa (zce ((za HB).trans ((za U).mono (by have:=za ELT;omega))) gW2 (Nat.le_refl _) (by have:=za ELT;have:=(za U).size;omega));have XE5:=zaa (show W2.heap[E]? = some (.cells (zb1 c2 sq kq) 51 (0,0)) from hr2);rw[← za AT2] at EN5 XE5 IX2;have G5:=zaa (za GD (za CH) (za HOK));have z0:=zab (za XEW) 0 _ rfl;have z1:=zab (za XEW) 1 _ rfl;have z2:=zab (za XEW) 2 _ rfl;have z3:=zab (za XEW) 3 _ rfl;have z4:=zab (za XEW) 4 _ rfl;have f0:=zae (za XEW) 0;have f1:=zae (za XEW) 1;have f2:=zae (za XEW) 2;have f3:=zae (za XEW) 3;have f4:=zae (za XEW) 4;have u0:=zab (za XW) 0 _ rfl;have u1:=zab (za XW) 1 _ rfl;have u2:=zab (za XW) 2 _ rfl;have u3:=zab (za XW) 3 _ rfl;have u4:=zab (za XW) 4 _ rfl;clear hr2 gW2 hW2
          go_wp2_with fail
          rw[za HW2];exact⟨⟨j2+1,sq,kq,by omega,by go_num,XE5,EN5,HB5,IX2,G5⟩,by simp[intOf];omega⟩
        exact AllReadyH.nil
       exact AllReadyH.nil
      exact AllReadyH.nil
     ·as_aux_lemma =>
      have FF:=zaa (za FB (za GN (.inr ⟨i,hi,hji,hch⟩)));obtain⟨v2,v3,v4⟩:=za PV i hi;generalize (es[i]).2.2.1=pi at *;have y2:(0:Int)<(j2:Int):=by omega
      have y3:0<j2:=by omega
      have y4:(j2:Int) - 1=(i:Int):=by omega
      have y5:(0:Int)≤(i:Int):=by omega
      have y6:(i:Int)<(m:Int):=by omega
      have y7:(((xi:Int) - 1)==pi)=false:=by simp;exact hch
      have hw2:IntKind.i64.wrap ((j2:Int) - 1)=(i:Int):=by rw[IntKind.wrap_i64];omega
      clear hji
      go_wp2_with fail
      go_quiet (fail)
      have UB:=zaa (_root_.Go.below_drewN (Below.refl wr.heap.size wr) nq);generalize wr.drewN nq=WQ at *;have FF:=zaa (za FF WQ ((za BW).trans ((za UB).mono (za BW).size)))
      go_wp2_with fail
      go_ret
      exact za FF
    ·as_aux_lemma =>
     have z1:¬ (j2:Int)<(m:Int):=by omega
     have TE:=zaa (show es.take j2=es from List.take_of_length_le (by rw[za HM];omega));rw[za TE] at XE EN HIX;have FIT:=zaa (show zcn c es=true from zzb (fun i hi=>za HG i hi (by rw[za HM] at hi;omega)));rw[if_neg (by rw[za FIT];decide),za HM] at RA;have ELT:=zaa (show E<wr.heap.size from(Array.getElem?_eq_some_iff.1 (za XE)).1);by_cases hm0:m=0
     ·rw[if_pos hm0] at RA
      have FF:=zaa (show zc7 Fv w Lr R room RR (.returned (.int .i64 0)) wr from by
       rw[za RA]
       exact(za HH).stay (za BW) (x:=0))
      have y2:((m:Int)==0)=true:=by simp;omega
      have y3:(m:Int)=0:=by omega
      go_wp2_with fail
      go_ret
      exact za FF
     ·rw[if_neg hm0] at RA;have y2:((m:Int)==0)=false:=by simp;omega
      have y3:¬ (m:Int)=0:=by omega
      have HB2:=zaa (show Below V0.heap.size V0 wr from by rw[za HEE];exact za HB)
      have AC:=zaa (zl ((za HH).later (za BW)) (za FEW) hn1 q y z l (za HL) ((za HO).bytes.later (za HB2)) (fun b off e h0=>by
       have h1:=((za HO).blk_lt b (by rw[e];rfl)).1;have h3:=(za HH).ltL;have h4:=(za HH).dk.ltR
       exact⟨by omega,by omega⟩) (by have h5:=za LEN m l (by rw[List.take_of_length_le (by rw[za HM];omega)];exact za RX);have h6:=za HL;omega))
      generalize zdp room n c l ss=r3 at *;obtain⟨e3,s3,n3⟩:=r3;try dsimp only at RA
      try dsimp only at AC
      go_wp2_with fail
      go_at_call 71
      refine(za AC).mono ?_;rintro e V4 ⟨rfl,z4,g4⟩;have ENL:=zaa (show E≠Lr by have:=(za HH).ltL;have:=za WZ;omega);have ENR:=zaa (show E≠R by have:=(za HH).dk.ltR;have:=za WZ;omega);have XE4:=zaa (zie g4 (za XE) (za ENL) (fun e=>za ENR (Option.some.inj e).symm))
      have EN4:=zaa ((za EN).both.same (fun g hg=>g4.block g hg.2 (fun e=>by
       subst e;rcases hg.1.2 with h5|h5|h5
       ·exact(za HH).nL h5
       ·exact(za HP _ h5).2 rfl
       ·have:=(za HH).ltL;have:=za WZ;omega) (fun e=>by
       have e:=Option.some.inj e;subst e;rcases hg.1.2 with h5|h5|h5
       ·exact(za HH).nR h5
       ·exact(za HP _ h5).1 rfl
       ·have:=(za HH).dk.ltR;have:=za WZ;omega)))
      have Z4:=zaa z4;have G4:=zaa g4;clear z4 g4 AC;dsimp only;by_cases h3:e3=0
      ·as_aux_lemma =>
       subst h3;rw[if_neg (by simp)] at RA;have ok2:=zaa (zpa (za HH).ok es (fun e he=>(za RALL e he).2));have le2:=zaa (show(zbk c es).es.length≤1000000 from by have h5:=zhg c es;have h6:=za HM;omega);generalize zbk c es=c2 at *
       have CC:=zaa (zfw sp c2.es.length kk (c2.es.map toI) V4 (by rw[List.length_map]) (by have:=za le2;omega) (fun e he=>by
        obtain⟨x,hx,rfl⟩:=List.mem_map.1 he;have h5:=((za ok2).es x hx).2.2.2.2;show x.2.2.2.length≤_
        omega) (za EN4).at_)
       have e4:V4.cell? ⟨E,4,none⟩=some (.slice sp c2.es.length kk):=zab (za XE4) 4 _ rfl;have y5:((((0:Nat):Int))==0)=true:=rfl
       go_wp2_with fail
       go_at_call 28
       refine(za CC).mono ?_;rintro e V5 ⟨sp5,k5,rfl,oe,v5⟩;clear e4;have XE5:=zaa (zac v5 (za XE4));unfold zb1 at XE5;have hset:=heap_setCell_same V5 E 4 _ _ (.slice sp5 c2.es.length k5) (za XE5);have gset:=zaf V5 E 4 (.slice sp5 c2.es.length k5);obtain⟨V6,hV6⟩:∃ V6,V5.setCell ⟨E,4,none⟩ (.slice sp5 c2.es.length k5)=V6:=⟨_,rfl⟩
       rw[hV6] at hset gset;have L5:=(za Z4).later v5;have nE:¬ (Fv E∨(wr.heap.size≤E∧E<V4.heap.size)):=fun q=>by
        rcases q with q|q
        ·have:=za HF E q;have:=za WZ;omega
        ·have:=za ELT;omega
       have L6:=L5.far gset (za ENL) (za ENR) nE;have OE:=oe.entsIn;have s4:=v5.size;have s5:=(za G4).size
       have OE6:=(OE.same (w':=V6) (fun g hg=>gset.block g hg.2 (fun e=>by
        have e:=Option.some.inj e;have:=za ELT;have:=hg.1
        omega)))
       obtain⟨spL,kL,hr5,_⟩:=L5.lg;have hrL:=(gset.block Lr L5.ltL (fun e=>za ENL (Option.some.inj e).symm)).trans hr5;obtain⟨W,hrW,gW,hW⟩:=zB0 hrL (.int .i64 (c2.bi:Int)) (.int .i64 (c2.bt:Int)) (.int .i64 (c2.ht:Int)) (.int .i64 (c2.hv:Int)) (.slice sp5 c2.es.length k5)
       have L7:=(L6.sub (Gv:=fun g=>Fv g∨(w.heap.size≤g∧g<W.heap.size)) (fun g hg=>by
        have h5:=(za BW).size;have h6:=gset.size;have h7:=gW.size;rcases hg with hg|hg
        ·exact .inl hg
        ·exact .inr ⟨by omega,by omega⟩) (fun q=>by
        rcases q with q|q
        ·exact(za HH).nL q
        ·have:=(za HH).ltL;omega) (fun q=>by
        rcases q with q|q
        ·exact(za HH).nR q
        ·have:=(za HH).dk.ltR;omega)).store gW (c2:=c2) (sp2:=sp5) (k2:=k5) hrW (OE6.sub (fun g hg=>.inr ⟨by have:=(za BW).size;omega,by have:=gset.size;have:=gW.size;omega⟩)) (za ok2) (za HIX) (za le2)
       have g5:Grew2 Lr (some R) w V5:=((Grew2.ofBelow (za BW)).transW (za G4)).transW (Grew2.ofBelow v5)
       have FF:=zaa (show zc7 Fv w Lr R room RR (.returned (.int .i64 0)) W from by
        rw[za RA];refine⟨rfl,L7,⟨gW.os.trans (gset.os.trans g5.os),gW.tape.trans (gset.tape.trans g5.tape),gW.output.trans (gset.output.trans g5.output),Nat.le_trans g5.size (Nat.le_trans gset.size gW.size),fun i hi h1 h2=>?_⟩⟩;have h5:=g5.size;have h6:=gset.size;have h7:=za WZ
        exact(gW.block i (by omega) (fun e=>h1 (Option.some.inj e))).trans ((gset.block i (by omega) (fun e=>by have:=Option.some.inj e;omega)).trans (g5.block i hi h1 h2)))
       have HV6:=zaa hV6;have HW:=zaa hW;have b0:=zab (za XE5) 0 _ rfl;have b1:=zab (za XE5) 1 _ rfl;have b2:=zab (za XE5) 2 _ rfl;have b3:=zab (za XE5) 3 _ rfl;have b4:=zab (za XE5) 4 _ rfl;have bf:=zae (za XE5) 4;unfold zhw at hr5;have k2:=zab hr5 2 _ rfl;have k3:=zab hr5 3 _ rfl;have k4:=zab hr5 4 _ rfl;have k5':=zab hr5 5 _ rfl;have k6:=zab hr5 6 _ rfl;have f2:=zae hr5 2;have f3:=zae hr5 3;have f4:=zae hr5 4;have f5:=zae hr5 5;have f6:=zae hr5 6;have n1:¬ E=Lr:=za ENL;have n2:¬ Lr=E:=fun e=>za ENL e.symm;clear hV6 hW hset gset L5 L6 L7 OE OE6 g5 gW hrW hrL hr5 nE oe v5 s4 s5 CC
       go_wp2_with fail
       rw[za HV6,za HW];go_ret
       exact za FF
      ·as_aux_lemma =>
       rw[if_pos h3] at RA;have h3':((e3:Int)==0)=false:=by simp;omega
       have h3'':¬ (e3:Int)=0:=by omega
       have FF:=zaa (show zc7 Fv w Lr R room RR (.returned (.int .i64 (e3:Int))) V4 by
        rw[za RA]
        exact zc7.base (za HH) (za BW) ⟨rfl,za Z4,za G4⟩)
       go_wp2_with fail
       go_ret
       exact za FF
theorem RL.lt (h:RL Fv w Lr R room ss n c):RL (fun g=>Fv g∧g<w.heap.size) w Lr R room ss n c:=by
 obtain⟨sp,k,q1,q2⟩:=h.lg;obtain⟨sp',c',rs,r1,r2,r3⟩:=h.dk;exact⟨⟨sp',c',rs,r1,r2,fun g hg=>⟨r3 g hg,(r1.own.lt hg).2⟩⟩,h.ne,fun q=>h.nL q.1,fun q=>h.nR q.1,⟨sp,k,q1,q2.both⟩,h.ok,h.ix,h.le,h.nn⟩
theorem zoe (h:RL Fv w Lr R room ss n c) (hc:zht 300 ss) (hn1:n+1<1099511627776) (a:Option Addr) (m k:Nat) (es:List EntI) (hm:es.length=m) (hml:m≤100000) (hle:c.es.length+m≤1000000) (hE:EntsIn P w a es) (hP:∀ g,P g→g≠R∧g≠Lr) :
  Calls Tryz.prog 30 #[.pointer (some ⟨Lr,0,none⟩),.slice a m k] w (zc7 Fv w Lr R room (zjl room n c es ss)):=by
 refine(zvf h.lt (fun g hg=>hg.2) hc hn1 a m k es hm hml hle hE hP).mono ?_;rintro e V ⟨h1,h2,h3⟩;have l1:=h.ltL;have l2:=h.dk.ltR;refine⟨h1,h2.sub (fun g hg=>?_) (fun q=>?_) (fun q=>?_),h3⟩
 ·rcases hg with hg|hg
  ·exact .inl hg.1
  ·exact .inr hg
 ·rcases q with q|q
  ·exact h.nL q
  ·omega
 ·rcases q with q|q
  ·exact h.nR q
  ·omega
end
end Go.Proofs.YtofllbpfajppeaaGreatDoor
