/- Conf: the document's store: Config, Put; the program's Seen. -/
import Derived.Test.YtjcjleaicjhpeaaGreatDoorB28
import Derived.Test.YtjcjleaicjhpeaaGreatDoorB12
import Derived.Test.YtjcjleaicjhpeaaGreatDoorB03
import Derived.Test.YtjcjleaicjhpeaaGreatDoorB01
set_option linter.unusedVariables false
set_option maxRecDepth 20000
set_option maxHeartbeats 16000000
namespace Go.Proofs.YtjcjleaicjhpeaaGreatDoor
section
open Go.ChangeShapes Go.WideShapes Go.ChangeAt Go.RowKit
theorem zjv {base:Nat} {w:World} {T:TypeId} {k n c:Nat} {sp:Option Addr} {xs:List Value} (h:w.ownsRow base T k (.slice sp n c) n xs):n≤c∧(sp=none→c=0):=by
 rcases h.2 with⟨hv,h0⟩|⟨g,cap,cur,hv,hb,hh,hle,_⟩
 ·simp only[Value.slice.injEq] at hv;exact⟨by omega,fun _=>hv.2.2⟩
 ·simp only[Value.slice.injEq] at hv;refine⟨by rw[hv.2.2];exact hle,fun e=>?_⟩;rw[hv.1] at e;cases e
theorem RtAt.cf {w:World} {r:Nat} {k:RfH} {y:Sm} {j:Nat} (t:RtAt w r k y) (hs:Smi j y) (hj:j≤900):CfAt w y.cf ⟨k.ra,k.rc,k.pa,k.pc⟩:=by
 have hn:=hs.pn;have hm:=hs.rn;obtain⟨hr,hz⟩:=zjv t.rw_;obtain⟨hp,_⟩:=zjv t.pw;rw[List.length_map] at hp;refine⟨(hs.ok hj).ver,⟨fun q hq=>?_,fun i hi=>?_⟩,⟨fun i hi=>?_⟩,⟨by show y.rs.length≤maxLen;simp only[maxLen];omega,hr⟩,⟨by show(y.ps.map Pq.po).length≤maxLen;rw[List.length_map];simp only[maxLen];omega,by show(y.ps.map Pq.po).length≤k.pc;rw[List.length_map];exact hp⟩,hz⟩
 ·have:=hs.rs q hq;simp only[maxLen];omega
 ·obtain⟨g,h1,h2,h3,h4,h5⟩:=t.rw_.cell i hi;exact⟨g,0,h1,by rw[Nat.zero_add];exact h3,by rw[Nat.zero_add];exact h4,by rw[Nat.zero_add];exact h5⟩
 ·have hi':i<y.ps.length:=by simpa [Sm.cf] using hi
  obtain⟨g,h1,h2,h3,h4⟩:=t.pw.cell i (by rw[List.length_map];exact hi');obtain⟨d1,d2,d3⟩:=t.dt y.ps[i] (List.getElem_mem hi');have hts:=(hs.ps y.ps[i] (List.getElem_mem hi')).2.1;have e:y.cf.ps[i]=y.ps[i].po:=by simp[Sm.cf]
  rw[e];refine⟨g,0,y.ps[i].ta,y.ps[i].tc,h1,?_,?_,d1,⟨by simp only[maxLen];omega,d2⟩,d3⟩
  ·simpa [Pq.pr] using h3
  ·simpa [Pq.pr] using h4
theorem zni {w:World} {b k r:Nat} {t:ByteArray} {cs:Array Value} {T:TypeId} (hc:w.cell? ⟨b,k,none⟩=some (.string t)) (hr:w.heap[r]? = some (.cells cs T (0,0))) (hcs:∀ (k:Nat) (t:ByteArray),cs[k]?≠some (Value.string t)):b≠r:=fun e=>by
 subst e;rw[cell_of_row _ _ _ _ _ _ hr] at hc;exact hcs _ _ hc
theorem CfAt.aside {w w':World} {e:Cf} {k:CfH} (f:CfAt w e k) {r:Nat} {cs:Array Value} {T:TypeId} (hg:w.grownBy w' (some r)) (hr:w.heap[r]? = some (.cells cs T (0,0))) (hcs:∀ (k:Nat) (t:ByteArray),cs[k]?≠some (Value.string t)):CfAt w' e k:=by
 have keep:∀ {b k:Nat} {t:ByteArray},w.cell? ⟨b,k,none⟩=some (.string t)→w'.heap[b]? = w.heap[b]?:=fun {b k t} hc=>hg.block b (zjg hc) (fun e=>zni hc hr hcs (Option.some.inj e));refine⟨f.wv,⟨f.rts.sz,fun i hi=>?_⟩,⟨fun i hi=>?_⟩,f.rl,f.pl,f.rz⟩
 ·obtain⟨b,off,e1,h1,h2,h3⟩:=f.rts.cell i hi;have hb:=keep h1;exact⟨b,off,e1,(World.cell?_of_block hb).trans h1,(World.cell?_of_block hb).trans h2,(World.cell?_of_block hb).trans h3⟩
 ·obtain⟨b,off,ta,tc,e1,h1,h2,h3,h4⟩:=f.pos.cell i hi;have hb:=keep h1;refine⟨b,off,ta,tc,e1,(World.cell?_of_block hb).trans h1,(World.cell?_of_block hb).trans h2,⟨h3.lt,fun q hq=>?_⟩,h4⟩;obtain⟨b2,o2,e2,g1,g2⟩:=h3.cell q hq;have hb2:=keep g1;exact⟨b2,o2,e2,(World.cell?_of_block hb2).trans g1,(World.cell?_of_block hb2).trans g2⟩
theorem Smi.small {j:Nat} {y:Sm} (hs:Smi j y) (hj:j≤900):zlm y.cf:=by
 have hn:=hs.pn;have hm:=hs.rn;refine⟨by show y.rs.length≤1000;omega,by show(y.ps.map Pq.po).length≤1000;rw[List.length_map];omega,fun p hp=>?_⟩;obtain⟨q,hq,rfl⟩:=List.mem_map.1 hp;have:=(hs.ps q hq).2.1;omega
theorem zi4 {w:World} {r:Nat} {k:RfH} {y:Sm} {j:Nat} (t:RtAt w r k y) (hs:Smi j y) (hj:j≤900) :
  Calls Tryz.prog 33 #[.pointer (some ⟨r,0,none⟩)] w fun e w'=>∃ h',e=.returned (zb4 y.cf h')∧CfAt w' y.cf h'∧Below w.heap.size w w':=by
 have b1:Below w.heap.size w (w.alloc (.cells #[.int .i64 0,.slice none 0 0,.slice none 0 0] 45)):=(Below.refl _ _).alloc (Nat.le_refl _) _;have X1:=zad w (.cells #[.int .i64 0,.slice none 0 0,.slice none 0 0] 45);have t1:=t.later b1;have c0:=zab t1.hd 0 _ rfl;have c1:=zab t1.hd 1 _ rfl;have c2:=zab t1.hd 2 _ rfl;have CC:=zaa (zji (t1.cf hs hj) (hs.small hj));have s1:w.heap.size<(w.alloc (.cells #[.int .i64 0,.slice none 0 0,.slice none 0 0] 45)).heap.size:=(Array.getElem?_eq_some_iff.1 X1).1;have EC:=zaa (show ∀ h',zb4 y.cf h'=.agg #[.int .i64 y.ver,.slice h'.ra y.rs.length h'.rc,.slice h'.pa y.ps.length h'.pc] from fun h'=>by simp[zb4,Sm.cf]);have NC:=zaa (show ∀ h',zb4 y.cf h'=zb4 y.cf h' from fun _=>rfl);rw[za EC] at CC;generalize y.cf=cf at *;dsimp only[zib] at c0 c1 c2;clear t t1 hs;go_enter Tryz.func33,Tryz.ntmps33
 go_wp2_with fail
 refine(za CC).mono ?_;rintro e V ⟨h',rfl,sv,bv,_⟩;rw[za EC];have row:=zac bv X1;have y0:=zah row 0 _ rfl;have y1:=zah row 1 _ rfl;have y2:=zah row 2 _ rfl;have f0:=ze3 row 0;have f1:=ze3 row 1;have f2:=ze3 row 2;have VR:=zaa row;have SV:=zaa sv;have BV:=zaa bv;clear row sv bv
 go_wp2_with fail
 clear y0 y1 y2 f0 f1 f2;have Z:=heap_setCell_same _ w.heap.size 2 _ _ (.slice h'.pa y.ps.length h'.pc) (heap_setCell_same _ w.heap.size 1 _ _ (.slice h'.ra y.rs.length h'.rc) (heap_setCell_same V w.heap.size 0 _ _ (.int .i64 y.ver) (za VR)));have k0:=zah Z 0 (.int .i64 y.ver) rfl;have k1:=zah Z 1 (.slice h'.ra y.rs.length h'.rc) rfl;have k2:=zah Z 2 (.slice h'.pa y.ps.length h'.pc) rfl;have VB:=(((b1.trans ((za BV).mono b1.size)).setCell (p:=⟨w.heap.size,0,none⟩) (by simp) (.int .i64 y.ver)).setCell (p:=⟨w.heap.size,1,none⟩) (by simp) (.slice h'.ra y.rs.length h'.rc)).setCell (p:=⟨w.heap.size,2,none⟩) (by simp) (.slice h'.pa y.ps.length h'.pc);have VO:=(za SV).aside (zgu (zgu (zfd V w.heap.size 0 (.int .i64 y.ver)) (zfd _ w.heap.size 1 (.slice h'.ra y.rs.length h'.rc))) (zfd _ w.heap.size 2 (.slice h'.pa y.ps.length h'.pc))) (za VR) (zc2 _ _ _ _ _ _ _);generalize ((V.setCell ⟨w.heap.size,0,none⟩ (.int .i64 y.ver)).setCell ⟨w.heap.size,1,none⟩ (.slice h'.ra y.rs.length h'.rc)).setCell ⟨w.heap.size,2,none⟩ (.slice h'.pa y.ps.length h'.pc)=VV at *;refine bodyPost_ret (v:=.agg #[.int .i64 y.ver,.slice h'.ra y.rs.length h'.rc,.slice h'.pa y.ps.length h'.pc]) (by simp[results,Tryz.results33,go_sem,k0,k1,k2]) rfl ⟨h',by rw[za EC],VO,VB⟩
structure CfS (e:Cf):Prop where
 pn:e.ps.length≤32
 rn:e.rs.length≤64
 pr:e.ps.Pairwise (fun a b=>Kord.lt a.nm b.nm)
 rr:e.rs.Pairwise (fun a b=>Kord.lt (a.h,a.p) (b.h,b.p))
 tn:∀ p∈e.ps,p.ts.length≤16
 th:∀ r∈e.rs,∃ p∈e.ps,p.nm=r.l
theorem SmI.cfs {j:Nat} {x:Sm} (h:SmI x) (s:Smi j x):CfS x.cf:=by
 refine⟨?_,h.rn,?_,?_,?_,?_⟩
 ·show(x.ps.map Pq.po).length≤32
  rw[List.length_map];exact h.pn
 ·show(x.ps.map Pq.po).Pairwise _
  refine List.pairwise_map.2 ?_;have:=h.kp;unfold Kl at this;exact(List.pairwise_map.1 this).imp (fun {a b} hab=>hab)
 ·have:=h.kr;unfold Kl at this;exact(List.pairwise_map.1 this).imp (fun {a b} hab=>hab)
 ·intro p hp;obtain⟨q,hq,rfl⟩:=List.mem_map.1 hp;exact(s.ps q hq).2.1
 ·intro r hr;obtain⟨p,hp,e⟩:=h.th r hr;exact⟨p.po,List.mem_map.2 ⟨p,hp,rfl⟩,e⟩
theorem Po8.cfs {j b:Nat} {w:World} {h:StH} {z:Sm} (p:Po8 j b w h z):CfS z.cf:=by
 obtain⟨x,h1,h2,h3,h4,h5⟩:=p.ex;rw[← h2.cf];exact h3.cfs h4
theorem Chg.cells {w w':World} {h:StH} {x:Sm} (c:Chg h w w') (s:StAt w h x) {g:Nat} {cur:Array Value} {T:TypeId} {fr:Nat×Nat} (hT:T≠79) (hg:w.heap[g]? = some (.cells cur T fr)):w'.heap[g]? = some (.cells cur T fr):=by
 obtain⟨g0,g1,g2,g3,g4⟩:=s.notCells hT hg;exact(c.block g g0 g1 g2 g3 g4).trans hg
structure RtX (w:World) (ra:Option Addr) (rc:Nat) (pa:Option Addr) (pc:Nat) (y:Sm):Prop where
 rw_:zc9 0 w ra rc y.rs
 pw:za7 0 w pa pc (y.ps.map Pq.pr)
 dt:∀ p∈y.ps,TgD w p
theorem RtX.later {w w':World} {ra pa:Option Addr} {rc pc:Nat} {y:Sm} (s:RtX w ra rc pa pc y) (hb:Below w.heap.size w w'):RtX w' ra rc pa pc y:=⟨zae s.rw_ hb,zae s.pw hb,fun p hp=>(s.dt p hp).later hb⟩
theorem RtX.other {w w':World} {ra pa:Option Addr} {rc pc:Nat} {y:Sm} {q:Nat} {T:TypeId} (s:RtX w ra rc pa pc y) (hg:w.grownBy w' (some q)) (hq:w.heap[q]? = some (.cells #[] T (0,0))) (h1:T≠56) (h2:T≠54):RtX w' ra rc pa pc y :=
 ⟨zak s.rw_ hg hq h1,zak s.pw hg hq h2,fun p hp=>zbo (s.dt p hp) hg hq (fun k t e=>by simp at e)⟩
def pwq (x:Pw):Pq:=⟨x.po,some ⟨x.g,0,none⟩,x.c⟩
theorem zm3 (l:List Pw):zid l=zcl ((l.map pwq).map Pq.pr):=by
 unfold zid zcl;rw[List.map_map,List.flatMap_map];rfl
theorem zhp {w:World} {ops:Array Oper} {o:Oper} {a:Act} {K:Act→World→Prop} {Q:Exit→Act→World→Prop} {E0:Prop} (hgd:o.guard=none) (ho:o.op=.buildSlice 117 0 #[])
  (h:∀ E w',w.heap.size=E→w'.heap[E]? = some (.cells #[] 123 (0,0))→Below w.heap.size w w'→K (a.put o.dst (.slice (some ⟨E,0,none⟩) 0 0)) w') :
  if Region.wanted o (yielded ops a.tmps)=true then Oper.wp Tryz.prog o a w K Q else E0:=by
 have hw:Region.wanted o (yielded ops a.tmps)=true:=by simp[Region.wanted,hgd]
 rw[if_pos hw];have h1:=h w.heap.size (w.alloc (.cells #[] 123)) rfl (zad w _) ((Below.refl _ _).alloc (Nat.le_refl _) _);unfold Oper.wp;simp[execOp,ho,go_sem];exact h1
theorem zf.news {w:World} {sp:Option Addr} {c:Nat} {l:List Ls} (h:zf 0 w sp c l):∀ b,sp=some b→∀ j u,(ze6 l)[j]? = some u→w.cell? (b.add j)=some u:=by
 intro b e j u hu;have hn:0<l.length:=by
  rcases Nat.eq_zero_or_pos l.length with h0|h0
  ·have:l=[]:=List.eq_nil_of_length_eq_zero h0;subst this;simp[ze6] at hu
  ·exact h0
 obtain⟨g,hs,_,_,_,hc⟩:=zcj h hn;rw[e] at hs;cases hs
 have:=hc j u hu;by_cases h0:j=0
 ·subst h0
  simpa [Addr.add] using this
 ·simpa [Addr.add,h0] using this
theorem zi5 {w:World} {r:Nat} {k:RfH} {y:Sm} {n:Nat} (t:RtAt w r k y) (hs:Smi n y) (hn:n≤900) :
  Calls Tryz.prog 29 #[.pointer (some ⟨r,0,none⟩)] w fun e w'=>∃ r2 k2 y2,e=.returned (.pointer (some ⟨r2,0,none⟩))∧RtAt w' r2 k2 y2∧SmE y2 y∧Below w.heap.size w w'∧w.heap.size≤r2:=by
 have CC:=zaa (fun (W:World) (hb:Below w.heap.size w W)=>zgr ((t.later hb).cf hs hn) (hs.small hn));have EC:=zaa (show ∀ h',zb4 y.cf h'=.agg #[.int .i64 y.ver,.slice h'.ra y.rs.length h'.rc,.slice h'.pa y.ps.length h'.pc] from fun h'=>by simp[zb4,Sm.cf]);have KF:=zaa (show ∀ W:World,Below w.heap.size w W→W.cell? ⟨r,0,none⟩=some (.int .i64 y.ver)∧W.cell? ⟨r,1,none⟩=some (.slice k.ra y.rs.length k.rc)∧W.cell? ⟨r,2,none⟩=some (.slice k.pa y.ps.length k.pc)∧W.cell? ⟨r,3,none⟩=some (.slice k.la y.cl.length k.lc) from fun W hb=>⟨zab (t.later hb).hd 0 _ rfl,zab (t.later hb).hd 1 _ rfl,zab (t.later hb).hd 2 _ rfl,zab (t.later hb).hd 3 _ rfl⟩)
 have MK:=zaa (show ∀ (W:World) (k':CfH) (l:List Pw),CfAt W y.cf k'→OwnW w.heap.size W k'.pa k'.pc l→l.map Pw.po=y.cf.ps→W.ownsRow 0 56 3 (.slice k'.ra y.cf.rs.length k'.rc) y.cf.rs.length (zb5 y.cf.rs)→RtX W k'.ra k'.rc k'.pa k'.pc { y with ps:=l.map pwq }∧SmE { y with ps:=l.map pwq } y∧l.length=y.ps.length from fun W k' l h1 h2 h3 h4=>by
  have hlen:l.length=y.ps.length:=by
   have:=congrArg List.length h3
   simpa [Sm.cf] using this
  refine⟨⟨h4,?_,fun p hp=>?_⟩,⟨rfl,rfl,rfl,?_⟩,hlen⟩
  ·have h5:=zbv h2.row (Nat.zero_le _);unfold za7;rw[← zm3];dsimp only;rw[List.length_map,List.length_map];exact h5
  ·obtain⟨q,hq,rfl⟩:=List.mem_map.1 hp;have hqo:q.po∈y.cf.ps:=by rw[← h3];exact List.mem_map.2 ⟨q,hq,rfl⟩
   obtain⟨i,hi,e⟩:=List.getElem_of_mem hqo;obtain⟨b,off,ta,tc,_,_,_,ht,hl,_⟩:=h1.pos.cell i hi;rw[e] at ht;have ho:=(h2.dat q hq).1;exact⟨ho.at_ ht.lt,ho.is.2.2,fun e=>by cases e⟩
  ·dsimp only;rw[List.map_map]
   exact h3)
 have LL:=zaa t.lw;have LN:=zaa (zjv t.lw);have hcn:=hs.cn;have FIN:=zaa (show ∀ (W:World) (r2:Nat) (k2:RfH) (y2:Sm),W.heap[r2]? = some (.cells (zib y2 k2) 119 (0,0))→RtX W k2.ra k2.rc k2.pa k2.pc y2→zf 0 W k2.la k2.lc y2.cl→RtAt W r2 k2 y2 from fun W r2 k2 y2 h1 h2 h3=>⟨h1,h2.rw_,h2.pw,h3,h2.dt⟩);simp only[za EC] at CC;obtain⟨i0,hi,hz0,hz1,hz2⟩:=info_parts znb;have I0:=zaa hi;have I1:=zaa hz0;have I2:=zaa hz1;have I3:=zaa hz2;generalize hm:y.cl.length=m at *;have HM:=zaa hm;clear t hs hm hi hz0 hz1 hz2;have F:=zaa (show Below w.heap.size w w.drew from(Below.refl _ _).drew);have KB:=zaa (za KF _ (za F));go_enter Tryz.func29,Tryz.ntmps29
 go_wp2_with fail
 refine wp_region_held_drew (S:=fun W=>W.cell? ⟨r,0,none⟩=some (.int .i64 y.ver)∧W.cell? ⟨r,1,none⟩=some (.slice k.ra y.rs.length k.rc)∧W.cell? ⟨r,2,none⟩=some (.slice k.pa y.ps.length k.pc)∧W.cell? ⟨r,3,none⟩=some (.slice k.la m k.lc)) (by kernel_rfl) ?_ (fun hHeld=>?_)
 ·try dsimp only
  exact za KB
 refine hT 0 ?_;refine hT 1 ?_;refine hT 2 ?_;refine hT 3 ?_;refine hT 6 ?_;refine hT 7 ?_;refine hT 8 ?_;refine hT 9 ?_;refine wpAnyH_ready (rs:=[4,5]) (by kernel_rfl) (by simp) ?_;refine AllReadyH.cons rfl (fun K hK=>?_) ?_
 ·go_simp
  go_at_call 68
  refine(za CC _ (za F)).mono ?_;rintro e U1 ⟨k',rfl,cf1,u1,l,ow,hl,hro⟩;obtain⟨rx,ey,hlen⟩:=za MK U1 k' l cf1 (ow.low (za F).size) hl hro;have RX:=zaa rx;have EY:=zaa ey;have HLEN:=zaa hlen;first
   |(have hV:HE=HE:=rfl
     clear hV
     have HE:=zaa (zac u1 (za HE)))
   |skip
  have F:=zaa ((za F).trans (u1.mono (za F).size));have KB:=zaa (za KF _ (za F));clear u1 cf1 ow hl hro rx ey hlen
  go_wp2_with fail
  refine hK.out _ _ ?_ (fun hHeld=>?_)
  ·try dsimp only
   exact za KB
  clear hK K;refine hP ?_;refine wpAnyH_ready (rs:=[5]) (by kernel_rfl) (by simp) ?_;refine AllReadyH.cons rfl (fun K hK=>?_) ?_
  ·refine zhp rfl rfl ?_;intro E U2 hE hEn hb;have LE:=zaa (show w.heap.size≤E by rw[← hE];exact(za F).size);have HE:=zaa hEn;first
    |(have hV:RX=RX:=rfl
      clear hV
      have RX:=zaa ((za RX).later hb))
    |skip
   have F:=zaa ((za F).trans (hb.mono (za F).size));have KB:=zaa (za KF _ (za F));clear hE hEn hb;refine hK.out _ _ ?_ (fun hHeld=>?_)
   ·try dsimp only
    exact za KB
   clear hK K;refine hP ?_;refine wpAnyH_ready (rs:=[10]) (by kernel_rfl) (by simp) ?_;refine AllReadyH.cons rfl (fun K hK=>?_) ?_
   ·refine zat rfl (.tmp 10) (.tmp 14) 117 123 rfl i0 _ 4 32 Tryz.underlying117 (za I0) (za I1) (za I2) (za I3) rfl (by omega) E rfl (za HE) k.la m k.lc rfl (fun e=>⟨by have:=(za LN).1;have:=(za LN).2 e;omega,(za LN).2 e⟩) (ze6 y.cl) (by rw[zf8,za HM]) (zf.news (zae (za LL) (za F))) (fun u hu=>by obtain⟨x,_,hx⟩:=List.mem_flatMap.1 hu;exact zf0 x u hx) (by omega) (by omega) ?_;intro g3 c3 U3 ho3 hg3 hw3;have RX:=zaa ((za RX).other hg3 (za HE) (by decide) (by decide))
    have L3:=zaa (show zf 0 U3 (some ⟨g3,0,none⟩) c3 y.cl from by
     have h5:=zbv ho3 (Nat.zero_le _);unfold zf;rw[za HM]
     exact h5)
    have F:=zaa ((za F).grown hg3 (za F).size (fun g hg=>by have:=Option.some.inj hg;have:=za LE;omega));have KB:=zaa (za KF _ (za F));clear ho3 hg3 hw3;refine hK.out _ _ ?_ (fun hHeld=>?_)
    ·try dsimp only
     exact za KB
    clear hK K;refine hP ?_;refine hT 11 ?_;refine wpAnyH_ready (rs:=[12]) (by kernel_rfl) (by simp) ?_;refine AllReadyH.cons rfl (fun K hK=>?_) ?_
    ·have bS:=zaa (show Below U3.heap.size U3 (U3.alloc (.cells #[.int .i64 y.ver,.slice k'.ra y.rs.length k'.rc,.slice k'.pa y.ps.length k'.pc,.slice (some ⟨g3,0,none⟩) m c3] 119)) from(Below.refl _ _).alloc (Nat.le_refl _) _);have XS:=zaa (zad U3 (.cells #[.int .i64 y.ver,.slice k'.ra y.rs.length k'.rc,.slice k'.pa y.ps.length k'.pc,.slice (some ⟨g3,0,none⟩) m c3] 119));have RX:=zaa ((za RX).later (za bS));have L3:=zaa (show zf 0 _ (some ⟨g3,0,none⟩) c3 y.cl from zae (za L3) (za bS));have GE:=zaa (za F).size;have F:=zaa ((za F).trans ((za bS).mono (za F).size));have KB:=zaa (za KF _ (za F));go_simp
     refine hK.out _ _ ?_ (fun hHeld=>?_)
     ·try dsimp only
      exact za KB
     clear hK K;refine hP ?_;refine hT 13 ?_;refine wpAnyH_done (by kernel_rfl) ?_ _;clear hHeld KB bS
     go_wp2
     go_ret
     exact⟨U3.heap.size,⟨k'.ra,k'.rc,k'.pa,k'.pc,some ⟨g3,0,none⟩,c3⟩,{ y with ps:=l.map pwq },rfl,za FIN _ _ _ _ (by unfold zib;dsimp only;rw[List.length_map,za HLEN,za HM];exact za XS) (za RX) (za L3),za EY,za F,za GE⟩
    exact AllReadyH.nil
   exact AllReadyH.nil
  exact AllReadyH.nil
 refine AllReadyH.cons rfl (fun K hK=>?_) ?_
 ·refine zhp rfl rfl ?_;intro E U2 hE hEn hb;have LE:=zaa (show w.heap.size≤E by rw[← hE];exact(za F).size);have HE:=zaa hEn;first
   |(have hV:RX=RX:=rfl
     clear hV
     have RX:=zaa ((za RX).later hb))
   |skip
  have F:=zaa ((za F).trans (hb.mono (za F).size));have KB:=zaa (za KF _ (za F));clear hE hEn hb;refine hK.out _ _ ?_ (fun hHeld=>?_)
  ·try dsimp only
   exact za KB
  clear hK K;refine hP ?_;refine wpAnyH_ready (rs:=[4]) (by kernel_rfl) (by simp) ?_;refine AllReadyH.cons rfl (fun K hK=>?_) ?_
  ·go_simp
   go_at_call 68
   refine(za CC _ (za F)).mono ?_;rintro e U1 ⟨k',rfl,cf1,u1,l,ow,hl,hro⟩;obtain⟨rx,ey,hlen⟩:=za MK U1 k' l cf1 (ow.low (za F).size) hl hro;have RX:=zaa rx;have EY:=zaa ey;have HLEN:=zaa hlen;first
    |(have hV:HE=HE:=rfl
      clear hV
      have HE:=zaa (zac u1 (za HE)))
    |skip
   have F:=zaa ((za F).trans (u1.mono (za F).size));have KB:=zaa (za KF _ (za F));clear u1 cf1 ow hl hro rx ey hlen
   go_wp2_with fail
   refine hK.out _ _ ?_ (fun hHeld=>?_)
   ·try dsimp only
    exact za KB
   clear hK K;refine hP ?_;refine wpAnyH_ready (rs:=[10]) (by kernel_rfl) (by simp) ?_;refine AllReadyH.cons rfl (fun K hK=>?_) ?_
   ·refine zat rfl (.tmp 10) (.tmp 14) 117 123 rfl i0 _ 4 32 Tryz.underlying117 (za I0) (za I1) (za I2) (za I3) rfl (by omega) E rfl (za HE) k.la m k.lc rfl (fun e=>⟨by have:=(za LN).1;have:=(za LN).2 e;omega,(za LN).2 e⟩) (ze6 y.cl) (by rw[zf8,za HM]) (zf.news (zae (za LL) (za F))) (fun u hu=>by obtain⟨x,_,hx⟩:=List.mem_flatMap.1 hu;exact zf0 x u hx) (by omega) (by omega) ?_;intro g3 c3 U3 ho3 hg3 hw3;have RX:=zaa ((za RX).other hg3 (za HE) (by decide) (by decide))
    have L3:=zaa (show zf 0 U3 (some ⟨g3,0,none⟩) c3 y.cl from by
     have h5:=zbv ho3 (Nat.zero_le _);unfold zf;rw[za HM]
     exact h5)
    have F:=zaa ((za F).grown hg3 (za F).size (fun g hg=>by have:=Option.some.inj hg;have:=za LE;omega));have KB:=zaa (za KF _ (za F));clear ho3 hg3 hw3;refine hK.out _ _ ?_ (fun hHeld=>?_)
    ·try dsimp only
     exact za KB
    clear hK K;refine hP ?_;refine hT 11 ?_;refine wpAnyH_ready (rs:=[12]) (by kernel_rfl) (by simp) ?_;refine AllReadyH.cons rfl (fun K hK=>?_) ?_
    ·have bS:=zaa (show Below U3.heap.size U3 (U3.alloc (.cells #[.int .i64 y.ver,.slice k'.ra y.rs.length k'.rc,.slice k'.pa y.ps.length k'.pc,.slice (some ⟨g3,0,none⟩) m c3] 119)) from(Below.refl _ _).alloc (Nat.le_refl _) _);have XS:=zaa (zad U3 (.cells #[.int .i64 y.ver,.slice k'.ra y.rs.length k'.rc,.slice k'.pa y.ps.length k'.pc,.slice (some ⟨g3,0,none⟩) m c3] 119));have RX:=zaa ((za RX).later (za bS));have L3:=zaa (show zf 0 _ (some ⟨g3,0,none⟩) c3 y.cl from zae (za L3) (za bS));have GE:=zaa (za F).size;have F:=zaa ((za F).trans ((za bS).mono (za F).size));have KB:=zaa (za KF _ (za F));go_simp
     refine hK.out _ _ ?_ (fun hHeld=>?_)
     ·try dsimp only
      exact za KB
     clear hK K;refine hP ?_;refine hT 13 ?_;refine wpAnyH_done (by kernel_rfl) ?_ _;clear hHeld KB bS
     go_wp2
     go_ret
     exact⟨U3.heap.size,⟨k'.ra,k'.rc,k'.pa,k'.pc,some ⟨g3,0,none⟩,c3⟩,{ y with ps:=l.map pwq },rfl,za FIN _ _ _ _ (by unfold zib;dsimp only;rw[List.length_map,za HLEN,za HM];exact za XS) (za RX) (za L3),za EY,za F,za GE⟩
    exact AllReadyH.nil
   exact AllReadyH.nil
  exact AllReadyH.nil
 exact AllReadyH.nil
end
end Go.Proofs.YtjcjleaicjhpeaaGreatDoor
