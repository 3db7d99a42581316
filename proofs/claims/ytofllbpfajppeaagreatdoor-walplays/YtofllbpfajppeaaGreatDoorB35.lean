/- The document's log: Open, where no file but the log's own is there (written by wip/mkwxq.py). -/
import Derived.Test.YtofllbpfajppeaaGreatDoorB34
import Derived.Test.YtofllbpfajppeaaGreatDoorB19
set_option linter.unusedVariables false
set_option maxRecDepth 20000
set_option maxHeartbeats 16000000
namespace Go.Proofs.YtofllbpfajppeaaGreatDoor
open Go.ChangeShapes Go.WideShapes Go.ChangeAt Go.RowKit
def zjv (n:Nat) (ss:Ds):Nat×Ds×Option (Wc×Nat) :=
 match zc4 (zdq (zdn (walNm n) ss)).1 with
 |none=>(4,ss,none)
 |some c=>(0,(zax (walNm n) (if (zdq (zdn (walNm n) ss)).2<(zdn (walNm n) ss).length then (zf (walNm n) ((zdq (zdn (walNm n) ss)).2:Int) ss).2 else ss)).2,some (c,n))
def zqc (room k0:Nat) (ss:Ds):Nat×Ds×Option (Wc×Nat) :=
 if k0=0 then (if (zcb room 0 (za7 wc0) ss).1≠0 then ((zcb room 0 (za7 wc0) ss).1,(zcb room 0 (za7 wc0) ss).2,none) else zjv 1 (zcb room 0 (za7 wc0) ss).2) else zjv k0 ss
def zwd (Fv:Nat→Prop) (w cur:World) (Lr:Nat):Nat→Prop:=fun g=>Fv g∨(w.heap.size≤g∧g<cur.heap.size∧g≠Lr)
def zo9 (Fv:Nat→Prop) (w:World) (R room:Nat) (r:Nat×Ds×Option (Wc×Nat)) (e:Ending) (w':World):Prop:=w.grownBy w' (some R)∧(match r.2.2 with
 |none=>e=.returned (.tuple #[.pointer none,.int .i64 (r.1:Int)])∧RAt (fun g=>Fv g∨(w.heap.size≤g∧g<w'.heap.size)) w' R room r.2.1
 |some (c,n)=>∃ Lr,e=.returned (.tuple #[.pointer (some ⟨Lr,0,none⟩),.int .i64 0])∧w.heap.size≤Lr∧Lr<w'.heap.size∧RL (zwd Fv w w' Lr) w' Lr R room r.2.1 n c)
structure RO (Fv:Nat→Prop) (w cur:World) (Lr R room:Nat) (ss:Ds) (n:Nat) (c:Wc):Prop where
 rl:RL (zwd Fv w cur Lr) cur Lr R room ss n c
 lo:w.heap.size≤Lr
 hR:R<w.heap.size
 gr:w.grownBy cur (some R)
section
variable {Fv:Nat→Prop} {w cur cur':World} {Lr R room n:Nat} {ss uu:Ds} {c:Wc}
theorem RAt.ltF (h:RAt Fv w R room ss):RAt (fun g=>Fv g∧g<w.heap.size) w R room ss:=by
 obtain⟨sp,c,rs,q1,q2,q3⟩:=h;exact⟨sp,c,rs,q1,q2,fun g hg=>⟨q3 g hg,(q1.own.lt hg).2⟩⟩
theorem RO.nF (h:RO Fv w cur Lr R room ss n c):¬ Fv Lr∧¬ Fv R:=⟨fun q=>h.rl.nL (.inl q),fun q=>h.rl.nR (.inl q)⟩
theorem RO.no (h:RO Fv w cur Lr R room ss n c) (v:World):¬ zwd Fv w v Lr Lr∧¬ zwd Fv w v Lr R:=⟨fun q=>q.elim h.nF.1 (fun z=>z.2.2 rfl),fun q=>q.elim h.nF.2 (fun z=>by have:=h.hR;omega)⟩
theorem RO.later (h:RO Fv w cur Lr R room ss n c) (b:Below cur.heap.size cur cur'):RO Fv w cur' Lr R room ss n c :=
 ⟨(h.rl.later b).sub (fun g hg=>hg.imp id (fun q=>⟨q.1,Nat.lt_of_lt_of_le q.2.1 b.size,q.2.2⟩)) (h.no _).1 (h.no _).2,h.lo,h.hR,zag h.gr (zb0 _ b)⟩
theorem RO.disk (h:RO Fv w cur Lr R room ss n c) (hs:RSo (zwd Fv w cur Lr) cur cur' R room uu):RO Fv w cur' Lr R room uu n c:=by
 have hl:=h.rl.ltL;have h1:=h.gr.size;have h2:=hs.grown.size;refine⟨(h.rl.disk hs).sub (fun g hg=>?_) (h.no _).1 (h.no _).2,h.lo,h.hR,zag h.gr hs.grown⟩;rcases hg with hg|hg
 ·exact hg.imp id (fun q=>⟨q.1,by omega,q.2.2⟩)
 ·exact .inr ⟨by omega,hg.2,by omega⟩
theorem RO.anew {c2:Wc} {m:Nat} (h:RO Fv w cur Lr R room ss n c) (h3:RL (fun g=>zwd Fv w cur Lr g∨(cur.heap.size≤g∧g<cur'.heap.size)) cur' Lr R room uu m c2) (h4:Grew2 Lr (some R) cur cur'):RO Fv w cur' Lr R room uu m c2:=by
 have hl:=h.rl.ltL;have h1:=h.gr.size;have h2:=h4.size;have hlo:=h.lo;refine⟨h3.sub (fun g hg=>?_) (h.no _).1 (h.no _).2,h.lo,h.hR,⟨h4.os.trans h.gr.os,h4.tape.trans h.gr.tape,h4.output.trans h.gr.output,Nat.le_trans h1 h2,fun i hi e=>(h4.block i (by omega) (by omega) (fun q=>e q.symm)).trans (h.gr.block i hi e)⟩⟩;rcases hg with hg|hg
 ·exact hg.imp id (fun q=>⟨q.1,by omega,q.2.2⟩)
 ·exact .inr ⟨by omega,hg.2,by omega⟩
theorem RO.start (h:RSo Fv w cur R room ss) (hF:∀ g,Fv g→g<w.heap.size) (hR:¬ Fv R) (hRl:R<w.heap.size):RO Fv w (cur.alloc (.cells #[.pointer (some ⟨R,0,none⟩),.int .i64 0,.int .i64 0,.int .i64 0,.int .i64 0,.int .i64 0,.slice none 0 0] 79)) cur.heap.size R room ss 0 wc0:=by
 have hs:(cur.alloc (.cells #[.pointer (some ⟨R,0,none⟩),.int .i64 0,.int .i64 0,.int .i64 0,.int .i64 0,.int .i64 0,.slice none 0 0] 79)).heap.size=cur.heap.size+1:=by simp
 have h1:=h.grown.size;have hb:Below cur.heap.size cur (cur.alloc (.cells #[.pointer (some ⟨R,0,none⟩),.int .i64 0,.int .i64 0,.int .i64 0,.int .i64 0,.int .i64 0,.slice none 0 0] 79)):=(Below.refl _ _).alloc (Nat.le_refl _) _;refine⟨⟨(h.at_.ltF.later hb).sub (fun g hg=>?_),fun e=>by omega,fun q=>?_,fun q=>?_,⟨none,0,zad cur _,zin⟩,zj2,Ix.nil,by simp[wc0],by omega⟩,h1,hRl,zag h.grown (zb0 _ hb)⟩
 ·rcases hg.1 with q|q
  ·exact .inl q
  ·exact .inr ⟨q.1,by rw[hs];omega,by omega⟩
 ·rcases q with q|q
  ·have:=hF _ q;omega
  ·exact q.2.2 rfl
 ·rcases q with q|q
  ·exact hR q
  ·omega
theorem RO.num (h:RO Fv w cur Lr R room ss n wc0) (g:cur.grownBy cur' (some Lr)) {m:Nat} (hm:m<1099511627776) (hrow:cur'.heap[Lr]? = some (.cells #[.pointer (some ⟨R,0,none⟩),.int .i64 (m:Int),.int .i64 0,.int .i64 0,.int .i64 0,.int .i64 0,.slice none 0 0] 79 (0,0))):RO Fv w cur' Lr R room ss m wc0:=by
 have h1:=h.gr.size;have h2:=g.size;have hlo:=h.lo;have ha:RAt (zwd Fv w cur Lr) cur' R room ss:=by
  obtain⟨sp',c',rs,q1,q2,q3⟩:=h.rl.dk;refine⟨sp',c',rs,q1.same (g.block R h.rl.dk.ltR (fun e=>h.rl.ne (Option.some.inj e).symm)) (fun x hx=>g.block x (q1.own.lt hx).2 (fun e=>?_)),q2,q3⟩;have e2:=Option.some.inj e;have z:=q3 x hx;rw[e2] at z;exact h.rl.nL z
 refine⟨⟨ha.sub (fun g hg=>hg.imp id (fun q=>⟨q.1,by omega,q.2.2⟩)),h.rl.ne,(h.no _).1,(h.no _).2,⟨none,0,hrow,zin⟩,zj2,Ix.nil,by simp[wc0],hm⟩,h.lo,h.hR,⟨g.os.trans h.gr.os,g.tape.trans h.gr.tape,g.output.trans h.gr.output,Nat.le_trans h1 h2,fun i hi e=>(g.block i (by omega) (fun q=>by have:=Option.some.inj q;omega)).trans (h.gr.block i hi e)⟩⟩
theorem RO.bad (h:RO Fv w cur Lr R room ss n c) {r:Nat×Ds×Option (Wc×Nat)} (hr:r.2=(ss,none)):zo9 Fv w R room r (.returned (.tuple #[.pointer none,.int .i64 (r.1:Int)])) cur:=by
 obtain⟨a,b,o⟩:=r;simp only[Prod.mk.injEq] at hr;obtain⟨rfl,rfl⟩:=hr;exact⟨h.gr,rfl,h.rl.dk.sub (fun g hg=>hg.imp id (fun q=>⟨q.1,q.2.1⟩))⟩
theorem RO.good (h:RO Fv w cur Lr R room ss n c) {r:Nat×Ds×Option (Wc×Nat)} (hr:r.2=(ss,some (c,n))):zo9 Fv w R room r (.returned (.tuple #[.pointer (some ⟨Lr,0,none⟩),.int .i64 0])) cur:=by
 obtain⟨a,b,o⟩:=r;simp only[Prod.mk.injEq] at hr;obtain⟨rfl,rfl⟩:=hr;exact⟨h.gr,Lr,rfl,h.lo,h.rl.ltL,h.rl⟩
theorem RO.store (h:RO Fv w cur Lr R room ss n wc0) (g:cur.grownBy cur' (some Lr)) {c2:Wc} {sp2:Option Addr} {k2:Nat} (hrow:cur'.heap[Lr]? = some (.cells (zhw R n c2 sp2 k2) 79 (0,0))) (hE:EntsIn (zwd Fv w cur Lr) cur sp2 (c2.es.map toI)) (ok:WOk c2) (ix:Ix c2) (le:c2.es.length≤1000000):RO Fv w cur' Lr R room ss n c2:=by
 have h1:=h.gr.size;have h2:=g.size;have hlo:=h.lo;exact⟨(h.rl.store g hrow hE ok ix le).sub (fun g hg=>hg.imp id (fun q=>⟨q.1,by omega,q.2.2⟩)) (h.no _).1 (h.no _).2,h.lo,h.hR,⟨g.os.trans h.gr.os,g.tape.trans h.gr.tape,g.output.trans h.gr.output,Nat.le_trans h1 h2,fun i hi e=>(g.block i (by omega) (fun q=>by have:=Option.some.inj q;omega)).trans (h.gr.block i hi e)⟩⟩
theorem zr7 {hs:List (List Nat)} (h:hs=[]∨(∃ r,hs=[]::r)∨∃ x b r,x≠1∧hs=(x::b)::r):zc4 hs=none:=by
 rcases h with rfl|⟨r,rfl⟩|⟨x,b,r,hx,rfl⟩
 ·rfl
 ·rfl
 ·show(if zcq (x::b)=true then zb4 wc0 ((x::b)::r) else none)=none
  rw[if_neg];unfold zcq;simp[hx]
theorem zze {b:List Nat} {r:List (List Nat)} : zc4 ((1::b)::r)=zb4 wc0 ((1::b)::r):=by
 show(if zcq (1::b)=true then zb4 wc0 ((1::b)::r) else none)=_
 have h:zcq (1::b)=true:=rfl;rw[if_pos h]
theorem zpu:∀ {rs:List (List Nat)} {c c':Wc},zb4 c rs=some c'→(∀ r∈rs,∀ x∈r,x<256)→c.bi≤1099511627776→c'.bi≤1099511627776∧c'.es.length≤c.es.length+rs.length
 |[],c,c',h,_,hk=>by cases h;exact⟨hk,by simp⟩
 |r::rs,c,c',h,hl,hk=>by
  rw[zb5] at h;cases h1:zcz c r with
  |none=>rw[h1] at h;cases h
  |some c1 =>
   rw[h1] at h;have a:=zt3 h1 (hl r (by simp)) hk;have b:=zpu h (fun x hx=>hl x (by simp[hx])) a.1;simp only[List.length_cons];omega
theorem zux {rs:List (List Nat)} {c c':Wc} {j:Nat} (hj:j<rs.length) (h:zb4 c (rs.take j)=some c') (h2:zcz c' rs[j]=none):zb4 c rs=none:=by
 have e:rs=rs.take j++rs[j]::rs.drop (j+1):=by rw[← List.drop_eq_getElem_cons hj,List.take_append_drop]
 rw[e,zfz,h];dsimp only;rw[zb5,h2]
theorem zuw {rs:List (List Nat)} {c c':Wc} {j:Nat} (hj:j<rs.length) (h:zb4 c (rs.take j)=some c'):zb4 c (rs.take (j+1))=zcz c' rs[j]:=by
 rw[List.take_succ_eq_append_getElem hj,zjc _ _ _ _ h]
structure StI (V:World) (E:Nat) (c:Wc) (wr:World):Prop where
 bel:Below E V wr
 ex:∃ sp k,wr.heap[E]? = some (.cells (zb1 c sp k) 51 (0,0))∧EntsIn (fun g=>E<g) wr sp (c.es.map toI)
def TkI (V:World) (E:Nat) (hs:List (List Nat)) (j:Nat) (ok:Bool) (wr:World):Prop:=(ok=true→∃ c,zb4 wc0 (hs.take j)=some c∧StI V E c wr)∧(ok=false→zb4 wc0 hs=none∧Below E V wr)
theorem zi7.one {P:Nat→Prop} {r:Option Wc} {e:Ending} {w w':World} (h:zi7 P w r e w'):Below w.heap.size w w'∧∃ (v0 v1 v2 v3:Int) (p:Option Addr) (m q:Nat) (ok:Bool),e=.returned (.tuple #[.agg #[.int .i64 v0,.int .i64 v1,.int .i64 v2,.int .i64 v3,.slice p m q],.bool ok])∧(ok=true→∃ c' sp k,r=some c'∧#[.int .i64 v0,.int .i64 v1,.int .i64 v2,.int .i64 v3,.slice p m q]=zb1 c' sp k∧EntsIn (fun g=>P g∨(w.heap.size≤g∧g<w'.heap.size)) w' sp (c'.es.map toI))∧(ok=false→r=none):=by
 obtain⟨hb,h⟩:=h;cases r with
 |none =>
  obtain⟨v0,v1,v2,v3,p,m,q,rfl⟩:=h;exact⟨hb,v0,v1,v2,v3,p,m,q,false,rfl,fun h=>(by cases h),fun _=>rfl⟩
 |some c' =>
  obtain⟨sp,k,rfl,hE⟩:=h;exact⟨hb,_,_,_,_,_,_,_,true,rfl,fun _=>⟨c',sp,k,rfl,rfl,hE⟩,fun h=>(by cases h)⟩
theorem zsi (h:RAt Fv w R room ss) (hF:∀ g,Fv g→g<w.heap.size) (hnR:¬ Fv R) (hc:zht 300 ss) (k0:Nat) (hk0:k0+1<1099511627776) (hk:∀ x∈ss,zg6 walW x.1=k0) (hke:ss=[]→k0=0) (ht:zcc zau ss=none) (hnm:∀ x∈ss,x.1.length≤64) :
  Calls Tryz.prog 63 #[.pointer (some ⟨R,0,none⟩)] w (zo9 Fv w R room (zqc room k0 ss)):=by
 have RW:=zaa h.ltR;have LN:=zaa h.len;have RI:=zaa h.rise;have HF:=zaa hF;have HNR:=zaa hnR;have FEW:=zaa hc;have RC:=zaa (zea (RSo.start h) (str zau));rw[zam,show zat zau ss=(8,ss) by unfold zat;rw[ht],← zyf] at RC;have RO0:=zaa (show zqc room k0 ss=(if k0=0 then (if (zcb room 0 (za7 wc0) ss).1≠0 then ((zcb room 0 (za7 wc0) ss).1,(zcb room 0 (za7 wc0) ss).2,none) else zjv 1 (zcb room 0 (za7 wc0) ss).2) else zjv k0 ss) from rfl);generalize zqc room k0 ss=RR at *;clear h hF hnR hc ht
 have HK:=zaa (show ∀ s∈ss.map (·.1),zg6 walW s=k0∧s.length≤64 from fun s hs=>by
  obtain⟨x,hx,rfl⟩:=List.mem_map.1 hs
  exact⟨hk x hx,hnm x hx⟩)
 have HE:=zaa (show(ss.map (·.1)).length=0→k0=0 from fun e=>hke (by rw[List.length_map] at e;exact List.eq_nil_of_length_eq_zero e));clear hk hke hnm;go_enter Tryz.func63,Tryz.ntmps63
 go_wp2_with fail
 go_at_call 98
 refine(za RC).mono ?_;rintro e V1 ⟨rfl,s1,_⟩;have O1:=zaa (RO.start s1 (za HF) (za HNR) (za RW));have XL1:=zaa (zad V1 (.cells #[.pointer (some ⟨R,0,none⟩),.int .i64 0,.int .i64 0,.int .i64 0,.int .i64 0,.int .i64 0,.slice none 0 0] 79));clear s1 RC
 go_wp2_with fail
 generalize V1.alloc _=W1 at *;generalize V1.heap.size=Lr at *;have NC:=zaa (zhd (RSo.start (za O1).rl.dk));go_at_call 39
 refine(za NC).mono ?_;rintro e V2 ⟨sp2,n2,k2,rfl,hn2,o2,_,v2⟩;have O2:=zaa ((za O1).later v2);have XL2:=zaa (zac v2 (za XL1));have NM:=zaa o2
 have BK:=zaa (show ∀ g,blk sp2=some g→g≠Lr∧g<V2.heap.size from fun g hg=>by
  have h1:=(o2.blk_is g hg)
  have h2:=(za O1).rl.ltL
  exact⟨by omega,h1.2.1⟩)
 obtain⟨l,hll⟩:∃ l,ss.map (·.1)=l:=⟨_,rfl⟩
 have HN:=zaa (show l.length=n2 by rw[← hll,List.length_map];exact hn2);have N16:n2≤16:=by rw[← hn2];exact za LN
 rw[hll] at NM HK HE;clear o2 v2 NC hn2 hll O1 XL1
 go_wp2_with fail
 go_loopw [6,7] (fun i _ wr=>∃ (j m:Nat),j≤n2∧i=.int .i64 (j:Int)∧Hid ((j=0→m=0)∧(0<j→m=k0))∧Hid (RO Fv w wr Lr R room ss m wc0)∧Hid (wr.heap[Lr]? = some (.cells #[.pointer (some ⟨R,0,none⟩),.int .i64 (m:Int),.int .i64 0,.int .i64 0,.int .i64 0,.int .i64 0,.slice none 0 0] 79 (0,0)))∧Hid (V2.grownBy wr (some Lr))) (fun i _ _=>n2 - (intOf i).toNat)
 case atStart=>exact⟨0,0,by omega,rfl,zaa ⟨fun _=>rfl,fun h=>by omega⟩,O2,XL2,zaa (zdf _ _)⟩
 case round =>
  obtain⟨j,m,hj,rfl,hm,O3,XL3,G3⟩:=hrel;by_cases hjm:j<n2
  ·have y0:(0:Int)≤(j:Int):=by omega
   have y1:(j:Int)<(n2:Int):=by omega
   have hjl:j<l.length:=by rw[za HN];exact hjm
   obtain⟨g,rfl,q0⟩:=((za NM).same (w':=wr) (fun g hg=>(za G3).block g (za BK g hg).2 (fun e=>(za BK g hg).1 (Option.some.inj e)))).cell j hjl;obtain⟨hx1,hx2⟩:=za HK l[j] (List.getElem_mem hjl);have NU:=zaa (zh3 walW l[j] (by decide) hx2 wr);rw[hx1,show str walW=(⟨#[119,97,108,45]⟩:ByteArray) from rfl] at NU;generalize str l[j]=nm at *;clear hx1 hx2 hjl
   go_wp2_with fail
   clear q0;go_at_call 99
   refine(za NU).mono ?_;rintro e V4 ⟨rfl,v4⟩;have O4:=zaa ((za O3).later v4);have XL4:=zaa (zac v4 (za XL3));have G4:=zaa (zag (za G3) (zb0 _ v4));have l1:=zab (za XL4) 1 _ rfl;clear v4 NU O3 XL3 G3;by_cases hmk:m<k0
   ·have y2:(m:Int)<(k0:Int):=by omega
    have fz:=zae (za XL4) 1;have SR:=zaa (heap_setCell_same V4 Lr 1 _ 79 (.int .i64 (k0:Int)) (za XL4));have SG:=zaa (zaf V4 Lr 1 (.int .i64 (k0:Int)));have FO:=zaa ((za O4).num (za SG) (by omega) (za SR));have GG:=zaa (zag (za G4) (za SG));clear l1 hmk;have l1:=zab (za XL4) 1 _ rfl
    go_wp2
    exact⟨⟨j+1,k0,by omega,by go_num,zaa ⟨fun h=>by omega,fun _=>rfl⟩,FO,SR,GG⟩,by simp[intOf];omega⟩
   ·have y2:¬ (m:Int)<(k0:Int):=by omega
    have MM:=zaa (show(j+1=0→m=0)∧(0<j+1→m=k0) from⟨fun h=>by omega,fun _=>by
     rcases Nat.eq_zero_or_pos j with h0|h0
     ·have:=(za hm).1 h0;omega
     ·exact(za hm).2 h0⟩)
    go_wp2
    exact⟨⟨j+1,m,by omega,by go_num,MM,O4,XL4,G4⟩,by simp[intOf];omega⟩
  ·have hmk:m=k0:=by
    rcases Nat.eq_zero_or_pos j with h0|h0
    ·have h1:=(za hm).1 h0;have h2:=za HE (by rw[za HN];omega);omega
    ·exact(za hm).2 h0
   have y1:¬ (j:Int)<(n2:Int):=by omega
   subst hmk;clear hm O2 XL2;obtain⟨V3,hV3⟩:∃ V3,V3=wr:=⟨_,rfl⟩
   subst hV3;have NM3:=zaa ((za NM).same (w':=V3) (fun g hg=>(za G3).block g (za BK g hg).2 (fun e=>(za BK g hg).1 (Option.some.inj e))));clear NM BK G3
   go_wp2_with fail
   clear y1 hjm hj;go_loopw [8,9] (fun i _ wr=>∃ (j2:Nat),j2≤n2∧i=.int .i64 (j2:Int)∧Hid (Below V3.heap.size V3 wr)) (fun i _ _=>n2 - (intOf i).toNat)
   case atStart=>exact⟨0,by omega,rfl,zaa (Below.refl _ _)⟩
   case round =>
    obtain⟨j2,hj2,rfl,B5⟩:=hrel;by_cases hjm2:j2<n2
    ·have y0:(0:Int)≤(j2:Int):=by omega
     have y1:(j2:Int)<(n2:Int):=by omega
     have hjl:j2<l.length:=by rw[za HN];exact hjm2
     obtain⟨g,rfl,q0⟩:=((za NM3).later (za B5)).cell j2 hjl;obtain⟨hx1,hx2⟩:=za HK l[j2] (List.getElem_mem hjl);have NU:=zaa (zh3 walW l[j2] (by decide) hx2 wr);rw[hx1,show str walW=(⟨#[119,97,108,45]⟩:ByteArray) from rfl] at NU;generalize str l[j2]=nm at *;clear hx1 hx2 hjl
     go_wp2_with fail
     clear q0;go_at_call 99
     refine(za NU).mono ?_;rintro e V6 ⟨rfl,v6⟩;have B6:=zaa ((za B5).trans (v6.mono (za B5).size));have l1:=zab (zac (za B6) (za XL3)) 1 _ rfl;clear v6 NU;by_cases hz:m=0
     ·have k1:¬ (0:Int)<(m:Int):=by omega
      clear hz
      go_wp2
      exact⟨⟨j2+1,by omega,by go_num,B6⟩,by simp[intOf];omega⟩
     ·have k1:(0:Int)<(m:Int):=by omega
      clear hz
      go_wp2
      exact⟨⟨j2+1,by omega,by go_num,B6⟩,by simp[intOf];omega⟩
    ·have y1:¬ (j2:Int)<(n2:Int):=by omega
     obtain⟨V5,hV5⟩:∃ V5,V5=wr:=⟨_,rfl⟩
     subst hV5;have O5:=zaa ((za O3).later (za B5));have XL5:=zaa (zac (za B5) (za XL3));have l1:=zab (za XL5) 1 _ rfl;clear O3 XL3 NM3 B5 HK HE HN LN;rcases Nat.eq_zero_or_pos m with hz|hz
     focus
      subst hz;rw[if_pos rfl] at RO0;have AC:=zaa (zg9 (za O5).rl (za FEW) (by omega) (Below.refl _ _) wc0 none 0 zin zj2 Ix.nil (by simp[wc0]));rw[show(.agg (zb1 wc0 none 0):Value)=.agg #[.int .i64 0,.int .i64 0,.int .i64 0,.int .i64 0,.slice none 0 0] from rfl] at AC;rw[show zve room 0 wc0 wc0 ss=(if (zcb room 0 (za7 wc0) ss).1≠0 then ((zcb room 0 (za7 wc0) ss).1,(zcb room 0 (za7 wc0) ss).2,wc0,0) else (0,(zcb room 0 (za7 wc0) ss).2,wc0,1)) from rfl] at AC;have FA:=zaa (fun h0=>zt (n:=0) (room:=room) (b:=za7 wc0) (za RI) (za FEW) h0);generalize zcb room 0 (za7 wc0) ss=ra at *;obtain⟨e3,s3⟩:=ra;dsimp only at AC FA RO0;rw[show((0:Nat):Int)=0 from rfl] at l1
      go_wp2_with fail
      clear l1;go_at_call 76
      refine(za AC).mono ?_;rcases Classical.em (e3≠0) with h30|h30
      focus
       rw[if_pos h30] at RO0;rw[if_pos h30];rintro e V6 ⟨⟨rfl,h3,h4⟩,_⟩;have FE:=zaa ((RO.anew (za O5) h3 h4).bad (r:=(e3,s3,none)) rfl);have k1:((e3:Int)==0)=false:=by simp;omega
       have k2:¬ (e3:Int)=0:=by omega
       clear h3 h4
       go_wp2
       go_ret2
       rw[za RO0];exact za FE
      rw[if_neg h30] at RO0;rw[if_neg h30];rintro e V6 ⟨⟨rfl,h3,h4⟩,_⟩;have O6:=zaa (RO.anew (za O5) h3 h4);have FW:=zaa (za FA (by omega));obtain⟨nn,hnn⟩:∃ nn:Nat,nn=1:=⟨1,rfl⟩
      rw[← hnn] at O6 RO0;have NP:=zaa (show 0<nn∧nn<1099511627776 by omega);dsimp only;rw[show((0:Nat):Int)=0 from rfl];clear h3 h4 hnn AC FA h30 O5 XL5 FEW
      go_wp2_with fail
     rotate_left
     focus
      rw[if_neg (by omega)] at RO0;have k1:((m:Int)==0)=false:=by simp;omega
      have k2:¬ (m:Int)=0:=by omega
      go_wp2_with fail
      clear l1 k1 k2;have O6:=zaa (za O5);have FW:=zaa (za FEW);have NP:=zaa (show 0<m∧m<1099511627776 by omega);obtain⟨V6,hV6⟩:∃ V6,V6=V5:=⟨_,rfl⟩
      subst hV6;obtain⟨nn,hnn⟩:∃ nn:Nat,nn=m:=⟨m,rfl⟩
      subst hnn;obtain⟨s3,hs3⟩:∃ s3,s3=ss:=⟨ss,rfl⟩
      subst hs3;clear O5 XL5 FEW
     all_goals
      have FC:=zaa (zdv (za O6).rl);go_at_call 42
      refine(za FC).mono ?_;rintro e V7 ⟨rfl,v7⟩;have O7:=zaa ((za O6).later v7);have DC:=zaa (ze5 (RSo.start (za O7).rl.dk) (str (walNm nn)));rw[zam] at DC
      have RT:=zaa (show zjv nn s3=(match zc4 (zdq (zdn (walNm nn) s3)).1 with
       |none=>(4,s3,none)
       |some c=>(0,(zax (walNm nn) (if (zdq (zdn (walNm nn) s3)).2<(zdn (walNm nn) s3).length then (zf (walNm nn) ((zdq (zdn (walNm nn) s3)).2:Int) s3).2 else s3)).2,some (c,nn))) from rfl)
      rw[← za RO0] at RT;generalize zdn (walNm nn) s3=lb at *;clear v7 FC O6 RO0
      go_wp2_with fail
      go_at_call 45
      refine(za DC).mono ?_;rintro e V8 ⟨rp,rn,rc,rx,rfl,hrn,hr8,hbx,_,v8⟩;have O8:=zaa ((za O7).later v8);have AC2:=zaa (zqj rp rc lb V8 (by omega) hbx.cap.1 hbx.nil0 hbx.bytes);rw[hrn] at AC2;have HRN:=zaa hrn;clear v8 hbx DC O7 hrn
      go_wp2_with fail
      go_at_call 100
      refine(za AC2).mono ?_;rintro e V9 ⟨v9,hs,kk,rfl,b9,o9,st,ne,hkl⟩;have O9:=zaa ((za O8).later b9);rw[zog st ne (by rw[za HRN];exact hkl)] at RT;dsimp only at RT;obtain⟨sp9,c9,rfl⟩:=o9.form;have ROWS:=zaa o9.rows;have OLT:=zaa o9.lt;have SL:=zaa (show hs.length≤100000∧(∀ r∈hs,r.length≤262144) from⟨by have:=st.length_le;omega,fun r hr=>by have:=zou st r hr;have:=za HRN;omega⟩);have HKL:=zaa (show(kk:Int)≤262144 by omega)
      have NO4:=zaa (show zc4 hs=none→zo9 Fv w R room RR (.returned (.tuple #[.pointer none,.int .i64 4])) V9 from fun h=>by
       rw[za RT,h]
       exact(za O9).bad (r:=(4,s3,none)) rfl)
      clear st ne hkl b9 o9 AC2 O8;obtain⟨hn,hhn⟩:∃ hn,hs.length=hn:=⟨_,rfl⟩
      have HHN:=zaa hhn;rw[hhn];clear hhn;by_cases z0:hn=0
      ·have z1:((hn:Int)==0)=true:=by simp;omega
       have z2:(hn:Int)=0:=by omega
       have FE:=zaa (za NO4 (zr7 (.inl (List.eq_nil_of_length_eq_zero (by rw[za HHN];exact z0)))));clear z0 NO4
       go_wp2
       go_ret2
       exact za FE
      ·as_aux_lemma =>
       have z1:((hn:Int)==0)=false:=by simp;omega
       have z2:¬ (hn:Int)=0:=by omega
       have h0l:0<hs.length:=by rw[za HHN];omega
       obtain⟨b9,off9,a0,q9,hsp9,cl0,hb0,hd1,hd2⟩:=(za ROWS).cell 0 h0l;clear hd1 hd2;subst hsp9;rw[Nat.add_zero] at cl0;obtain⟨r0,hr0⟩:∃ r0,hs[0]=r0:=⟨_,rfl⟩
       rw[hr0] at cl0 hb0
       have HR0:=zaa (show ∃ rs0,hs=r0::rs0 from by
        cases hs with
        |nil=>simp at h0l
        |cons a b=>exact⟨b,by rw[← hr0];rfl⟩)
       obtain⟨r0n,hr0n⟩:∃ k,r0.length=k:=⟨_,rfl⟩
       rw[hr0n] at cl0;clear hr0 h0l z0;by_cases z3:r0n=0
       ·have z4:((r0n:Int)==0)=true:=by simp;omega
        have z5:(r0n:Int)=0:=by omega
        have FE:=zaa (za NO4 (zr7 (.inr (.inl (by
         obtain⟨x,hx⟩:=za HR0
         exact⟨x,by rw[hx,List.eq_nil_of_length_eq_zero (show r0.length=0 by omega)]⟩)))))
        clear z3 NO4 hr0n hb0
        go_wp2
        go_ret2
        exact za FE
       ·have z4:((r0n:Int)==0)=false:=by simp;omega
        have z5:¬ (r0n:Int)=0:=by omega
        have z6:(0:Int)<(r0n:Int):=by omega
        obtain⟨g0,o0,ha0,cb0⟩:=hb0.cell 0 (by omega);subst ha0;rw[Nat.add_zero] at cb0;obtain⟨x0,hx0⟩:∃ x,r0.getD 0 0=x:=⟨_,rfl⟩
        rw[hx0] at cb0
        have HX:=zaa (show ∃ bs rs0,hs=(x0::bs)::rs0 from by
         obtain⟨x,hx⟩:=za HR0;cases r0 with
         |nil=>simp at hr0n;omega
         |cons a b=>exact⟨b,x,by rw[hx,← hx0];rfl⟩)
        clear z3 hr0n hb0 hx0 HR0;by_cases z7:x0=1
        ·subst z7;rw[show((1:Nat):Int)=1 from rfl] at cb0
         have FH:=zaa (show zc4 hs=zb4 wc0 hs from by
          obtain⟨x,y,hx⟩:=za HX;rw[hx]
          exact zze)
         rw[za FH] at RT;have X10:=zaa (zad V9 (.cells #[.int .i64 0,.int .i64 0,.int .i64 0,.int .i64 0,.slice none 0 0] 51));have U10:=zaa (show Below V9.heap.size V9 (V9.alloc (.cells #[.int .i64 0,.int .i64 0,.int .i64 0,.int .i64 0,.slice none 0 0] 51)) from(Below.refl _ _).alloc (Nat.le_refl _) _)
         go_wp2_with fail
         have RLT:=zaa (zg cl0);clear cb0 cl0 HX FH NO4 z1 z2 z4 z5 z6;generalize V9.alloc _=W9 at *;have E9:=zaa (rfl:V9.heap.size=V9.heap.size);generalize hE9:V9.heap.size=E at *;clear E9;have HE9:=zaa hE9;clear hE9;have I9:=zaa (show TkI V9 E hs 0 true W9 from⟨fun _=>⟨wc0,rfl,za U10,none,0,za X10,zin⟩,fun h=>by cases h⟩)
         have NP4:=zaa (show ∀ W,zb4 wc0 hs=none→Below E V9 W→zo9 Fv w R room RR (.returned (.tuple #[.pointer none,.int .i64 4])) W from fun W h u=>by
          rw[za RT,h]
          exact((za O9).later (by rw[za HE9];exact u)).bad (r:=(4,s3,none)) rfl)
         clear X10 U10;have hn5:hn≤100000:=by rw[← za HHN];exact(za SL).1
         go_loopw [16,17] (fun b i wr=>∃ (j3:Nat) (ok:Bool),j3≤hn∧i=.int .i64 (j3:Int)∧b=.bool ok∧Hid (TkI V9 E hs j3 ok wr)) (fun _ i _=>hn - (intOf i).toNat)
         case atStart=>exact⟨0,true,by omega,rfl,rfl,I9⟩
         case round =>
          obtain⟨j3,ok,hj3,rfl,rfl,T3⟩:=hrel;cases ok with
          |false =>
           have FE:=zaa (za NP4 _ ((za T3).2 rfl).1 ((za T3).2 rfl).2);by_cases hjn:j3<hn
           ·have y1:(j3:Int)<(hn:Int):=by omega
            go_wp2
            go_ret2
            exact za FE
           ·have y1:¬ (j3:Int)<(hn:Int):=by omega
            go_wp2
            go_ret2
            exact za FE
          |true =>
           obtain⟨c,hfc,⟨bel,sp,k,xE,en⟩⟩:=(za T3).1 rfl;have CI:=zaa (zn4 hfc Ix.nil);have CL:=zaa (zpu hfc (fun r hr=>za OLT r (List.mem_of_mem_take hr)) (show wc0.bi≤1099511627776 by simp[wc0]));have CK:=zaa (zn5 hfc (fun r hr=>za OLT r (List.mem_of_mem_take hr)) zj2)
           have C6:=zaa (show c.es.length≤1000000 by
            have h1:=(za CL).2;have h2:=(za SL).1;rw[List.length_take] at h1;simp only[wc0,List.length_nil] at h1
            omega)
           have HFC:=zaa hfc;have BEL:=zaa bel;have XE0:=zaa xE;have EN0:=zaa en;clear hfc bel xE en T3;by_cases hjn:j3<hn
           ·as_aux_lemma =>
            have y0:(0:Int)≤(j3:Int):=by omega
            have y1:(j3:Int)<(hn:Int):=by omega
            have hjl:j3<hs.length:=by rw[za HHN];exact hjn
            obtain⟨b,off,a,q,hee,cl,hb,hq,hz⟩:=(za ROWS).cell j3 hjl;simp only[Option.some.injEq,Addr.mk.injEq,and_true] at hee;obtain⟨rfl,rfl⟩:=hee;have LL:=za (za SL).2 hs[j3] (List.getElem_mem hjl);have NX:=zaa (fun c' (h:zcz c hs[j3]=some c')=>(zuw hjl (za HFC)).trans h);have NS:=zaa (fun (h:zcz c hs[j3]=none)=>zux hjl (za HFC) h);obtain⟨rl,hrl⟩:∃ rl,hs[j3]=rl:=⟨_,rfl⟩
            rw[hrl] at cl hb hq LL NX NS;obtain⟨ln,hln⟩:∃ ln,rl.length=ln:=⟨_,rfl⟩
            rw[hln] at cl hq LL;have TC:=zaa (fun (V:World) (u:Below wr.heap.size wr V) (u2:Below E V9 V)=>zsm (k:=k) (P:=fun g=>E<g) ((za EN0).later u) (za CI) (za CL).1 (by have:=za C6;omega) a ln q rl hln (by omega) hq hz (hb.later (by rw[za HE9];exact u2)));unfold zb1 at TC XE0;have SS:=zaa (fun (V:World) (u:Below E V9 V)=>cell_later (w:=V9) (by rw[za HE9];exact u) cl);have UB:=zaa ((za BEL).drew);have U:=zaa ((Below.refl wr.heap.size wr).drew);have XE:=zaa (show wr.drew.heap[E]? = some (.cells #[.int .i64 (c.bi:Int),.int .i64 (c.bt:Int),.int .i64 (c.ht:Int),.int .i64 (c.hv:Int),.slice sp c.es.length k] 51 (0,0)) from za XE0);have ELT:=zaa (show E<wr.heap.size∧wr.drew.heap.size=wr.heap.size from⟨(Array.getElem?_eq_some_iff.1 (za XE0)).1,rfl⟩);generalize hcn:c.es.length=cn at *;clear hjl hrl hln hcn LL cl hb hq hz XE0
            go_wp2_with fail
            refine wp_region_held_drew (S:=fun u=>u.cell? ⟨b9,off9+j3,none⟩=some (.slice a ln q)) (by kernel_rfl) ?_ (fun hHeld=>?_)
            ·try dsimp only
             exact za SS _ (za UB)
            refine hT 1 ?_;refine hT 2 ?_;refine hT 3 ?_;refine hT 4 ?_;refine wpAnyH_ready (rs:=[0]) (by kernel_rfl) (by simp) ?_;refine AllReadyH.cons rfl (fun K hK=>?_) ?_
            ·have z0:=zab (za XE) 0 _ rfl;have z1:=zab (za XE) 1 _ rfl;have z2:=zab (za XE) 2 _ rfl;have z3:=zab (za XE) 3 _ rfl;have z4:=zab (za XE) 4 _ rfl;go_simp
             clear z0 z1 z2 z3 z4;refine hK.out _ _ ?_ (fun hHeld=>?_)
             ·try dsimp only
              exact za SS _ (za UB)
             clear hK K;refine hP ?_;refine wpAnyH_ready (rs:=[5]) (by kernel_rfl) (by simp) ?_;refine AllReadyH.cons rfl (fun K hK=>?_) ?_
             ·go_simp
              refine(za TC _ (za U) (za UB)).mono ?_;intro e V he;obtain⟨v,v0,v1,v2,v3,p5,m5,q5,ok2,rfl,t1,t2⟩:=he.one;have XE:=zaa (zac v (za XE));have UB:=zaa ((za UB).trans (v.mono (Nat.le_of_lt (Nat.lt_of_lt_of_le (za ELT).1 (za U).size))));have T1:=zaa t1;have T2:=zaa t2;clear v t1 t2 he
              go_wp2_with fail
              refine hK.out _ _ ?_ (fun hHeld=>?_)
              ·try dsimp only
               exact za SS _ (za UB)
              clear hK K;refine hP ?_;refine hT 6 ?_;refine hT 7 ?_;refine hT 8 ?_;refine wpAnyH_ready (rs:=[9]) (by kernel_rfl) (by simp) ?_;refine AllReadyH.cons rfl (fun K hK=>?_) ?_
              ·obtain⟨W,hr,gW,hW⟩:=zbo (za XE) (.int .i64 v0) (.int .i64 v1) (.int .i64 v2) (.int .i64 v3) (.slice p5 m5 q5);have HW:=zaa hW;have z0:=zab (za XE) 0 _ rfl;have z1:=zab (za XE) 1 _ rfl;have z2:=zab (za XE) 2 _ rfl;have z3:=zab (za XE) 3 _ rfl;have z4:=zab (za XE) 4 _ rfl;have f0:=zae (za XE) 0;have f1:=zae (za XE) 1;have f2:=zae (za XE) 2;have f3:=zae (za XE) 3;have f4:=zae (za XE) 4;have XW:=zaa hr;have GW:=zaa gW;have UW:=zaa (zce (za UB) gW (Nat.le_refl _) (by rw[← za HE9];exact(za UB).size));clear hr hW gW;go_simp
               rw[za HW];have UB:=zaa (za UW);clear z0 z1 z2 z3 z4 f0 f1 f2 f3 f4 UW XE;refine hK.out _ _ ?_ (fun hHeld=>?_)
               ·try dsimp only
                exact za SS _ (za UB)
               clear hK K;refine hP ?_;refine hT 10 ?_;refine wpAnyH_done (by kernel_rfl) ?_ _
               have FI:=zaa (show TkI V9 E hs (j3+1) ok2 W from⟨fun h=>by
                obtain⟨c',sp',k',h1,h2,h3⟩:=za T1 h;refine⟨c',za NX c' h1,za UB,sp',k',by rw[← h2];exact za XW,?_⟩
                exact((h3.both.same (fun g hg=>(za GW).block g hg.2 (fun e=>by have:=Option.some.inj e;have h5:=hg.1;have:=za ELT;omega))).sub (fun g hg=>by have h5:=hg.1;have:=za ELT;omega)),fun h=>⟨za NS (za T2 h),za UB⟩⟩)
               go_wp2
               exact⟨⟨j3+1,ok2,by omega,by go_num,rfl,FI⟩,by simp[intOf];omega⟩
              exact AllReadyH.nil
             exact AllReadyH.nil
            exact AllReadyH.nil
           ·as_aux_lemma =>
            have y1:¬ (j3:Int)<(hn:Int):=by omega
            have FC:=zaa (show zb4 wc0 hs=some c from by
             have h:=za HFC;rw[List.take_of_length_le (by rw[za HHN];omega)] at h
             exact h)
            rw[za FC] at RT;dsimp only at RT;obtain⟨V10,hV10⟩:∃ V10,V10=wr:=⟨_,rfl⟩
            subst hV10;have O10:=zaa ((za O9).later (by rw[za HE9];exact za BEL));have ELT:=zaa (show E≤V10.heap.size from by rw[← za HE9];exact(za BEL).size)
            have LEQ:=zaa (show Lr<E∧R<E∧w.heap.size≤E from by
             have h1:=(za O9).rl.ltL;have h2:=(za O9).lo;have h3:=(za O9).hR;rw[za HE9] at h1
             omega)
            unfold zb1 at XE0;clear HFC FC BEL O9 ROWS OLT NP4 I9 SL hj3 hjn RLT;rw[za HRN] at RT;by_cases hcut:kk<rn
            focus
             rw[if_pos hcut] at RT;have y2:(kk:Int)<(rn:Int):=by omega
             have FC:=zaa (zdv (za O10).rl)
             go_wp2_with fail
             clear y2;go_at_call 42
             refine(za FC).mono ?_;rintro e V11 ⟨rfl,v11⟩;have O11:=zaa ((za O10).later v11);have XE11:=zaa (zac v11 (za XE0));have EN11:=zaa ((za EN0).later v11);have EL11:=zaa (Nat.le_trans (za ELT) v11.size);have DC:=zaa (zvu (RSo.start (za O11).rl.dk) (za FW) (str (walNm nn)) (kk:Int));rw[zam] at DC;clear v11 FC
             go_wp2_with fail
             go_at_call 102
             refine(za DC).mono ?_;rintro e V12 ⟨rfl,h12,g12⟩;have O12:=zaa ((za O11).disk h12);have XE12:=zaa (zao g12 (za XE11) (by have:=za LEQ;omega));have EN12:=zaa (((za EN11).both.same (fun g hg=>g12.block g hg.2 (fun e=>by have:=Option.some.inj e;have:=hg.1;have:=za LEQ;omega))).sub (Q:=fun g=>E<g) (fun g hg=>hg.1));clear h12 g12 DC O11 XE11 EN11 O10 XE0 EN0 EL11 ELT;generalize (zf (walNm nn) (kk:Int) s3).2=s12 at *
             go_wp2_with fail
            rotate_left
            focus
             rw[if_neg hcut] at RT;have y2:¬ (kk:Int)<(rn:Int):=by omega
             go_wp2_with fail
             clear y2;have O12:=zaa (za O10);have XE12:=zaa (za XE0);have EN12:=zaa (za EN0);obtain⟨V12,hV12⟩:∃ V12,V12=V10:=⟨_,rfl⟩
             subst hV12;obtain⟨s12,hs12⟩:∃ s12,s12=s3:=⟨_,rfl⟩
             subst hs12;clear O10 XE0 EN0 ELT
            all_goals
             as_aux_lemma =>
             have FC:=zaa (zdv (za O12).rl);go_at_call 42
             refine(za FC).mono ?_;rintro e V13 ⟨rfl,v13⟩;have O13:=zaa ((za O12).later v13);have XE13:=zaa (zac v13 (za XE12));have EN13:=zaa ((za EN12).later v13);have DC:=zaa (zgk (RSo.start (za O13).rl.dk) (str (walNm nn)));rw[zam] at DC;clear v13 FC
             go_wp2_with fail
             go_at_call 74
             refine(za DC).mono ?_;rintro e V14 ⟨rfl,h14,g14⟩;have O14:=zaa ((za O13).disk h14);have XE14:=zaa (zao g14 (za XE13) (by have:=za LEQ;omega));have EN14:=zaa (((za EN13).both.same (fun g hg=>g14.block g hg.2 (fun e=>by have:=Option.some.inj e;have:=hg.1;have:=za LEQ;omega))).sub (Q:=fun g=>E<g) (fun g hg=>hg.1));clear h14 g14 DC O13 XE13 EN13 O12 XE12 EN12;generalize (zax (walNm nn) s12).2=s14 at *;obtain⟨spL,kL,hrL,_⟩:=(za O14).rl.lg;obtain⟨W,hrW,gW,hW⟩:=zB0 hrL (.int .i64 (c.bi:Int)) (.int .i64 (c.bt:Int)) (.int .i64 (c.ht:Int)) (.int .i64 (c.hv:Int)) (.slice sp c.es.length k);have FF:=zaa (((za O14).store gW (c2:=c) (sp2:=sp) (k2:=k) hrW ((za EN14).both.sub (fun g hg=>.inr (by have:=hg.1;have:=hg.2;have:=za LEQ;omega))) (za CK) (za CI) (za C6)).good (r:=RR) (by rw[za RT]));have b0:=zab (za XE14) 0 _ rfl;have b1:=zab (za XE14) 1 _ rfl;have b2:=zab (za XE14) 2 _ rfl;have b3:=zab (za XE14) 3 _ rfl;have b4:=zab (za XE14) 4 _ rfl;unfold zhw at hrL;have k2:=zab hrL 2 _ rfl;have k3:=zab hrL 3 _ rfl;have k4:=zab hrL 4 _ rfl;have k5:=zab hrL 5 _ rfl;have k6:=zab hrL 6 _ rfl;have f2:=zae hrL 2;have f3:=zae hrL 3;have f4:=zae hrL 4;have f5:=zae hrL 5;have f6:=zae hrL 6;have HW:=zaa hW;clear hW gW hrW hrL;generalize c.es.length=cn at *
             go_wp2_with fail
             rw[za HW]
             go_ret2
             exact za FF
        ·have z8:((x0:Int)==1)=false:=by simp;omega
         have z9:¬ (x0:Int)=1:=by omega
         have FE:=zaa (za NO4 (zr7 (.inr (.inr (by
          obtain⟨y,x,hx⟩:=za HX
          exact⟨x0,y,x,z7,hx⟩)))))
         clear z7 NO4 HX
         go_wp2
         go_ret2
         exact za FE
end
end Go.Proofs.YtofllbpfajppeaaGreatDoor
