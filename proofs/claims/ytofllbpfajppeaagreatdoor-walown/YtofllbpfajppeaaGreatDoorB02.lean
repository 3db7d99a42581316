/- Disk: a file's changes; a file in memory; sync. -/
import Derived.Test.YtofllbpfajppeaaGreatDoorB01
import Derived.Maps.AppendAt
import Derived.Deep.RegionLaw
set_option linter.unusedVariables false
set_option maxRecDepth 20000
set_option maxHeartbeats 16000000
namespace Go.Proofs.YtofllbpfajppeaaGreatDoor
section
open Go.ChangeShapes Go.WideShapes Go.ChangeAt Go.RowKit
abbrev Chg:=Bool×Nat×List Nat
abbrev ChH:=Chg×(Option Addr×Nat)
def zic (x:ChH):List Value:=[.bool x.1.1,.int .i64 (x.1.2.1:Int),.slice x.2.1 x.1.2.2.length x.2.2]
theorem zgv (x:ChH):(zic x).length=3:=rfl
def zsj (xs:List ChH):List Value:=xs.flatMap zic
theorem zvn (xs:List ChH) (x:ChH):zsj (xs++[x])=zsj xs++zic x:=by simp[zsj]
theorem zqr:∀ (xs:List ChH) (i f:Nat) (hi:i<xs.length) (_:f<3),(zsj xs)[i*3+f]? = (zic xs[i])[f]?
 |[],i,_,hi,_=>by simp at hi
 |x::xs,0,f,_,hf=>by
  simp only[zsj,List.flatMap_cons,Nat.zero_mul,Nat.zero_add,List.getElem_cons_zero];rw[List.getElem?_append_left (by rw[zgv];exact hf)]
 |x::xs,i+1,f,hi,hf=>by
  have ih:=zqr xs i f (by simpa using hi) hf;simp only[zsj,List.flatMap_cons,List.getElem_cons_succ] at ih ⊢;rw[List.getElem?_append_right (by rw[zgv];omega)];have e4:(i+1)*3+f - (zic x).length=i*3+f:=by rw[zgv];omega
  rw[e4];exact ih
theorem zom {base:Nat} {w w':World} {e:TypeId} {size n:Nat} {sp:Option Addr} {c:Nat} {xs:List Value} {o:Option Nat} (h:w.ownsRow base e size (.slice sp n c) n xs) (hg:w.grownBy w' o) (hne:∀ g,blk sp=some g→o≠some g):w'.ownsRow base e size (.slice sp n c) n xs:=by
 refine⟨h.1,?_⟩;rcases h.2 with hv|⟨g,cap,cur,hv,hbg,hgg,r⟩
 ·exact .inl hv
 ·refine .inr ⟨g,cap,cur,hv,hbg,(hg.block g (Array.getElem?_eq_some_iff.1 hgg).1 (fun e=>?_)).trans hgg,r⟩;simp only[Value.slice.injEq] at hv;exact hne g (by rw[hv.1];rfl) e.symm
structure OwnC (base:Nat) (w:World) (sp:Option Addr) (c:Nat) (xs:List ChH):Prop where
 row:w.ownsRow base 131 3 (.slice sp xs.length c) xs.length (zsj xs)
 dat:∀ x∈xs,Bx 0 w x.2.1 x.2.2 x.1.2.2
section
variable {base:Nat} {w w':World} {sp:Option Addr} {c:Nat} {xs:List ChH}
theorem OwnC.ofNil (base:Nat) (w:World):OwnC base w none 0 []:=⟨w.ownsRow_nil base 131 3,by simp⟩
theorem OwnC.blk_is (h:OwnC base w sp c xs):∀ g,blk sp=some g→base≤g∧g<w.heap.size∧∃ cur:Array Value,w.heap[g]? = some (.cells cur 131 (0,0)):=by
 intro g hg;rcases h.row.2 with⟨hv,_⟩|⟨g1,cap,cur,hv,hb,hh,_⟩
 ·simp only[Value.slice.injEq] at hv;rw[hv.1] at hg;cases hg
 ·simp only[Value.slice.injEq] at hv;rw[hv.1] at hg;obtain rfl:g1=g:=by simpa [blk] using hg
  exact⟨hb,(Array.getElem?_eq_some_iff.1 hh).1,_,hh⟩
theorem OwnC.ne_block (h:OwnC base w sp c xs) {g:Nat} {cs:Array Value} {T:TypeId} {fr:Nat×Nat} (hg:w.heap[g]? = some (.cells cs T fr)) (hT:T≠131):blk sp≠some g:=by
 intro hs;obtain⟨_,_,cur,hc⟩:=h.blk_is g hs;rw[hc] at hg;simp only[Option.some.injEq,Obj.cells.injEq] at hg;exact hT hg.2.1.symm
theorem Bx.ne_row {b2:Nat} {yp:Option Addr} {yc:Nat} {y:List Nat} (k:Bx b2 w yp yc y) (h:OwnC base w sp c xs):∀ g,blk yp=some g→blk sp≠some g:=by
 intro g hg hs;obtain⟨_,_,cur,hc⟩:=h.blk_is g hs;exact k.ne_block hc (by decide) hg
theorem OwnC.grownNe {o:Option Nat} (h:OwnC base w sp c xs) (hg:w.grownBy w' o) (h1:∀ g,blk sp=some g→o≠some g) (h2:∀ x∈xs,∀ g,blk x.2.1=some g→o≠some g):OwnC base w' sp c xs :=
 ⟨zom h.row hg h1,fun x hx=>(h.dat x hx).grownNe hg (h2 x hx)⟩
theorem OwnC.later (h:OwnC base w sp c xs) (hb:Below w.heap.size w w'):OwnC base w' sp c xs:=h.grownNe (zb0 none hb) (by simp) (by simp)
theorem OwnC.far (h:OwnC base w sp c xs) {j:Nat} (hg:w.grownBy w' (some j)) {cs:Array Value} {T:TypeId} {fr:Nat×Nat} (hj:w.heap[j]? = some (.cells cs T fr)) (h1:T≠131) (h2:T≠5):OwnC base w' sp c xs :=
 h.grownNe hg (fun g hs e=>h.ne_block hj h1 (by rw[hs,Option.some.inj e])) (fun x hx g hs e=>(h.dat x hx).ne_block hj h2 (by rw[hs,Option.some.inj e]))
theorem infoC:(Tryz.prog.info? 131).map (fun i=>(i.zero,i.size,i.bytes))=some (some (.agg #[.bool false,.int .i64 0,.slice none 0 0]),3,40):=by kernel_rfl
theorem zug (x:ChH):∀ u∈zic x,u.oneCell'=true:=by
 intro u hu;simp only[zic,List.mem_cons,List.not_mem_nil,or_false] at hu;rcases hu with rfl|rfl|rfl <;> rfl
theorem zld (hown:OwnC base w sp c xs) (B:Nat) (x:ChH) (hB:w.heap[B]? = some (.cells (zic x).toArray 131 (0,0))) (hd:Bx base w x.2.1 x.2.2 x.1.2.2) (hn:(xs.length+1)*40≤140737488355328) (hbase:base≤w.heap.size) (ty:TypeId) :
  ∃ sp' c' w',(Builtin.append_ #[120,120] ty #[.slice sp xs.length c,.slice (some ⟨B,0,none⟩) 1 1]).run Tryz.prog w=.ok (.slice sp' (xs.length+1) c') w'∧OwnC base w' sp' c' (xs++[x])∧Grew w sp w' sp':=by
 obtain⟨i0,hi,hz0,hz1,hz2⟩:=info_parts infoC;obtain⟨v',w',hrun,h1,h2,_,h5⟩:=run_append_own_at (P:=Tryz.prog) w base 120 ty 131 i0 _ 3 40 Tryz.underlying120 hi hz0 hz1 hz2 rfl (by omega) _ _ _ hown.row ⟨B,0,none⟩ 1 1 (zic x) rfl
  (fun j u hu=>by have:=World.news_of_block hB j u;simp only at this;exact this hu) (zug x) (by simp only[maxLen];omega) (by omega) hbase
 have hv:∃ sp' c',v'=.slice sp' (xs.length+1) c':=by
  rcases h1.2 with⟨hv,h0⟩|⟨g,cap,cur,hv,_⟩
  ·omega
  ·exact⟨_,_,hv⟩
 obtain⟨sp',c',rfl⟩:=hv;rw[zal] at h2;rw[zal,zal] at h5;refine⟨sp',c',w',hrun,⟨?_,fun y hy=>?_⟩,⟨h2,fun g hg=>?_⟩⟩
 ·rw[zvn,List.length_append];exact h1
 ·rcases List.mem_append.1 hy with hy|hy
  ·exact(hown.dat y hy).grownNe h2 (fun g hg hs=>(hown.dat y hy).ne_row hown g hg hs)
  ·rw[List.mem_singleton] at hy;subst hy;exact(hd.mono (Nat.zero_le _)).grownNe h2 (fun g hg hs=>hd.ne_row hown g hg hs)
 ·rcases h5 with h5|h5
  ·exact .inl (h5.symm.trans hg)
  ·rw[h5] at hg;exact .inr (Nat.le_of_eq (Option.some.inj hg))
end
theorem zan {w:World} {j:Nat} {cs:Array Value} {T:TypeId} (h:w.heap[j]? = some (.cells cs T (0,0))) (f:Nat) (v:Value) (hv:cs[f]? = some v):w.cell? ⟨j,f,none⟩=some v:=by
 rw[cell_of_row _ _ _ _ _ _ h,hv]
theorem zio {w:World} {j:Nat} {cs:Array Value} {T:TypeId} (h:w.heap[j]? = some (.cells cs T (0,0))) (f:Nat):w.frozen? ⟨j,f,none⟩=false:=by
 simp[World.frozen?,h]
structure Fil where
 bp:Option Addr
 bc:Nat
 b:List Nat
 yp:Option Addr
 yc:Nat
 y:List Nat
 la:Bool
 cp:Option Addr
 cc:Nat
 xs:List ChH
def Fil.row (f:Fil):Array Value:=#[.slice f.bp f.b.length f.bc,.slice f.yp f.y.length f.yc,.bool f.la,.slice f.cp f.xs.length f.cc]
def Fil.mut (f:Fil) (F g:Nat):Prop:=g=F∨blk f.bp=some g∨blk f.yp=some g∨blk f.cp=some g
def Fil.red (f:Fil) (g:Nat):Prop:=∃ x∈f.xs,blk x.2.1=some g
structure FileAt (base:Nat) (w:World) (F:Nat) (f:Fil):Prop where
 box:w.heap[F]? = some (.cells f.row 122 (0,0))
 bytes:Bx base w f.bp f.bc f.b
 sure:Bx base w f.yp f.yc f.y
 chs:OwnC base w f.cp f.cc f.xs
 low:base≤F
 apart:∀ g,blk f.bp=some g→blk f.yp≠some g
 far:∀ x∈f.xs,∀ g,blk x.2.1=some g→blk f.bp≠some g∧blk f.yp≠some g
structure FGrew (F:Nat) (w:World) (f:Fil) (w':World) (f':Fil):Prop where
 os:w'.os=w.os
 tape:w'.tape=w.tape
 output:w'.output=w.output
 size:w.heap.size≤w'.heap.size
 block:∀ i,i<w.heap.size→¬ f.mut F i→w'.heap[i]? = w.heap[i]?
 muts:∀ g,f'.mut F g→f.mut F g∨w.heap.size≤g
 reds:∀ g,f'.red g→f.red g∨w.heap.size≤g
section
variable {base:Nat} {w w':World} {F:Nat} {f:Fil}
theorem FileAt.ltF (h:FileAt base w F f):F<w.heap.size:=(Array.getElem?_eq_some_iff.1 h.box).1
theorem FileAt.c0 (h:FileAt base w F f):w.cell? ⟨F,0,none⟩=some (.slice f.bp f.b.length f.bc):=zan h.box 0 _ (by simp[Fil.row])
theorem FileAt.c1 (h:FileAt base w F f):w.cell? ⟨F,1,none⟩=some (.slice f.yp f.y.length f.yc):=zan h.box 1 _ (by simp[Fil.row])
theorem FileAt.c2 (h:FileAt base w F f):w.cell? ⟨F,2,none⟩=some (.bool f.la):=zan h.box 2 _ (by simp[Fil.row])
theorem FileAt.c3 (h:FileAt base w F f):w.cell? ⟨F,3,none⟩=some (.slice f.cp f.xs.length f.cc):=zan h.box 3 _ (by simp[Fil.row])
theorem FileAt.fz (h:FileAt base w F f) (k:Nat):w.frozen? ⟨F,k,none⟩=false:=zio h.box k
theorem FileAt.later (h:FileAt base w F f) (hb:Below w.heap.size w w'):FileAt base w' F f :=
 ⟨(hb.block F h.ltF).trans h.box,h.bytes.later hb,h.sure.later hb,h.chs.later hb,h.low,h.apart,h.far⟩
theorem FGrew.refl (F:Nat) (w:World) (f:Fil):FGrew F w f w f:=⟨rfl,rfl,rfl,Nat.le_refl _,fun _ _ _=>rfl,fun _ h=>.inl h,fun _ h=>.inl h⟩
theorem FGrew.trans {w1 w2:World} {f1 f2:Fil} (h:FGrew F w f w1 f1) (k:FGrew F w1 f1 w2 f2):FGrew F w f w2 f2:=by
 refine⟨k.os.trans h.os,k.tape.trans h.tape,k.output.trans h.output,Nat.le_trans h.size k.size,fun i hi hn=>?_,fun g hg=>?_,fun g hg=>?_⟩
 ·refine(k.block i (Nat.lt_of_lt_of_le hi h.size) (fun hm=>?_)).trans (h.block i hi hn);rcases h.muts i hm with h1|h1
  ·exact hn h1
  ·omega
 ·rcases k.muts g hg with h1|h1
  ·exact h.muts g h1
  ·exact .inr (Nat.le_trans h.size h1)
 ·rcases k.reds g hg with h1|h1
  ·exact h.reds g h1
  ·exact .inr (Nat.le_trans h.size h1)
theorem FGrew.ofBelow (hb:Below w.heap.size w w'):FGrew F w f w' f:=⟨hb.os,hb.tape,hb.output,hb.size,fun i hi _=>hb.block i hi,fun _ h=>.inl h,fun _ h=>.inl h⟩
theorem FileAt.set (h:FileAt base w F f) (k:Nat) (v:Value) (f':Fil) (hr:f.row.setIfInBounds k v=f'.row) (hB:Bx base w f'.bp f'.bc f'.b) (hY:Bx base w f'.yp f'.yc f'.y) (hC:OwnC base w f'.cp f'.cc f'.xs)
  (ha:∀ g,blk f'.bp=some g→blk f'.yp≠some g) (hf:∀ x∈f'.xs,∀ g,blk x.2.1=some g→blk f'.bp≠some g∧blk f'.yp≠some g):FileAt base (w.setCell ⟨F,k,none⟩ v) F f':=by
 have hg:=zaf w F k v;refine⟨?_,hB.grownNe hg (fun g hs e=>hB.ne_block h.box (by decide) (by rw[hs,Option.some.inj e])),hY.grownNe hg (fun g hs e=>hY.ne_block h.box (by decide) (by rw[hs,Option.some.inj e])),hC.far hg h.box (by decide) (by decide),h.low,ha,hf⟩;rw[← hr];exact heap_setCell_same w F k _ 122 v h.box
end
def Fil.synced (f:Fil) (yp:Option Addr):Fil:={ f with yp:=yp,yc:=f.b.length,y:=f.b,la:=true,cp:=none,cc:=0,xs:=[] }
theorem Bx.old_ne {base:Nat} {w V:World} {sp dp:Option Addr} {c dc:Nat} {l d:List Nat} (h:Bx base w sp c l) (k:Bx w.heap.size V dp dc d):∀ g,blk sp=some g→blk dp≠some g:=by
 intro g hg hd;have:=(h.isT g hg).2.1;have:=(k.isT g hd).1;omega
theorem FileAt.sync3 {base:Nat} {w V:World} {F:Nat} {f:Fil} (h:FileAt base w F f) (hbs:base≤w.heap.size) (hb:Below w.heap.size w V) (dp:Option Addr) (hd:Bx w.heap.size V dp f.b.length f.b) :
  FileAt base (V.setCell ⟨F,1,none⟩ (.slice dp f.b.length f.b.length)) F { f with yp:=dp,yc:=f.b.length,y:=f.b } ∧
  FileAt base ((V.setCell ⟨F,1,none⟩ (.slice dp f.b.length f.b.length)).setCell ⟨F,2,none⟩ (.bool true)) F { f with yp:=dp,yc:=f.b.length,y:=f.b,la:=true } ∧
  FileAt base (((V.setCell ⟨F,1,none⟩ (.slice dp f.b.length f.b.length)).setCell ⟨F,2,none⟩ (.bool true)).setCell ⟨F,3,none⟩ (.slice none 0 0)) F (f.synced dp) ∧
  FGrew F w f (((V.setCell ⟨F,1,none⟩ (.slice dp f.b.length f.b.length)).setCell ⟨F,2,none⟩ (.bool true)).setCell ⟨F,3,none⟩ (.slice none 0 0)) (f.synced dp):=by
 have hV:=h.later hb;have n1:∀ g,blk f.bp=some g→blk dp≠some g:=h.bytes.old_ne hd;have H1:FileAt base (V.setCell ⟨F,1,none⟩ (.slice dp f.b.length f.b.length)) F { f with yp:=dp,yc:=f.b.length,y:=f.b } :=
  hV.set 1 _ _ (by simp[Fil.row]) hV.bytes (hd.mono hbs) hV.chs n1 (fun x hx g hg=>⟨(h.far x hx g hg).1,(h.chs.dat x hx).old_ne hd g hg⟩)
 have H2:=H1.set 2 (.bool true) { f with yp:=dp,yc:=f.b.length,y:=f.b,la:=true } (by simp[Fil.row]) H1.bytes H1.sure H1.chs H1.apart H1.far;have H3:=H2.set 3 (.slice none 0 0) (f.synced dp) (by simp[Fil.row,Fil.synced]) H2.bytes H2.sure (OwnC.ofNil _ _) H2.apart (by simp[Fil.synced]);refine⟨H1,H2,H3,⟨hb.os,hb.tape,hb.output,?_,fun i hi hn=>?_,fun g hg=>?_,fun g hg=>?_⟩⟩
 ·simpa [World.setCell] using hb.size
 ·have hne:i≠F:=fun e=>hn (.inl e);rw[heap_setCell_other _ ⟨F,3,none⟩ i _ hne,heap_setCell_other _ ⟨F,2,none⟩ i _ hne,heap_setCell_other _ ⟨F,1,none⟩ i _ hne];exact hb.block i hi
 ·rcases hg with rfl|hg|hg|hg
  ·exact .inl (.inl rfl)
  ·exact .inl (.inr (.inl hg))
  ·exact .inr (hd.isT g hg).1
  ·cases hg
 ·obtain⟨x,hx,_⟩:=hg;simp[Fil.synced] at hx
theorem zv1 (base:Nat) (w:World) (F:Nat) (f:Fil) (h:FileAt base w F f) (hl:f.b.length≤140737488355328) (hbs:base≤w.heap.size) :
  Calls Tryz.prog 85 #[.pointer (some ⟨F,0,none⟩)] w fun e w'=>e=.returned (.tuple #[])∧∃ yp,FileAt base w' F (f.synced yp)∧FGrew F w f w' (f.synced yp):=by
 have c0:=h.c0;have HF:=zaa h;have BB:=zaa h.bytes.bytes;have ZZ:=zaa h.bytes.nil0;have HS:=zaa (fun (V:World) (hb:Below w.heap.size w V)=>h.sync3 (V:=V) hbs hb);generalize hn:f.b.length=n at *;have HN:=zaa hn;clear h hbs hn;go_enter Tryz.func85,Tryz.ntmps85
 go_wp2_with (go_at_call 82;refine(zc9 f.bp n f.bc f.b _ (za HN) hl (za BB) (za ZZ)).mono ?_;rintro e1 V ⟨dp,rfl,hdo,hbV⟩;obtain⟨k1,k2,k3,k4⟩:=za HS V hbV dp hdo;have v1:=((za HF).later hbV).c1;have x1:=((za HF).later hbV).fz 1;have v2:=k1.c2;have x2:=k1.fz 2;have v3:=k2.c3;have x3:=k2.fz 3;have K3:=zaa k3;have K4:=zaa k4;clear k1 k2 k3 k4 hdo hbV)
 go_end0
 exact⟨rfl,dp,za K3,za K4⟩
theorem zq5 {w:World} {ops:Array Oper} {o:Oper} {a:Act} {K:Act→World→Prop} {Q:Exit→Act→World→Prop} {E:Prop} (hgd:o.guard=none) (s x:Operand)
  (ho:o.op=.call { callee:=.builtin .append,args:=#[s,x],argTypes:=#[120,120] })
  (base:Nat) (sp:Option Addr) (n c:Nat) (xs:List ChH) (hs:a.eval s=.slice sp n c) (hn:xs.length=n) (hown:OwnC base w sp c xs) (B:Nat) (e:ChH) (hx:a.eval x=.slice (some ⟨B,0,none⟩) 1 1)
  (hB:w.heap[B]? = some (.cells (zic e).toArray 131 (0,0))) (hd:Bx base w e.2.1 e.2.2 e.1.2.2) (hlen:(n+1)*40≤140737488355328) (hbase:base≤w.heap.size)
  (hk:∀ sp' c' w',OwnC base w' sp' c' (xs++[e])→Grew w sp w' sp'→K (a.put o.dst (.slice sp' (n+1) c')) w') :
  if Region.wanted o (yielded ops a.tmps)=true then Oper.wp Tryz.prog o a w K Q else E:=by
 subst hn;have hw:Region.wanted o (yielded ops a.tmps)=true:=by simp[Region.wanted,hgd]
 rw[if_pos hw];obtain⟨sp',c',w',hrun,h1,h2⟩:=zld hown B e hB hd hlen hbase o.type;unfold Oper.wp;simp[execOp,ho,resolve,invoke,builtin,hs,hx,hrun,Result.andThen];exact hk sp' c' w' h1 h2
theorem zmd {w:World} {ops:Array Oper} {rest:List Oper} {o:Oper} {a:Act} {Q:Exit→Act→World→Prop} (hgd:o.guard=none) (s x:Operand)
  (ho:o.op=.call { callee:=.builtin .append,args:=#[s,x],argTypes:=#[120,120] })
  (base:Nat) (sp:Option Addr) (n c:Nat) (xs:List ChH) (hs:a.eval s=.slice sp n c) (hn:xs.length=n) (hown:OwnC base w sp c xs) (B:Nat) (e:ChH) (hx:a.eval x=.slice (some ⟨B,0,none⟩) 1 1)
  (hB:w.heap[B]? = some (.cells (zic e).toArray 131 (0,0))) (hd:Bx base w e.2.1 e.2.2 e.1.2.2) (hlen:(n+1)*40≤140737488355328) (hbase:base≤w.heap.size)
  (hk:∀ sp' c' w',OwnC base w' sp' c' (xs++[e])→Grew w sp w' sp'→wpList Tryz.prog ops Q rest (a.put o.dst (.slice sp' (n+1) c')) w') :
  wpList Tryz.prog ops Q (o::rest) a w:=by
 subst hn;refine wpList_plain hgd fun K hK=>?_;obtain⟨sp',c',w',hrun,h1,h2⟩:=zld hown B e hB hd hlen hbase o.type;unfold Oper.wp;simp[execOp,ho,resolve,invoke,builtin,hs,hx,hrun,Result.andThen];exact hK _ _ (hk sp' c' w' h1 h2)
theorem FileAt.ofSet {base:Nat} {w:World} {F:Nat} (f:Fil) (hbox:w.heap[F]? = some (.cells f.row 122 (0,0))) (hlow:base≤F) (k:Nat) (v:Value) (f':Fil) (hr:f.row.setIfInBounds k v=f'.row) (hB:Bx base w f'.bp f'.bc f'.b) (hY:Bx base w f'.yp f'.yc f'.y) (hC:OwnC base w f'.cp f'.cc f'.xs)
  (ha:∀ g,blk f'.bp=some g→blk f'.yp≠some g) (hf:∀ x∈f'.xs,∀ g,blk x.2.1=some g→blk f'.bp≠some g∧blk f'.yp≠some g):FileAt base (w.setCell ⟨F,k,none⟩ v) F f':=by
 have hg:=zaf w F k v;refine⟨?_,hB.grownNe hg (fun g hs e=>hB.ne_block hbox (by decide) (by rw[hs,Option.some.inj e])),hY.grownNe hg (fun g hs e=>hY.ne_block hbox (by decide) (by rw[hs,Option.some.inj e])),hC.far hg hbox (by decide) (by decide),hlow,ha,hf⟩;rw[← hr];exact heap_setCell_same w F k _ 122 v hbox
def Fil.more (f:Fil) (cp:Option Addr) (cc:Nat) (x:ChH):Fil:={ f with cp:=cp,cc:=cc,xs:=f.xs++[x] }
theorem FileAt.added {base:Nat} {W V W2:World} {F:Nat} {f:Fil} (h:FileAt base W F f) (hb:Below W.heap.size W V) (x:ChH) (hx:∀ g,blk x.2.1=some g→W.heap.size≤g) (cp':Option Addr) (cc':Nat) (hC:OwnC base W2 cp' cc' (f.xs++[x])) (hG:Grew V f.cp W2 cp') :
  W2.cell? ⟨F,3,none⟩=some (.slice f.cp f.xs.length f.cc)∧W2.frozen? ⟨F,3,none⟩=false ∧
  FileAt base (W2.setCell ⟨F,3,none⟩ (.slice cp' (f.xs.length+1) cc')) F (f.more cp' cc' x)∧FGrew F W f (W2.setCell ⟨F,3,none⟩ (.slice cp' (f.xs.length+1) cc')) (f.more cp' cc' x):=by
 have hV:=h.later hb;have hbox:W2.heap[F]? = some (.cells f.row 122 (0,0)):=(hG.grown.block F hV.ltF (fun e=>hV.chs.ne_block hV.box (by decide) e.symm)).trans hV.box;refine⟨zan hbox 3 _ (by simp[Fil.row]),zio hbox 3,?_,?_⟩
 ·refine FileAt.ofSet f hbox h.low 3 _ (f.more cp' cc' x) (by simp[Fil.row,Fil.more]) (hV.bytes.grownNe hG.grown (hV.bytes.ne_row hV.chs)) (hV.sure.grownNe hG.grown (hV.sure.ne_row hV.chs)) hC h.apart (fun z hz g hg=>?_);rcases List.mem_append.1 hz with hz|hz
  ·exact h.far z hz g hg
  ·rw[List.mem_singleton] at hz;subst hz;have h1:=hx g hg;exact⟨fun e=>by have:=(h.bytes.isT g e).2.1;omega,fun e=>by have:=(h.sure.isT g e).2.1;omega⟩
 ·refine⟨hG.grown.os.trans hb.os,hG.grown.tape.trans hb.tape,hG.grown.output.trans hb.output,?_,fun i hi hn=>?_,fun g hg=>?_,fun g hg=>?_⟩
  ·have:=Nat.le_trans hb.size hG.grown.size
   simpa [World.setCell] using this
  ·rw[heap_setCell_other _ ⟨F,3,none⟩ i _ (fun e=>hn (.inl e))];exact(hG.grown.block i (Nat.lt_of_lt_of_le hi hb.size) (fun e=>hn (.inr (.inr (.inr e.symm))))).trans (hb.block i hi)
  ·rcases hg with rfl|hg|hg|hg
   ·exact .inl (.inl rfl)
   ·exact .inl (.inr (.inl hg))
   ·exact .inl (.inr (.inr (.inl hg)))
   ·rcases hG.lies g hg with h1|h1
    ·exact .inl (.inr (.inr (.inr h1)))
    ·exact .inr (Nat.le_trans hb.size h1)
  ·obtain⟨z,hz,hg⟩:=hg;rcases List.mem_append.1 hz with hz|hz
   ·exact .inl ⟨z,hz,hg⟩
   ·rw[List.mem_singleton] at hz;subst hz;exact .inr (hx g hg)
def Fil.shorter (f:Fil) (k:Nat):Fil:={ f with b:=f.b.take k }
theorem FileAt.shorter {base:Nat} {w:World} {F:Nat} {f:Fil} (h:FileAt base w F f) (k:Nat) (hk:k≤f.b.length) :
  FileAt base (w.setCell ⟨F,0,none⟩ (.slice f.bp k f.bc)) F (f.shorter k)∧FGrew F w f (w.setCell ⟨F,0,none⟩ (.slice f.bp k f.bc)) (f.shorter k):=by
 have hl:(f.b.take k).length=k:=by rw[List.length_take];omega
 refine⟨h.set 0 _ (f.shorter k) (by simp[Fil.row,Fil.shorter];omega) (h.bytes.cut k f.bc hk (Nat.le_trans hk h.bytes.cap.1) (Nat.le_refl _)) h.sure h.chs h.apart h.far,⟨rfl,rfl,rfl,?_,fun i hi hn=>?_,fun _ hg=>.inl hg,fun _ hg=>.inl hg⟩⟩
 ·simp[World.setCell]
 ·exact heap_setCell_other _ ⟨F,0,none⟩ i _ (fun e=>hn (.inl e))
theorem zwl (base:Nat) (w:World) (F:Nat) (f:Fil) (h:FileAt base w F f) (k:Nat) (hk:k≤f.b.length) (hx:(f.xs.length+1)*40≤140737488355328) (hbs:base≤w.heap.size) :
  Calls Tryz.prog 127 #[.pointer (some ⟨F,0,none⟩),.int .i64 (k:Int)] w fun e w'=>e=.returned (.tuple #[])∧∃ cp cc,FileAt base w' F ((f.shorter k).more cp cc ((true,k,[]),(none,0)))∧FGrew F w f w' ((f.shorter k).more cp cc ((true,k,[]),(none,0))):=by
 have c0:=h.c0;have z0:=h.fz 0;have hs:=zfm f.bp f.b.length f.bc k (Nat.le_trans hk h.bytes.cap.1);rw[h.bytes.slp0] at hs;obtain⟨h1,g1⟩:=h.shorter k hk;have d3:=h1.c3;have H1:=zaa h1;have G1:=zaa g1;have S1:=zaa (show base≤(w.setCell ⟨F,0,none⟩ (.slice f.bp k f.bc)).heap.size from Nat.le_trans hbs g1.size);have HX:=zaa hx;clear h h1 g1 hk hx hbs;generalize f.b.length=n at *;go_enter Tryz.func127,Tryz.ntmps127
 go_wp2_with (at_builtin;refine za ?_)
 refine zaa ?_;have eS:(w.setCell ⟨F,0,none⟩ (.slice f.bp k f.bc)).heap.size=w.heap.size:=by simp[World.setCell]
 rw[← eS];generalize w.setCell ⟨F,0,none⟩ (.slice f.bp k f.bc)=W1 at *;have bA:Below W1.heap.size W1 (W1.alloc (.cells #[.bool true,.int .i64 (k:Int),.slice none 0 0] 131)):=(Below.refl _ _).alloc (Nat.le_refl _) _;refine zmd rfl (.tmp 17) (.tmp 20) rfl base (f.shorter k).cp (f.shorter k).xs.length (f.shorter k).cc (f.shorter k).xs rfl rfl ((za H1).chs.later bA) W1.heap.size ((true,k,[]),(none,0)) rfl (zad W1 _) (Bx.ofNil _ _) (za HX) (Nat.le_trans (za S1) bA.size) ?_;intro cp' cc' W2 hC hG;obtain⟨q1,q2,q3,q4⟩:=(za H1).added bA _ (fun g hg=>by cases hg) cp' cc' hC hG;have Q3:=zaa q3;have Q4:=zaa q4;clear q3 q4 hC hG bA eS
 go_wp2
 go_end0
 exact⟨rfl,cp',cc',za Q3,(za G1).trans (za Q4)⟩
def Fil.over (f:Fil) (bp:Option Addr) (bc:Nat) (b:List Nat):Fil:={ f with bp:=bp,bc:=bc,b:=b }
theorem FileAt.over {base:Nat} {w V:World} {F:Nat} {f:Fil} (h:FileAt base w F f) (bp:Option Addr) (bc:Nat) (b:List Nat) (hX:Bx base V bp bc b) (hG:Grew w f.bp V bp) :
  V.cell? ⟨F,0,none⟩=some (.slice f.bp f.b.length f.bc)∧V.frozen? ⟨F,0,none⟩=false ∧
  FileAt base (V.setCell ⟨F,0,none⟩ (.slice bp b.length bc)) F (f.over bp bc b)∧FGrew F w f (V.setCell ⟨F,0,none⟩ (.slice bp b.length bc)) (f.over bp bc b):=by
 have hbox:V.heap[F]? = some (.cells f.row 122 (0,0)):=(hG.grown.block F h.ltF (fun e=>h.bytes.ne_block h.box (by decide) e.symm)).trans h.box;have n1:∀ {b2:Nat} {sp:Option Addr} {c:Nat} {l:List Nat},Bx b2 w sp c l→(∀ g,blk sp=some g→blk f.bp≠some g)→∀ g,blk bp=some g→blk sp≠some g:=by
  intro b2 sp c l hB hne g hg hs;rcases hG.lies g hg with h1|h1
  ·exact hne g hs h1
  ·have:=(hB.isT g hs).2.1;omega
 refine⟨zan hbox 0 _ (by simp[Fil.row]),zio hbox 0,?_,?_⟩
 ·refine FileAt.ofSet f hbox h.low 0 _ (f.over bp bc b) (by simp[Fil.row,Fil.over]) hX (h.sure.grownNe hG.grown (fun g hg e=>h.apart g e hg)) (h.chs.grownNe hG.grown (fun g hg e=>h.bytes.ne_row h.chs g e hg) (fun x hx g hg=>(h.far x hx g hg).1)) ?_ (fun x hx g hg=>⟨fun e=>?_,(h.far x hx g hg).2⟩)
  ·exact n1 h.sure (fun g hg e=>h.apart g e hg)
  ·exact n1 (h.chs.dat x hx) (fun g hg=>(h.far x hx g hg).1) g e hg
 ·refine⟨hG.grown.os,hG.grown.tape,hG.grown.output,?_,fun i hi hn=>?_,fun g hg=>?_,fun g hg=>.inl hg⟩
  ·have:=hG.grown.size
   simpa [World.setCell] using this
  ·rw[heap_setCell_other _ ⟨F,0,none⟩ i _ (fun e=>hn (.inl e))];exact hG.grown.block i hi (fun e=>hn (.inr (.inl e.symm)))
  ·rcases hg with rfl|hg|hg|hg
   ·exact .inl (.inl rfl)
   ·rcases hG.lies g hg with h1|h1
    ·exact .inl (.inr (.inl h1))
    ·exact .inr h1
   ·exact .inl (.inr (.inr (.inl hg)))
   ·exact .inl (.inr (.inr (.inr hg)))
theorem BytesAt.past {w w':World} {a:Option Addr} {l:List Nat} {o:Option Nat} (h:BytesAt w a l) (hg:w.grownBy w' o) (hne:∀ b off,a=some ⟨b,off,none⟩→o≠some b):BytesAt w' a l:=by
 refine⟨h.lt,fun i hi=>?_⟩;obtain⟨b,off,e1,e2⟩:=h.cell i hi;refine⟨b,off,e1,?_⟩;rw[World.cell?_of_block (w:=w) (w':=w') (hg.block b (World.block_lt_of_cell? _ _ e2) (fun e=>hne b off e1 e.symm))];exact e2
theorem zno (base:Nat) (w:World) (F:Nat) (f:Fil) (h:FileAt base w F f) (k:Nat) (hk:k≤f.b.length) (xp:Option Addr) (xc:Nat) (hx0:xp=none→xc=0) (hsz:f.b.length≤140737488355328) (hbs:base≤w.heap.size) :
  Calls Tryz.prog 139 #[.pointer (some ⟨F,0,none⟩),.int .i64 (k:Int),.slice xp 0 xc] w fun e w'=>e=.returned (.tuple #[])∧∃ bp bc,FileAt base w' F (f.over bp bc (zcj f.b k []))∧FGrew F w f w' (f.over bp bc (zcj f.b k [])):=by
 have c0:=h.c0;have HL:=zaa (zjf base f.bp f.bc f.b f.b.length k xp 0 xc [] w rfl hk rfl ⟨by simp,by simp⟩ hx0 (Nat.zero_le _) h.bytes (fun h0=>absurd h0 (by simp)) hsz hbs);have HO:=zaa (fun (V:World) (bp:Option Addr) (bc:Nat) (b:List Nat) (hX:Bx base V bp bc b) (hG:Grew w f.bp V bp)=>h.over bp bc b hX hG);clear h hk hx0 hsz hbs;generalize f.b.length=n at *;go_enter Tryz.func139,Tryz.ntmps139
 go_wp2_with (go_at_call 118;refine(za HL).mono ?_;rintro e1 V ⟨bp,bc,rfl,hX,hG⟩;obtain⟨v0,z0,k3,k4⟩:=za HO V bp bc _ hX hG;have K3:=zaa k3;have K4:=zaa k4;clear hX hG k3 k4)
 go_end0
 exact⟨rfl,bp,bc,za K3,za K4⟩
theorem znp (base:Nat) (w:World) (F:Nat) (f:Fil) (h:FileAt base w F f) (k:Nat) (hk:k≤f.b.length) (xp:Option Addr) (xn xc:Nat) (o:List Nat) (ho:o.length=xn) (h0:0<xn) (hxc:xn≤xc) (hB:BytesAt w xp o) (hx0:xp=none→xc=0) (hne:∀ b off,xp=some ⟨b,off,none⟩→¬ f.mut F b) (hsz:f.b.length+xn≤140737488355328) (hxs:(f.xs.length+1)*40≤140737488355328) (hbs:base≤w.heap.size) :
  Calls Tryz.prog 139 #[.pointer (some ⟨F,0,none⟩),.int .i64 (k:Int),.slice xp xn xc] w fun e w'=>e=.returned (.tuple #[])∧∃ bp bc cp cc dp,FileAt base w' F ((f.over bp bc (zcj f.b k o)).more cp cc ((false,k,o),(dp,xn)))∧FGrew F w f w' ((f.over bp bc (zcj f.b k o)).more cp cc ((false,k,o),(dp,xn))):=by
 subst ho;have c0:=h.c0;have HL:=zaa (zjf base f.bp f.bc f.b f.b.length k xp o.length xc o w rfl hk rfl hB hx0 hxc h.bytes (fun _ b off e hb=>hne b off e (.inr (.inl hb))) hsz hbs);have HO:=zaa (fun (V:World) (bp:Option Addr) (bc:Nat) (b:List Nat) (hX:Bx base V bp bc b) (hG:Grew w f.bp V bp)=>h.over bp bc b hX hG)
 have HB:=zaa (fun (V:World) (bp:Option Addr) (v:Value) (hG:Grew w f.bp V bp) =>
  show BytesAt (V.setCell ⟨F,0,none⟩ v) xp o from(hB.past hG.grown (fun b off e hb=>hne b off e (.inr (.inl hb)))).past (zaf V F 0 v) (fun b off e hb=>hne b off e (.inl (Option.some.inj hb).symm)))
 have hxl:o.length≤140737488355328:=by omega
 have HZ:=zaa hx0;have HX:=zaa hxs;have HBS:=zaa hbs;have hgt:(0:Int)<(o.length:Int):=by omega
 clear h hk hx0 hne hsz hbs hB hxs hxc;generalize f.b.length=n at *;go_enter Tryz.func139,Tryz.ntmps139
 go_wp2_with (go_at_call 118;refine(za HL).mono ?_;rintro e1 V ⟨bp,bc,rfl,hX,hG⟩;obtain⟨v0,z0,k3,k4⟩:=za HO V bp bc _ hX hG;have B1:=zaa (za HB V bp (.slice bp (zcj f.b k o).length bc) hG);have K3:=zaa k3;have K4:=zaa k4;clear hX hG k3 k4)
 have S1:=zaa (Nat.le_trans (za HBS) (za K4).size);generalize V.setCell ⟨F,0,none⟩ (.slice bp (zcj f.b k o).length bc)=W1 at *;have HX1:=zaa (show((f.over bp bc (zcj f.b k o)).xs.length+1)*40≤140737488355328 from za HX);obtain⟨f1,hf1⟩:∃ f1,f1=f.over bp bc (zcj f.b k o):=⟨_,rfl⟩
 rw[← hf1] at K3 K4 HX1;have E1:=zaa hf1;have d3:=(za K3).c3;clear hf1 v0 z0 c0 HL HO HB HX
 go_region_law (first
  |(have hU':U=U:=rfl;clear hU';refine zq5 rfl (.tmp 23) (.tmp 28) rfl base f1.cp f1.xs.length f1.cc f1.xs rfl rfl (by exact za Oa) U.heap.size ((false,k,o),(dp,o.length)) rfl (by exact za Xa) (by exact za Da) (za HX1) (by exact za Sa) ?_;intro cp4 cc4 W4 hC hG;obtain⟨q1,q2,q3,q4⟩:=(za K3).added (za bUA) ((false,k,o),(dp,o.length)) (za La) cp4 cc4 hC ⟨⟨hG.grown.os,hG.grown.tape,hG.grown.output,hG.grown.size,hG.grown.block⟩,hG.lies⟩;have Q3:=zaa q3;have Q4:=zaa q4;clear q3 q4 hC hG)
  |(go_simp;go_at_call 82;refine(zc9 xp o.length xc o _ rfl hxl (by exact(za B1).drew) (za HZ)).mono ?_;rintro e1 U ⟨dp,rfl,hdo,hbU⟩;have bU:=zaa (show Below W1.heap.size W1 U from⟨hbU.os,hbU.tape,hbU.output,hbU.size,hbU.block⟩);have bA:=zaa (show Below U.heap.size U (U.alloc (.cells #[.bool false,.int .i64 (k:Int),.slice dp o.length o.length] 131)) from(Below.refl _ _).alloc (Nat.le_refl _) _);have bUA:=zaa ((za bU).trans ((za bA).mono (za bU).size));have v3:=((za K3).later (za bU)).c3;have a3:=((za K3).later (za bUA)).c3;have Oa:=zaa ((za K3).later (za bUA)).chs;have Xa:=zaa (zad U (.cells #[.bool false,.int .i64 (k:Int),.slice dp o.length o.length] 131));have Da:=zaa ((hdo.mono (show base≤W1.heap.size from za S1)).later (za bA));have La:=zaa (show ∀ g,blk dp=some g→W1.heap.size≤g from fun g hg=>(hdo.isT g hg).1);have Sa:=zaa (Nat.le_trans (za S1) (za bUA).size);clear hdo hbU))
 all_goals
  have hE:=za E1;subst hE
  go_end0
  exact⟨rfl,bp,bc,cp4,cc4,dp,za Q3,(za K4).trans (za Q4)⟩
def zap (c:Chg):Nat:=if c.1 then 1 else c.2.2.length
def zc5 (c:Chg) (l:List Nat) (u:Nat):List Nat:=if c.1 then l.take c.2.1 else zcj l c.2.1 (c.2.2.take u)
def zyu (x:ChH):Value:=.agg #[.bool x.1.1,.int .i64 (x.1.2.1:Int),.slice x.2.1 x.1.2.2.length x.2.2]
theorem zs0 (x:ChH) (w:World):Calls Tryz.prog 88 #[zyu x] w fun e w'=>e=.returned (.int .i64 (zap x.1:Int))∧Below w.heap.size w w':=by
 obtain⟨⟨ic,k,o⟩,p,c⟩:=x;have bA:=zaa (show Below w.heap.size w (w.alloc (.cells #[.bool ic,.int .i64 (k:Int),.slice p o.length c] 131)) from(Below.refl _ _).alloc (Nat.le_refl _) _);have z0:=zan (zad w (.cells #[.bool ic,.int .i64 (k:Int),.slice p o.length c] 131)) 0 (.bool ic) (by simp);have z2:=zan (zad w (.cells #[.bool ic,.int .i64 (k:Int),.slice p o.length c] 131)) 2 (.slice p o.length c) (by simp);unfold zyu;simp only;cases ic with
 |true =>
  go_enter Tryz.func88,Tryz.ntmps88
  go_wp2
  go_ret
  exact⟨rfl,za bA⟩
 |false =>
  go_enter Tryz.func88,Tryz.ntmps88
  go_wp2
  go_ret
  exact⟨rfl,za bA⟩
theorem Bx.grewNil {base:Nat} {w w':World} {sp:Option Addr} {c:Nat} {l:List Nat} (h:Bx base w sp c l) (hb:Below w.heap.size w w'):Bx base w' sp c l∧Grew w sp w' sp:=⟨h.later hb,⟨hb.os,hb.tape,hb.output,hb.size,fun i hi _=>hb.block i hi⟩,fun _ hg=>.inl hg⟩
theorem zm8 {b2:Nat} (base:Nat) (w:World) (x:ChH) (sp:Option Addr) (sc:Nat) (l:List Nat) (u:Nat) (hX:Bx base w sp sc l) (hD:Bx b2 w x.2.1 x.2.2 x.1.2.2) (hk:x.1.2.1≤l.length) (hu:x.1.1=false→u≤x.1.2.2.length) (hne:∀ g,blk x.2.1=some g→blk sp≠some g) (hsz:l.length+x.1.2.2.length≤140737488355328) (hbs:base≤w.heap.size) :
  Calls Tryz.prog 89 #[zyu x,.slice sp l.length sc,.int .i64 (u:Int)] w fun e w'=>∃ sp' c',e=.returned (.slice sp' (zc5 x.1 l u).length c')∧Bx base w' sp' c' (zc5 x.1 l u)∧Grew w sp w' sp':=by
 obtain⟨⟨ic,k,o⟩,p,c⟩:=x;simp only at hD hk hu hne hsz;have ba:Below w.heap.size w (w.alloc (.cells #[.bool ic,.int .i64 (k:Int),.slice p o.length c] 131)):=(Below.refl _ _).alloc (Nat.le_refl _) _;have z0:=zan (zad w (.cells #[.bool ic,.int .i64 (k:Int),.slice p o.length c] 131)) 0 (.bool ic) (by simp);have z1:=zan (zad w (.cells #[.bool ic,.int .i64 (k:Int),.slice p o.length c] 131)) 1 (.int .i64 (k:Int)) (by simp);have z2:=zan (zad w (.cells #[.bool ic,.int .i64 (k:Int),.slice p o.length c] 131)) 2 (.slice p o.length c) (by simp);unfold zyu;simp only;cases ic with
 |true =>
  have hs:=zfm sp l.length sc k (Nat.le_trans hk hX.cap.1);rw[hX.slp0] at hs;have X1:=zaa ((hX.cut k sc hk (Nat.le_trans hk hX.cap.1) (Nat.le_refl _)).grewNil ba);have E1:=zaa (show(zc5 (true,k,o) l u).length=k from by simp[zc5];omega);clear hX hD hk hu hne hsz hbs ba;generalize l.length=m at *;go_enter Tryz.func89,Tryz.ntmps89
  go_wp2
  go_ret
  exact⟨sp,sc,by rw[za E1];rfl,(za X1).1,(za X1).2⟩
 |false =>
  have hu':=hu rfl;have hs:=zfm p o.length c u (Nat.le_trans hu' hD.cap.1);rw[hD.slp0] at hs;have hX1:=(hX.grewNil ba).1;have hD1:=(hD.grewNil ba).1;have HT:=zaa (show(o.take u).length=u by rw[List.length_take];omega);have B1:=zaa (hD1.bytes.take u);have Z1:=zaa hD1.nil0;have C1:=zaa (Nat.le_trans hu' hD1.cap.1);have X1:=zaa hX1;have N1:=zaa (show ∀ b off,p=some ⟨b,off,none⟩→blk sp≠some b from fun b off e hb=>hne b (by rw[e];rfl) hb);have S1:=zaa (show l.length+u≤140737488355328 by omega);have S2:=zaa (Nat.le_trans hbs ba.size);have HK:=zaa hk;have G1:=zaa (hX.grewNil ba).2;clear hX hD hk hu hne hsz hbs ba hX1 hD1 hu';go_enter Tryz.func89,Tryz.ntmps89
  go_wp2
  go_region_law (go_simp;go_at_call 118;refine(zjf base sp sc l l.length k p u c (o.take u) _ rfl (za HK) (za HT) (by first|exact za B1|exact(za B1).drew) (za Z1) (za C1) (by first|exact za X1|exact⟨(za X1).lt,(za X1).row⟩) (fun _=>za N1) (za S1) (by exact za S2)).mono ?_;rintro e1 U ⟨sp',c',rfl,hX,hG⟩;have X2:=zaa hX;have G2:=zaa ((za G1).trans (⟨⟨hG.grown.os,hG.grown.tape,hG.grown.output,hG.grown.size,hG.grown.block⟩,hG.lies⟩:Grew (w.alloc (.cells #[.bool false,.int .i64 (k:Int),.slice p o.length c] 131)) sp U sp'));clear hX hG)
  all_goals
   go_wp2
   go_ret
   exact⟨sp',c',rfl,za X2,za G2⟩
def za3:List Chg→List Nat→Nat→List Nat×Nat
 |[],y,n=>(y,n)
 |c::cs,y,n=>if n=0 then (y,0) else za3 cs (zc5 c y (min n (zap c))) (n - min n (zap c))
def zko:List Chg→List Nat→Prop
 |[],_=>True
 |c::cs,y=>c.2.1≤y.length∧y.length+c.2.2.length≤140737488355328∧zko cs (zc5 c y (zap c))
theorem ze2 (cs:List Chg) (y:List Nat):za3 cs y 0=(y,0):=by cases cs <;> simp[za3]
theorem OwnC.cell {base:Nat} {w:World} {sp:Option Addr} {c:Nat} {xs:List ChH} (h:OwnC base w sp c xs) (i:Nat) (hi:i<xs.length):∃ g,sp=some ⟨g,0,none⟩∧w.cell? ⟨g,i*3,none⟩=some (.bool xs[i].1.1)∧w.cell? ⟨g,i*3+1,none⟩=some (.int .i64 (xs[i].1.2.1:Int))∧w.cell? ⟨g,i*3+2,none⟩=some (.slice xs[i].2.1 xs[i].1.2.2.length xs[i].2.2):=by
 rcases h.row.2 with⟨_,h0⟩|⟨g,cap,cur,hv,_,hg,_,_,_,ht⟩
 ·omega
 ·simp only[Value.slice.injEq] at hv;obtain⟨rfl,_,_⟩:=hv;have key:∀ f,f<3→w.cell? ⟨g,i*3+f,none⟩=(zic xs[i])[f]?:=by
   intro f hf;rw[cell_of_row w g _ cur _ _ hg];have hlt:i*3+f<xs.length*3:=by omega
   have e:(cur.toList.take (xs.length*3))[i*3+f]? = cur.toList[i*3+f]?:=by rw[List.getElem?_take,if_pos hlt]
   rw[ht,zqr xs i f hi hf] at e;rw[e];simp
  exact⟨g,rfl,by simpa [zic] using key 0 (by omega),by simpa [zic] using key 1 (by omega),by simpa [zic] using key 2 (by omega)⟩
def Fil.overY (f:Fil) (yp:Option Addr) (yc:Nat) (y:List Nat):Fil:={ f with yp:=yp,yc:=yc,y:=y }
theorem FileAt.overY {base:Nat} {w V:World} {F:Nat} {f:Fil} (h:FileAt base w F f) (yp:Option Addr) (yc:Nat) (y:List Nat) (hX:Bx base V yp yc y) (hG:Grew w f.yp V yp) :
  V.cell? ⟨F,1,none⟩=some (.slice f.yp f.y.length f.yc)∧V.frozen? ⟨F,1,none⟩=false ∧
  FileAt base (V.setCell ⟨F,1,none⟩ (.slice yp y.length yc)) F (f.overY yp yc y)∧FGrew F w f (V.setCell ⟨F,1,none⟩ (.slice yp y.length yc)) (f.overY yp yc y):=by
 have hbox:V.heap[F]? = some (.cells f.row 122 (0,0)):=(hG.grown.block F h.ltF (fun e=>h.sure.ne_block h.box (by decide) e.symm)).trans h.box;have n1:∀ {b2:Nat} {sp:Option Addr} {c:Nat} {l:List Nat},Bx b2 w sp c l→(∀ g,blk sp=some g→blk f.yp≠some g)→∀ g,blk yp=some g→blk sp≠some g:=by
  intro b2 sp c l hB hne g hg hs;rcases hG.lies g hg with h1|h1
  ·exact hne g hs h1
  ·have:=(hB.isT g hs).2.1;omega
 refine⟨zan hbox 1 _ (by simp[Fil.row]),zio hbox 1,?_,?_⟩
 ·refine FileAt.ofSet f hbox h.low 1 _ (f.overY yp yc y) (by simp[Fil.row,Fil.overY]) (h.bytes.grownNe hG.grown h.apart) hX (h.chs.grownNe hG.grown (fun g hg e=>h.sure.ne_row h.chs g e hg) (fun x hx g hg=>(h.far x hx g hg).2)) ?_ (fun x hx g hg=>⟨(h.far x hx g hg).1,fun e=>?_⟩)
  ·exact fun g hg e=>n1 h.bytes h.apart g e hg
  ·exact n1 (h.chs.dat x hx) (fun g hg=>(h.far x hx g hg).2) g e hg
 ·refine⟨hG.grown.os,hG.grown.tape,hG.grown.output,?_,fun i hi hn=>?_,fun g hg=>?_,fun g hg=>.inl hg⟩
  ·have:=hG.grown.size
   simpa [World.setCell] using this
  ·rw[heap_setCell_other _ ⟨F,1,none⟩ i _ (fun e=>hn (.inl e))];exact hG.grown.block i hi (fun e=>hn (.inr (.inr (.inl e.symm))))
  ·rcases hg with rfl|hg|hg|hg
   ·exact .inl (.inl rfl)
   ·exact .inl (.inr (.inl hg))
   ·rcases hG.lies g hg with h1|h1
    ·exact .inl (.inr (.inr (.inl h1)))
    ·exact .inr h1
   ·exact .inl (.inr (.inr (.inr hg)))
def Fil.crashed (f:Fil) (bp:Option Addr):Fil:={ f with bp:=bp,bc:=f.y.length,b:=f.y,la:=true,cp:=none,cc:=0,xs:=[] }
theorem FileAt.crash3 {base:Nat} {w V:World} {F:Nat} {f:Fil} (h:FileAt base w F f) (hbs:base≤w.heap.size) (hb:Below w.heap.size w V) (dp:Option Addr) (hd:Bx w.heap.size V dp f.y.length f.y) :
  FileAt base (V.setCell ⟨F,0,none⟩ (.slice dp f.y.length f.y.length)) F { f with bp:=dp,bc:=f.y.length,b:=f.y } ∧
  FileAt base ((V.setCell ⟨F,0,none⟩ (.slice dp f.y.length f.y.length)).setCell ⟨F,2,none⟩ (.bool true)) F { f with bp:=dp,bc:=f.y.length,b:=f.y,la:=true } ∧
  FileAt base (((V.setCell ⟨F,0,none⟩ (.slice dp f.y.length f.y.length)).setCell ⟨F,2,none⟩ (.bool true)).setCell ⟨F,3,none⟩ (.slice none 0 0)) F (f.crashed dp) ∧
  FGrew F w f (((V.setCell ⟨F,0,none⟩ (.slice dp f.y.length f.y.length)).setCell ⟨F,2,none⟩ (.bool true)).setCell ⟨F,3,none⟩ (.slice none 0 0)) (f.crashed dp):=by
 have hV:=h.later hb;have H1:FileAt base (V.setCell ⟨F,0,none⟩ (.slice dp f.y.length f.y.length)) F { f with bp:=dp,bc:=f.y.length,b:=f.y } :=
  hV.set 0 _ _ (by simp[Fil.row]) (hd.mono hbs) hV.sure hV.chs (fun g hg e=>h.sure.old_ne hd g e hg) (fun x hx g hg=>⟨(h.chs.dat x hx).old_ne hd g hg,(h.far x hx g hg).2⟩)
 have H2:=H1.set 2 (.bool true) { f with bp:=dp,bc:=f.y.length,b:=f.y,la:=true } (by simp[Fil.row]) H1.bytes H1.sure H1.chs H1.apart H1.far;have H3:=H2.set 3 (.slice none 0 0) (f.crashed dp) (by simp[Fil.row,Fil.crashed]) H2.bytes H2.sure (OwnC.ofNil _ _) H2.apart (by simp[Fil.crashed]);refine⟨H1,H2,H3,⟨hb.os,hb.tape,hb.output,?_,fun i hi hn=>?_,fun g hg=>?_,fun g hg=>?_⟩⟩
 ·simpa [World.setCell] using hb.size
 ·have hne:i≠F:=fun e=>hn (.inl e);rw[heap_setCell_other _ ⟨F,3,none⟩ i _ hne,heap_setCell_other _ ⟨F,2,none⟩ i _ hne,heap_setCell_other _ ⟨F,0,none⟩ i _ hne];exact hb.block i hi
 ·rcases hg with rfl|hg|hg|hg
  ·exact .inl (.inl rfl)
  ·exact .inr (hd.isT g hg).1
  ·exact .inl (.inr (.inr (.inl hg)))
  ·cases hg
 ·obtain⟨x,hx,_⟩:=hg;simp[Fil.crashed] at hx
end
end Go.Proofs.YtofllbpfajppeaaGreatDoor
