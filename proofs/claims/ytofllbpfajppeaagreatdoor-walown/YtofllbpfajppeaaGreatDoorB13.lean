/- Logs: last, fits, term. -/
import Derived.Test.YtofllbpfajppeaaGreatDoorB12
import Derived.Test.YtofllbpfajppeaaGreatDoorB11
import Derived.Test.YtofllbpfajppeaaGreatDoorB10
set_option linter.unusedVariables false
set_option maxRecDepth 20000
set_option maxHeartbeats 16000000
namespace Go.Proofs.YtofllbpfajppeaaGreatDoor
section
open Go.ChangeShapes Go.WideShapes Go.ChangeAt Go.RowKit
def ct5 (c:Wc) (ep:Option Addr) (ec:Nat):List Value:=[.int .i64 (c.bi:Int),.int .i64 (c.bt:Int),.int .i64 (c.ht:Int),.int .i64 (c.hv:Int),.slice ep c.es.length ec]
def zyx (p q:List Value) (c:Wc) (ep:Option Addr) (ec:Nat):Array Value:=(p++(ct5 c ep ec++q)).toArray
structure CtAt (w:World) (B:Nat) (T:TypeId) (p q:List Value) (c:Wc) (ep:Option Addr) (ec:Nat):Prop where
 row:w.heap[B]? = some (.cells (zyx p q c ep ec) T (0,0))
section
variable {w w':World} {B:Nat} {T:TypeId} {p q:List Value} {c:Wc} {ep:Option Addr} {ec:Nat}
theorem CtAt.lt (h:CtAt w B T p q c ep ec):B<w.heap.size:=(Array.getElem?_eq_some_iff.1 h.row).1
theorem CtAt.same (h:CtAt w B T p q c ep ec) (hk:w'.heap[B]? = w.heap[B]?):CtAt w' B T p q c ep ec:=⟨hk.trans h.row⟩
theorem CtAt.later (h:CtAt w B T p q c ep ec) (hb:Below w.heap.size w w'):CtAt w' B T p q c ep ec:=h.same (hb.block B h.lt)
theorem zBh (p q:List Value) (c:Wc) (ep:Option Addr) (ec f:Nat) (v:Value) (hf:f<5) (hv:(ct5 c ep ec)[f]? = some v):(zyx p q c ep ec)[p.length+f]? = some v:=by
 unfold zyx;rw[← Array.getElem?_toList,List.getElem?_append_right (by omega),show p.length+f - p.length=f by omega,List.getElem?_append_left (show f<5 from hf)];exact hv
theorem CtAt.cells (h:CtAt w B T p q c ep ec) (o:Nat) (ho:p.length=o):(w.cell? ⟨B,o,none⟩=some (.int .i64 (c.bi:Int))∧w.cell? ⟨B,o+1,none⟩=some (.int .i64 (c.bt:Int))∧w.cell? ⟨B,o+2,none⟩=some (.int .i64 (c.ht:Int))∧w.cell? ⟨B,o+3,none⟩=some (.int .i64 (c.hv:Int))∧w.cell? ⟨B,o+4,none⟩=some (.slice ep c.es.length ec))∧∀ i,w.frozen? ⟨B,i,none⟩=false:=by
 subst ho;have one:∀ f v,f<5→(ct5 c ep ec)[f]? = some v→w.cell? ⟨B,p.length+f,none⟩=some v:=fun f v hf hv=>by
  rw[cell_of_row _ _ _ _ _ _ h.row];exact zBh p q c ep ec f v hf hv
 exact⟨⟨one 0 _ (by omega) rfl,one 1 _ (by omega) rfl,one 2 _ (by omega) rfl,one 3 _ (by omega) rfl,one 4 _ (by omega) rfl⟩,fun i=>zbj h.row i⟩
theorem CtAt.set (h:CtAt w B T p q c ep ec) (o f:Nat) (ho:p.length=o) (c':Wc) (ep':Option Addr) (ec':Nat) (v:Value)
  (hv:(ct5 c ep ec).set f v=ct5 c' ep' ec') (hf:f<5):CtAt (w.setCell ⟨B,o+f,none⟩ v) B T p q c' ep' ec':=by
 subst ho;refine⟨?_⟩;rw[heap_setCell_same w B (p.length+f) _ T v h.row]
 congr 2
 unfold zyx;rw[List.setIfInBounds_toArray,List.set_append_right _ _ (by omega),show p.length+f - p.length=f by omega,List.set_append_left _ _ (show f<5 from hf),hv]
theorem zjg (h:CtAt w B T p q c ep ec) (o:Nat) (ho:p.length=o) (hb:c.bi≤1099511627776) (hl:c.es.length≤1099511627776) :
  Calls Tryz.prog 62 #[.pointer (some ⟨B,o,none⟩)] w fun e w'=>e=.returned (.int .i64 ((c.bi+c.es.length:Nat):Int))∧Below w.heap.size w w':=by
 obtain⟨⟨c0,_,_,_,c4⟩,_⟩:=h.cells o ho;have BD:=zaa (show ∀ k,Below w.heap.size w (w.drewN k) from fun k=>⟨rfl,rfl,rfl,Nat.le_refl _,fun _ _=>rfl⟩);clear h ho;generalize c.es.length=n at *;generalize c.bi=bi at *;go_enter Tryz.func62,Tryz.ntmps62
 go_wp2_with fail
 go_quiet (fail)
 go_wp2
 go_ret
 exact⟨by congr 2,za BD _⟩
def zde (c:Wc) (i:Int):Bool:=decide ((c.bi:Int)<i)&&decide (i≤((c.bi+c.es.length:Nat):Int)+1)
theorem zmo (h:CtAt w B T p q c ep ec) (o:Nat) (ho:p.length=o) (hb:c.bi≤1099511627776) (hl:c.es.length≤1099511627776) (i:Int) :
  Calls Tryz.prog 105 #[.pointer (some ⟨B,o,none⟩),.int .i64 i] w fun e w'=>e=.returned (.bool (zde c i))∧Below w.heap.size w w':=by
 obtain⟨⟨c0,_,_,_,c4⟩,_⟩:=h.cells o ho;have LC:=zaa (zjg h o ho hb hl);have FE:=zaa (show zde c i=(decide ((c.bi:Int)<i)&&decide (i≤((c.bi+c.es.length:Nat):Int)+1)) from rfl);have hs:((c.bi+c.es.length:Nat):Int)+1≤9223372036854775807:=by omega
 have hs0:(0:Int)≤((c.bi+c.es.length:Nat):Int):=by omega
 clear h ho;generalize ((c.bi+c.es.length:Nat):Int)=la at *;generalize zde c i=fw at *;generalize c.es.length=n at *;generalize c.bi=bi at *;by_cases h1:(bi:Int)<i
 ·have FW:=zaa (show fw=decide (i≤la+1) by rw[za FE,decide_eq_true h1,Bool.true_and]);go_enter Tryz.func105,Tryz.ntmps105
  go_wp2_with fail
  go_at_call 62
  refine(za LC).mono ?_;rintro e V ⟨rfl,v1⟩;have B1:=zaa v1;clear v1
  go_wp2
  go_ret
  exact⟨by rw[za FW];rfl,za B1⟩
 ·have FW:=zaa (show fw=false by rw[za FE,decide_eq_false h1];rfl);have B0:=zaa (Below.refl w.heap.size w);go_enter Tryz.func105,Tryz.ntmps105
  go_wp2
  go_ret
  exact⟨by rw[za FW];rfl,za B0⟩
def zdd (c:Wc) (i:Int):Int×Bool:=if i=(c.bi:Int) then ((c.bt:Int),true) else if (c.bi:Int)<i∧i≤((c.bi+c.es.length:Nat):Int) then (((c.es.getD (i - (c.bi:Int) - 1).toNat default).2.1:Int),true) else (0,false)
theorem znk (h:CtAt w B T p q c ep ec) (o:Nat) (ho:p.length=o) (hb:c.bi≤1099511627776) (hl:c.es.length≤1099511627776) {base:Nat} {hs:List (Option Addr×Nat)} (hE:OwnL base w ep ec c.es hs) (i:Int) (hi:-9223372036854775808≤i∧i≤9223372036854775807) :
  Calls Tryz.prog 49 #[.pointer (some ⟨B,o,none⟩),.int .i64 i] w fun e w'=>e=.returned (.tuple #[.int .i64 (zdd c i).1,.bool (zdd c i).2])∧Below w.heap.size w w':=by
 obtain⟨⟨c0,c1,_,_,c4⟩,_⟩:=h.cells o ho;have LC:=zaa (zjg h o ho hb hl);have HC:=zaa h;have EA:=zaa hE.ents;have FE:=zaa (show zdd c i=(if i=(c.bi:Int) then ((c.bt:Int),true) else if (c.bi:Int)<i∧i≤((c.bi+c.es.length:Nat):Int) then (((c.es.getD (i - (c.bi:Int) - 1).toNat default).2.1:Int),true) else (0,false)) from rfl);have hs:((c.bi+c.es.length:Nat):Int)≤4398046511104:=by omega
 generalize zdd c i=tw at *;clear h hE;by_cases h1:i=(c.bi:Int)
 ·have FW:=zaa (show tw=((c.bt:Int),true) by rw[za FE,if_pos h1]);have B0:=zaa (Below.refl w.heap.size w);have hb1:(i==(c.bi:Int))=true:=by simp[h1]
  generalize c.bi=bi at *;generalize c.bt=bt at *;generalize c.es.length=n at *;go_enter Tryz.func49,Tryz.ntmps49
  go_wp2
  go_ret2
  exact⟨by rw[za FW];rfl,za B0⟩
 ·have hb1:(i==(c.bi:Int))=false:=by simp[h1]
  by_cases h2:i<(c.bi:Int)
  ·have FW:=zaa (show tw=(0,false) by rw[za FE,if_neg h1,if_neg (by omega)]);have B0:=zaa (Below.refl w.heap.size w);generalize c.bi=bi at *;generalize c.bt=bt at *;generalize c.es.length=n at *;go_enter Tryz.func49,Tryz.ntmps49
   go_wp2
   go_ret2
   exact⟨by rw[za FW];rfl,za B0⟩
  ·by_cases h3:((c.bi+c.es.length:Nat):Int)<i
   ·have FW:=zaa (show tw=(0,false) by rw[za FE,if_neg h1,if_neg (by omega)]);generalize ((c.bi+c.es.length:Nat):Int)=la at *;generalize c.bi=bi at *;generalize c.bt=bt at *;generalize c.es.length=n at *;go_enter Tryz.func49,Tryz.ntmps49
    go_wp2_with fail
    go_at_call 62
    refine(za LC).mono ?_;rintro e V ⟨rfl,v1⟩;have B1:=zaa v1;clear v1
    go_wp2
    go_ret2
    exact⟨by rw[za FW];rfl,za B1⟩
   ·obtain⟨k,hk⟩:∃ k:Nat,i=(c.bi:Int)+1+k:=⟨(i - (c.bi:Int) - 1).toNat,by omega⟩
    have hkl:k<c.es.length:=by omega
    have FW:=zaa (show tw=(((c.es[k]).2.1:Int),true) by
     rw[za FE,if_neg h1,if_pos ⟨by omega,by omega⟩,show(i - (c.bi:Int) - 1).toNat=k by omega,List.getD_eq_getElem?_getD,List.getElem?_eq_getElem hkl]
     rfl)
    obtain⟨b,off,dp,dc,rfl,q0,q1,qr⟩:=(za EA).cell k (by rw[List.length_map];exact hkl);have hm:(c.es.map toI)[k]'(by rw[List.length_map];exact hkl)=toI c.es[k]:=by simp
    rw[hm] at q1;clear q0 qr hm EA HC FE;have q1:w.cell? ⟨b,off+k*4+1,none⟩=some (.int .i64 ((c.es[k]).2.1:Int)):=q1;have hk0:(0:Int)≤(k:Int):=by omega
    have hk1:(k:Int)<(c.es.length:Int):=by omega
    have hik:IntKind.i64.wrap (IntKind.i64.wrap (i - (c.bi:Int)) - 1)=(k:Int):=by
     rw[IntKind.wrap_i64,IntKind.wrap_i64];omega
    have h2':¬ i<(c.bi:Int):=by omega
    have h3':¬ ((c.bi+c.es.length:Nat):Int)<i:=by omega
    have HK:=zaa hk;clear hk;generalize c.es[k]=ek at *;clear hkl;generalize ((c.bi+c.es.length:Nat):Int)=la at *;generalize c.bi=bi at *;generalize c.bt=bt at *;generalize c.es.length=n at *;go_enter Tryz.func49,Tryz.ntmps49
    go_wp2_with fail
    go_at_call 62
    refine(za LC).mono ?_;rintro e V ⟨rfl,v1⟩;have d0:=cell_later v1 c0;have d4:=cell_later v1 c4;have r1:=cell_later v1 q1;have B1:=zaa v1;have BD:=zaa (show ∀ k,Below w.heap.size w (V.drewN k) from fun k=>⟨v1.os,v1.tape,v1.output,v1.size,v1.block⟩);clear v1 c0 c1 c4 q1
    go_wp2_with fail
    go_quiet (fail)
    go_wp2
    go_ret2
    exact⟨by rw[za FW];rfl,za BD _⟩
end
theorem zBj:Tryz.prog.underlying 27=some (.slice (Tryz.prog.elem 27)):=by kernel_rfl
theorem zx2 (u:World):(sizeOf (Tryz.prog.elem 27)).run Tryz.prog u=.ok 4 u:=by kernel_rfl
theorem zq0 (a:Option Addr) (len cap hi:Nat) (ha:∀ ad,a=some ad→∃ g,ad=⟨g,0,none⟩) (h2:hi≤cap) (u:World) :
  (Instr.slice 27 (.slice a len cap) none (some (.int .i64 (hi:Int))) none).run Tryz.prog u=.ok (.slice a hi cap) u:=by
 rw[run_slice_h (w:=u) 27 a len cap zBj .i64 (hi:Int) (by omega) (by omega),zx2];have hz:=zt1 a cap ha;unfold slp at hz;simp[Result.andThen,sliced]
 simpa using hz
structure Grew2 (B:Nat) (o:Option Nat) (w w':World):Prop where
 os:w'.os=w.os
 tape:w'.tape=w.tape
 output:w'.output=w.output
 size:w.heap.size≤w'.heap.size
 block:∀ i,i<w.heap.size→i≠B→o≠some i→w'.heap[i]? = w.heap[i]?
theorem Grew2.ofBelow {B:Nat} {o:Option Nat} {w w':World} (h:Below w.heap.size w w'):Grew2 B o w w':=⟨h.os,h.tape,h.output,h.size,fun i hi _ _=>h.block i hi⟩
def zfb (c:Wc) (e:EntN):Wc:={ c with es:=c.es.take (e.2.2.1 - c.bi - 1)++[e] }
theorem zq6 {w:World} {ops:Array Oper} {o:Oper} {a:Act} {K:Act→World→Prop} {Q:Exit→Act→World→Prop} {E0:Prop} (hgd:o.guard=none) (k:Nat) (ho:o.op=.buildSlice 27 1 #[(0,.tmp k)]) (v0 v1 v2 v3:Value) (hs:a.eval (.tmp k)=.agg #[v0,v1,v2,v3])
  (h:∀ E w',w.heap.size=E→w'.heap[E]? = some (.cells #[v0,v1,v2,v3] 64 (0,0))→Below w.heap.size w w'→K (a.put o.dst (.slice (some ⟨E,0,none⟩) 1 1)) w') :
  if Region.wanted o (yielded ops a.tmps)=true then Oper.wp Tryz.prog o a w K Q else E0:=by
 have hw:Region.wanted o (yielded ops a.tmps)=true:=by simp[Region.wanted,hgd]
 rw[if_pos hw];have h1:=h w.heap.size (w.alloc (.cells #[v0,v1,v2,v3] 64)) rfl (zad w _) ((Below.refl _ _).alloc (Nat.le_refl _) _);have hs':a.tmps[k]?.getD undef=.agg #[v0,v1,v2,v3]:=by simpa [go_sem] using hs
 unfold Oper.wp;simp[execOp,ho,go_sem,hs'];exact h1
theorem zj1 {w:World} {ops:Array Oper} {o:Oper} {a:Act} {K:Act→World→Prop} {Q:Exit→Act→World→Prop} {E0:Prop} (hgd:o.guard=none) (s x:Operand)
  (ho:o.op=.call { callee:=.builtin .append,args:=#[s,x],argTypes:=#[27,27] })
  (base:Nat) (sp:Option Addr) (n c:Nat) (es:List EntN) (hs:List (Option Addr×Nat)) (hsv:a.eval s=.slice sp n c) (hn:es.length=n) (hown:OwnL base w sp c es hs) (B:Nat) (e:EntN) (h:Option Addr×Nat) (hx:a.eval x=.slice (some ⟨B,0,none⟩) 1 1)
  (hB:w.heap[B]? = some (.cells (zc8 e h).toArray 64 (0,0))) (hd:Bx base w h.1 h.2 e.2.2.2) (hlen:es.length≤1048576) (hbase:base≤w.heap.size)
  (hk:∀ sp' c' w',OwnL base w' sp' c' (es++[e]) (hs++[h])→w.grownBy w' (blk sp)→(∀ g,blk sp'=some g→blk sp=some g∨w.heap.size≤g)→K (a.put o.dst (.slice sp' (n+1) c')) w') :
  if Region.wanted o (yielded ops a.tmps)=true then Oper.wp Tryz.prog o a w K Q else E0:=by
 subst hn;have hw:Region.wanted o (yielded ops a.tmps)=true:=by simp[Region.wanted,hgd]
 rw[if_pos hw];obtain⟨sp',c',w',hrun,h1,h2,h3⟩:=zle (w:=w) hown B e h hB hd hlen hbase o.type;unfold Oper.wp;simp[execOp,ho,resolve,invoke,builtin,hsv,hx,hrun,Result.andThen];exact hk sp' c' w' h1 h2 h3
def zAc (base:Nat) (w:World) (B:Nat) (T:TypeId) (p q:List Value) (ep:Option Addr) (hs:List (Option Addr×Nat)) (dp:Option Addr) (c':Wc) (r:Ending) (w':World):Prop :=
 r=.returned (.tuple #[])∧∃ ep' ec' hs',CtAt w' B T p q c' ep' ec'∧OwnL base w' ep' ec' c'.es hs'∧Grew2 B (blk ep) w w'∧∀ g,zc6 ep' hs' g→zc6 ep hs g∨blk dp=some g∨w.heap.size≤g
section
variable {w:World} {B:Nat} {T:TypeId} {p q:List Value} {c:Wc} {ep:Option Addr} {ec:Nat} {base:Nat} {hs:List (Option Addr×Nat)}
theorem OwnL.addr {es:List EntN} (h:OwnL base w ep ec es hs):∀ ad,ep=some ad→∃ g,ad=⟨g,0,none⟩:=fun ad e=>by
 rcases h.row.2 with⟨hv,h0⟩|⟨g',cap,cur,hv,_⟩
 ·simp only[Value.slice.injEq] at hv;rw[hv.1] at e;cases e
 ·simp only[Value.slice.injEq] at hv;rw[hv.1] at e;cases e
  exact⟨g',rfl⟩
theorem OwnL.cap {es:List EntN} (h:OwnL base w ep ec es hs):es.length≤ec∧(ep=none→ec=0):=by
 rcases h.row.2 with⟨hv,h0⟩|⟨g',cap,cur,hv,_,_,hle,_⟩
 ·simp only[Value.slice.injEq] at hv;exact⟨by omega,fun _=>hv.2.2⟩
 ·simp only[Value.slice.injEq] at hv;obtain⟨rfl,_,rfl⟩:=hv;exact⟨hle,fun h=>by cases h⟩
theorem zpd (h:CtAt w B T p q c ep ec) (o:Nat) (ho:p.length=o) (hT:T≠64) (hT2:T≠5) (hE:OwnL base w ep ec c.es hs) (hb:c.bi≤1099511627776) (hl:c.es.length≤1000000) (e:EntN) (dp:Option Addr) (dn dc:Nat) (hdn:e.2.2.2.length=dn) (hd:Bx base w dp dc e.2.2.2) (hf1:c.bi<e.2.2.1) (hf2:e.2.2.1≤c.bi+c.es.length+1) (hbs:base≤w.heap.size) :
  Calls Tryz.prog 67 #[.pointer (some ⟨B,o,none⟩),.agg #[.int .i64 (e.1:Int),.int .i64 (e.2.1:Int),.int .i64 (e.2.2.1:Int),.slice dp dn dc]] w (zAc base w B T p q ep hs dp (zfb c e)):=by
 obtain⟨ek,et,ei,ed⟩:=e;dsimp only at *;subst hdn;obtain⟨kk,hkk⟩:∃ kk,ei - c.bi - 1=kk:=⟨_,rfl⟩
 have hkl:kk≤c.es.length:=by omega
 have hik:IntKind.i64.wrap (IntKind.i64.wrap ((ei:Int) - (c.bi:Int)) - 1)=(kk:Int):=by
  rw[IntKind.wrap_i64,IntKind.wrap_i64];omega
 have hBep:blk ep≠some B:=fun e=>by
  obtain⟨_,_,cur,T',hc,hT'⟩:=hE.foot B (.inl e);rw[h.row] at hc;simp only[Option.some.injEq,Obj.cells.injEq] at hc;rcases hE.row.2 with⟨hv,h0⟩|⟨g',cap,cur',hv,_,hh,_⟩
  ·simp only[Value.slice.injEq] at hv;rw[hv.1] at e;cases e
  ·simp only[Value.slice.injEq] at hv;rw[hv.1] at e;cases e
   rw[h.row] at hh;simp only[Option.some.injEq,Obj.cells.injEq] at hh;exact hT hh.2.1
 have b1:Below w.heap.size w (w.alloc (.cells #[.int .i64 (ek:Int),.int .i64 (et:Int),.int .i64 (ei:Int),.slice dp ed.length dc] 64)):=(Below.refl _ _).alloc (Nat.le_refl _) _;have X1:=zad w (.cells #[.int .i64 (ek:Int),.int .i64 (et:Int),.int .i64 (ei:Int),.slice dp ed.length dc] 64);have hsl:=fun u=>zq0 ep c.es.length ec kk hE.addr (Nat.le_trans hkl hE.cap.1) u;have hEK:=hE.take kk hkl;have HLK:=zaa (show(c.es.take kk).length=kk by rw[List.length_take];omega)
 have FE:=zaa (show ∀ U sp' c',(∃ U0,Below w.heap.size w U0∧U0.grownBy U (blk ep)∧(∀ g,blk sp'=some g→blk ep=some g∨U0.heap.size≤g))→OwnL base U sp' c' (c.es.take kk++[(ek,et,ei,ed)]) (hs.take kk++[(dp,dc)])→CtAt U B T p q c ep ec→zAc base w B T p q ep hs dp (zfb c (ek,et,ei,ed)) (.returned (.tuple #[])) (U.setCell ⟨B,o+4,none⟩ (.slice sp' (kk+1) c')) from fun U sp' c' hU hO hC=>by
  obtain⟨U0,u1,u2,u3⟩:=hU
  have hS:CtAt (U.setCell ⟨B,o+4,none⟩ (.slice sp' (kk+1) c')) B T p q (zfb c (ek,et,ei,ed)) sp' c':=hC.set o 4 ho _ _ _ _ (by
   unfold ct5 zfb;dsimp only;rw[hkk,List.length_append,za HLK]
   rfl) (by omega)
  have hoth:∀ g,g≠B→(U.setCell ⟨B,o+4,none⟩ (.slice sp' (kk+1) c')).heap[g]? = U.heap[g]?:=fun g hg=>heap_setCell_other U ⟨B,o+4,none⟩ g _ hg;have hfoot:∀ g,zc6 sp' (hs.take kk++[(dp,dc)]) g→zc6 ep hs g∨blk dp=some g∨w.heap.size≤g:=fun g hg=>by
   rcases hg with hg|⟨x,hx,hg⟩
   ·rcases u3 g hg with a|a
    ·exact .inl (.inl a)
    ·exact .inr (.inr (Nat.le_trans u1.size a))
   ·rcases List.mem_append.1 hx with hx|hx
    ·exact .inl (.inr ⟨x,List.mem_of_mem_take hx,hg⟩)
    ·rw[List.mem_singleton] at hx;subst hx;exact .inr (.inl hg)
  refine⟨rfl,sp',c',hs.take kk++[(dp,dc)],hS,?_,⟨u2.os.trans u1.os,u2.tape.trans u1.tape,u2.output.trans u1.output,by have:=u1.size;have:=u2.size;simp only[World.setCell];simp;omega,fun i h1 h2 h3=>(hoth i h2).trans ((u2.block i (Nat.lt_of_lt_of_le h1 u1.size) (fun e=>h3 e.symm)).trans (u1.block i h1))⟩,hfoot⟩;have hes:(zfb c (ek,et,ei,ed)).es=c.es.take kk++[(ek,et,ei,ed)]:=by unfold zfb;dsimp only;rw[hkk]
  rw[hes];refine hO.same (fun g hg=>hoth g (fun e=>?_));subst e;obtain⟨_,_,cur,T',hc,hT'⟩:=hO.foot g hg;rw[hC.row] at hc;simp only[Option.some.injEq,Obj.cells.injEq] at hc;rw[← hc.2.1] at hT';rcases hT' with a|a
  ·exact hT a
  ·exact hT2 a)
 have CT:=zaa (h.later b1);have OW:=zaa (hEK.later b1);have BX:=zaa (hd.later b1);have XX:=zaa X1;have F:=zaa b1;have HX:=zaa (show w.heap.size<(w.alloc (.cells #[.int .i64 (ek:Int),.int .i64 (et:Int),.int .i64 (ei:Int),.slice dp ed.length dc] 64)).heap.size from(Array.getElem?_eq_some_iff.1 X1).1);have HEP:=zaa (show ∀ g,blk ep=some g→g<w.heap.size from fun g hg=>(hE.foot g (.inl hg)).2.1);have HO:=zaa ho;have HB:=zaa hBep;have HBS:=zaa hbs;have CTL:=zaa h.lt;clear h hE hEK hd b1 X1 hf1 hf2 hb ho hBep hT hT2 hbs hkk;generalize c.es.take kk=esK at *;generalize hs.take kk=hsK at *;go_enter Tryz.func67,Tryz.ntmps67
 go_wp2_with fail
 generalize w.alloc _=W1 at *;have w4:=((za CT).cells o (za HO)).1.2.2.2.2;have CT:=zaa ((za CT).later ((Below.refl _ _).drew));have OW:=zaa ((za OW).later ((Below.refl _ _).drew));have BX:=zaa ((za BX).later ((Below.refl _ _).drew));have XX:=zaa (show W1.drew.heap[w.heap.size]? = some _ from za XX);have F:=zaa (za F).drew;have HX:=zaa (show w.heap.size<W1.drew.heap.size from za HX);have KS:=zaa (show(W1.drew.cell? ⟨w.heap.size,0,none⟩=some (.int .i64 (ek:Int))∧W1.drew.cell? ⟨w.heap.size,1,none⟩=some (.int .i64 (et:Int))∧W1.drew.cell? ⟨w.heap.size,2,none⟩=some (.int .i64 (ei:Int))∧W1.drew.cell? ⟨w.heap.size,3,none⟩=some (.slice dp ed.length dc))∧W1.drew.cell? ⟨B,o,none⟩=some (.int .i64 (c.bi:Int)) from⟨⟨zab (za XX) 0 _ rfl,zab (za XX) 1 _ rfl,zab (za XX) 2 _ rfl,zab (za XX) 3 _ rfl⟩,((za CT).cells o (za HO)).1.1⟩);refine wp_region_held_drew (S:=fun w'=>(w'.cell? ⟨w.heap.size,0,none⟩=some (.int .i64 (ek:Int))∧w'.cell? ⟨w.heap.size,1,none⟩=some (.int .i64 (et:Int))∧w'.cell? ⟨w.heap.size,2,none⟩=some (.int .i64 (ei:Int))∧w'.cell? ⟨w.heap.size,3,none⟩=some (.slice dp ed.length dc))∧w'.cell? ⟨B,o,none⟩=some (.int .i64 (c.bi:Int))) (by kernel_rfl) ?_ (fun hHeld=>?_)
 ·try dsimp only
  exact za KS
 refine hT 0 ?_;refine hT 1 ?_;refine hT 2 ?_;refine hT 3 ?_;refine hT 5 ?_;refine hT 6 ?_;refine hT 7 ?_;refine hT 8 ?_;refine hT 9 ?_;refine hT 10 ?_;refine hT 11 ?_;refine hT 12 ?_;refine hT 13 ?_;refine hT 15 ?_;refine wpAnyH_ready (rs:=[4,16]) (by kernel_rfl) (by simp) ?_;refine AllReadyH.cons rfl (fun K hK=>?_) ?_
 ·have c4:=((za CT).cells o (za HO)).1.2.2.2.2;go_simp
  clear c4;refine hK.out _ _ ?_ (fun hHeld=>?_)
  ·try dsimp only
   exact za KS
  clear hK K;refine hP ?_;refine hT 14 ?_;refine wpAnyH_ready (rs:=[16]) (by kernel_rfl) (by simp) ?_;refine AllReadyH.cons rfl (fun K hK=>?_) ?_
  ·refine zq6 rfl 19 rfl _ _ _ _ rfl ?_;intro E U hEs hEn hbw;have HE:=zaa hEn;have CT:=zaa ((za CT).later hbw);have OW:=zaa ((za OW).later hbw);have BX:=zaa ((za BX).later hbw);have XX:=zaa (zac hbw (za XX));have F:=zaa ((za F).trans (hbw.mono (za F).size));have HX:=zaa (Nat.lt_of_lt_of_le (za HX) hbw.size);have KS:=zaa (show(U.cell? ⟨w.heap.size,0,none⟩=some (.int .i64 (ek:Int))∧U.cell? ⟨w.heap.size,1,none⟩=some (.int .i64 (et:Int))∧U.cell? ⟨w.heap.size,2,none⟩=some (.int .i64 (ei:Int))∧U.cell? ⟨w.heap.size,3,none⟩=some (.slice dp ed.length dc))∧U.cell? ⟨B,o,none⟩=some (.int .i64 (c.bi:Int)) from⟨⟨zab (za XX) 0 _ rfl,zab (za XX) 1 _ rfl,zab (za XX) 2 _ rfl,zab (za XX) 3 _ rfl⟩,((za CT).cells o (za HO)).1.1⟩);clear hEs hEn hbw;refine hK.out _ _ ?_ (fun hHeld=>?_)
   ·try dsimp only
    exact za KS
   clear hK K;refine hP ?_;refine wpAnyH_ready (rs:=[17]) (by kernel_rfl) (by simp) ?_;refine AllReadyH.cons rfl (fun K hK=>?_) ?_
   ·refine zj1 rfl (.tmp 18) (.tmp 20) rfl base ep kk ec esK hsK rfl (za HLK) (za OW) E (ek,et,ei,ed) (dp,dc) rfl (za HE) (za BX) (by rw[za HLK];omega) (Nat.le_trans (za HBS) (za F).size) ?_;intro sp' c' U' hO hg hn';have CT:=zaa ((za CT).same (hg.block B (za CT).lt (fun e=>za HB e.symm)));have XX:=zaa ((hg.block _ (za HX) (fun e=>by have:=za HEP _ e.symm;omega)).trans (za XX));have OL:=zaa hO;have FU:=zaa (show ∃ U0,Below w.heap.size w U0∧U0.grownBy U' (blk ep)∧(∀ g,blk sp'=some g→blk ep=some g∨U0.heap.size≤g) from⟨_,za F,hg,hn'⟩);have KS:=zaa (show(U'.cell? ⟨w.heap.size,0,none⟩=some (.int .i64 (ek:Int))∧U'.cell? ⟨w.heap.size,1,none⟩=some (.int .i64 (et:Int))∧U'.cell? ⟨w.heap.size,2,none⟩=some (.int .i64 (ei:Int))∧U'.cell? ⟨w.heap.size,3,none⟩=some (.slice dp ed.length dc))∧U'.cell? ⟨B,o,none⟩=some (.int .i64 (c.bi:Int)) from⟨⟨zab (za XX) 0 _ rfl,zab (za XX) 1 _ rfl,zab (za XX) 2 _ rfl,zab (za XX) 3 _ rfl⟩,((za CT).cells o (za HO)).1.1⟩);clear hO hg hn' F OW BX HE HX;refine hK.out _ _ ?_ (fun hHeld=>?_)
    ·try dsimp only
     exact za KS
    clear hK K;refine hP ?_;refine hT 18 ?_;refine hT 19 ?_;refine wpAnyH_ready (rs:=[20]) (by kernel_rfl) (by simp) ?_;refine AllReadyH.cons rfl (fun K hK=>?_) ?_
    ·have c4:=((za CT).cells o (za HO)).1.2.2.2.2;have f4:=((za CT).cells o (za HO)).2 (o+4);have FX:=zaa (za FE U' sp' c' (za FU) (za OL) (za CT))
     have KS:=zaa (show((U'.setCell ⟨B,o+4,none⟩ (.slice sp' (kk+1) c')).cell? ⟨w.heap.size,0,none⟩=some (.int .i64 (ek:Int))∧(U'.setCell ⟨B,o+4,none⟩ (.slice sp' (kk+1) c')).cell? ⟨w.heap.size,1,none⟩=some (.int .i64 (et:Int))∧(U'.setCell ⟨B,o+4,none⟩ (.slice sp' (kk+1) c')).cell? ⟨w.heap.size,2,none⟩=some (.int .i64 (ei:Int))∧(U'.setCell ⟨B,o+4,none⟩ (.slice sp' (kk+1) c')).cell? ⟨w.heap.size,3,none⟩=some (.slice dp ed.length dc))∧(U'.setCell ⟨B,o+4,none⟩ (.slice sp' (kk+1) c')).cell? ⟨B,o,none⟩=some (.int .i64 (c.bi:Int)) by
      obtain⟨_,_,_,_,ctx,_,_,_⟩:=za FX;have hb0:=(ctx.cells o (za HO)).1.1;obtain⟨⟨k0,k1,k2,k3⟩,_⟩:=za KS;have hne:w.heap.size≠B:=by have:=(za CTL);omega
      rw[zdy _ _ hne,zdy _ _ hne,zdy _ _ hne,zdy _ _ hne]
      exact⟨⟨k0,k1,k2,k3⟩,hb0⟩)
     go_simp
     clear c4 f4;refine hK.out _ _ ?_ (fun hHeld=>?_)
     ·try dsimp only
      exact za KS
     clear hK K;refine hP ?_;refine wpAnyH_done (by kernel_rfl) ?_ _
     go_wp2_with fail
     refine bodyPost_ret (results_none rfl _ _ _) rfl ?_;exact za FX
    exact AllReadyH.nil
   exact AllReadyH.nil
  exact AllReadyH.nil
 refine AllReadyH.cons rfl (fun K hK=>?_) ?_
 ·refine zq6 rfl 19 rfl _ _ _ _ rfl ?_;intro E U hEs hEn hbw;have HE:=zaa hEn;have CT:=zaa ((za CT).later hbw);have OW:=zaa ((za OW).later hbw);have BX:=zaa ((za BX).later hbw);have XX:=zaa (zac hbw (za XX));have F:=zaa ((za F).trans (hbw.mono (za F).size));have HX:=zaa (Nat.lt_of_lt_of_le (za HX) hbw.size);have KS:=zaa (show(U.cell? ⟨w.heap.size,0,none⟩=some (.int .i64 (ek:Int))∧U.cell? ⟨w.heap.size,1,none⟩=some (.int .i64 (et:Int))∧U.cell? ⟨w.heap.size,2,none⟩=some (.int .i64 (ei:Int))∧U.cell? ⟨w.heap.size,3,none⟩=some (.slice dp ed.length dc))∧U.cell? ⟨B,o,none⟩=some (.int .i64 (c.bi:Int)) from⟨⟨zab (za XX) 0 _ rfl,zab (za XX) 1 _ rfl,zab (za XX) 2 _ rfl,zab (za XX) 3 _ rfl⟩,((za CT).cells o (za HO)).1.1⟩);clear hEs hEn hbw;refine hK.out _ _ ?_ (fun hHeld=>?_)
  ·try dsimp only
   exact za KS
  clear hK K;refine hP ?_;refine wpAnyH_ready (rs:=[4]) (by kernel_rfl) (by simp) ?_;refine AllReadyH.cons rfl (fun K hK=>?_) ?_
  ·have c4:=((za CT).cells o (za HO)).1.2.2.2.2;go_simp
   clear c4;refine hK.out _ _ ?_ (fun hHeld=>?_)
   ·try dsimp only
    exact za KS
   clear hK K;refine hP ?_;refine hT 14 ?_;refine wpAnyH_ready (rs:=[17]) (by kernel_rfl) (by simp) ?_;refine AllReadyH.cons rfl (fun K hK=>?_) ?_
   ·refine zj1 rfl (.tmp 18) (.tmp 20) rfl base ep kk ec esK hsK rfl (za HLK) (za OW) E (ek,et,ei,ed) (dp,dc) rfl (za HE) (za BX) (by rw[za HLK];omega) (Nat.le_trans (za HBS) (za F).size) ?_;intro sp' c' U' hO hg hn';have CT:=zaa ((za CT).same (hg.block B (za CT).lt (fun e=>za HB e.symm)));have XX:=zaa ((hg.block _ (za HX) (fun e=>by have:=za HEP _ e.symm;omega)).trans (za XX));have OL:=zaa hO;have FU:=zaa (show ∃ U0,Below w.heap.size w U0∧U0.grownBy U' (blk ep)∧(∀ g,blk sp'=some g→blk ep=some g∨U0.heap.size≤g) from⟨_,za F,hg,hn'⟩);have KS:=zaa (show(U'.cell? ⟨w.heap.size,0,none⟩=some (.int .i64 (ek:Int))∧U'.cell? ⟨w.heap.size,1,none⟩=some (.int .i64 (et:Int))∧U'.cell? ⟨w.heap.size,2,none⟩=some (.int .i64 (ei:Int))∧U'.cell? ⟨w.heap.size,3,none⟩=some (.slice dp ed.length dc))∧U'.cell? ⟨B,o,none⟩=some (.int .i64 (c.bi:Int)) from⟨⟨zab (za XX) 0 _ rfl,zab (za XX) 1 _ rfl,zab (za XX) 2 _ rfl,zab (za XX) 3 _ rfl⟩,((za CT).cells o (za HO)).1.1⟩);clear hO hg hn' F OW BX HE HX;refine hK.out _ _ ?_ (fun hHeld=>?_)
    ·try dsimp only
     exact za KS
    clear hK K;refine hP ?_;refine hT 18 ?_;refine hT 19 ?_;refine wpAnyH_ready (rs:=[20]) (by kernel_rfl) (by simp) ?_;refine AllReadyH.cons rfl (fun K hK=>?_) ?_
    ·have c4:=((za CT).cells o (za HO)).1.2.2.2.2;have f4:=((za CT).cells o (za HO)).2 (o+4);have FX:=zaa (za FE U' sp' c' (za FU) (za OL) (za CT))
     have KS:=zaa (show((U'.setCell ⟨B,o+4,none⟩ (.slice sp' (kk+1) c')).cell? ⟨w.heap.size,0,none⟩=some (.int .i64 (ek:Int))∧(U'.setCell ⟨B,o+4,none⟩ (.slice sp' (kk+1) c')).cell? ⟨w.heap.size,1,none⟩=some (.int .i64 (et:Int))∧(U'.setCell ⟨B,o+4,none⟩ (.slice sp' (kk+1) c')).cell? ⟨w.heap.size,2,none⟩=some (.int .i64 (ei:Int))∧(U'.setCell ⟨B,o+4,none⟩ (.slice sp' (kk+1) c')).cell? ⟨w.heap.size,3,none⟩=some (.slice dp ed.length dc))∧(U'.setCell ⟨B,o+4,none⟩ (.slice sp' (kk+1) c')).cell? ⟨B,o,none⟩=some (.int .i64 (c.bi:Int)) by
      obtain⟨_,_,_,_,ctx,_,_,_⟩:=za FX;have hb0:=(ctx.cells o (za HO)).1.1;obtain⟨⟨k0,k1,k2,k3⟩,_⟩:=za KS;have hne:w.heap.size≠B:=by have:=(za CTL);omega
      rw[zdy _ _ hne,zdy _ _ hne,zdy _ _ hne,zdy _ _ hne]
      exact⟨⟨k0,k1,k2,k3⟩,hb0⟩)
     go_simp
     clear c4 f4;refine hK.out _ _ ?_ (fun hHeld=>?_)
     ·try dsimp only
      exact za KS
     clear hK K;refine hP ?_;refine wpAnyH_done (by kernel_rfl) ?_ _
     go_wp2_with fail
     refine bodyPost_ret (results_none rfl _ _ _) rfl ?_;exact za FX
    exact AllReadyH.nil
   exact AllReadyH.nil
  exact AllReadyH.nil
 exact AllReadyH.nil
end
def zAo (R G base:Nat) (w:World) (r:Except Nat (Nat×Nat×Nat×List Nat)) (e:Ending) (w':World):Prop :=
 Kept R G w w' ∧
 match r with
 |.ok p=>e=.returned (.tuple #[])∧∃ sp m c,w'.heap[G]? = some (.cells #[.int .i64 (p.1:Int),.int .i64 (p.2.1:Int),.int .i64 (p.2.2.1:Int),.slice sp m c] 64 (0,0))∧Hid (p.2.2.2.length=m)∧OwnB base w' sp c p.2.2.2
 |.error x=>e=.panicked (given x)
theorem zr5 (R G:Nat) (x y z u:Value) (a:Option Addr) (c:Nat) (l:List Nat) (k:Nat) (w:World) (h:RdAt R w a c l k) (hl:l.length≤140737488355328) (hc:l.length≤c) (hz:a=none→c=0) (hG:w.heap[G]? = some (.cells #[x,y,z,u] 64 (0,0))) (hne:G≠R) (hbG:∀ b off,0<l.length→a=some ⟨b,off,none⟩→b≠G) :
  Calls Tryz.prog 215 #[.pointer (some ⟨R,0,none⟩),.pointer (some ⟨G,0,none⟩)] w (zAo R G w.heap.size w (za6 l (za9 l k))):=by
 have HL:=zaa hl;have HC:=zaa hc;have HZ:=zaa hz;have HR:=zaa h;have HG:=zaa hG;have HB:=zaa hbG;have Hlt:=zaa h.lt;have HGlt:=zaa (Array.getElem?_eq_some_iff.1 hG).1;clear h hl hG hbG hc hz;go_enter Tryz.func215,Tryz.ntmps215
 go_wp2_with fail
 refine(zAx R a c l k _ (za HR) (za HL) (za HC) (za HZ)).mono ?_;rintro e W1 ⟨hg1,hm1⟩;have G1:=zaa hg1;cases ht1:za9 l k with
 |error x =>
  rw[ht1] at hm1;obtain rfl:=hm1
  go_wp2
  refine⟨rfl,Kept.ofGrown (za G1),?_⟩;simp only[za6]
 |ok p =>
  obtain⟨⟨kd,t,i,d⟩,k2⟩:=p;rw[ht1] at hm1;obtain⟨⟨_,rfl,sp,m,cc,rfl,hlen,ho1⟩,hr1⟩:=hm1;have q1:=zah hg1 (za HG) hne;obtain⟨⟨c0,c1,c2,c3⟩,f0,f1,f2,f3⟩:=zaq q1;obtain⟨q6,s7⟩:=zcr (x:=.int .i64 (kd:Int)) (y:=.int .i64 (t:Int)) (z:=.int .i64 (i:Int)) (u:=.slice sp m cc) q1;have hr2:=zaa (hr1.far s7 hne (za HB));have K2:=zaa (ztf (za G1) s7);have O2:=zaa (ho1.far s7 (za HGlt));have Q6:=zaa q6;clear q1 q6 s7 hr1 hg1 G1 ho1;simp only
  go_wp2_with fail
  generalize (((W1.setCell ⟨G,0,none⟩ (.int .i64 (kd:Int))).setCell ⟨G,1,none⟩ (.int .i64 (t:Int))).setCell ⟨G,2,none⟩ (.int .i64 (i:Int))).setCell ⟨G,3,none⟩ (.slice sp m cc)=W2 at *;clear c0 c1 c2 c3 f0 f1 f2 f3;refine(zBk R a c l k2 W2 (za hr2)).mono ?_;rintro e W3 ⟨hg3,⟨hk,rfl⟩|⟨hk,rfl⟩⟩
  ·have K3:=zaa ((za K2).trans (Kept.ofGrown hg3));clear hg3
   go_wp2
   refine⟨rfl,za K3,?_⟩;simp only[za6,if_pos hk]
  ·have K3:=zaa ((za K2).trans (Kept.ofGrown hg3));have Q7:=zaa (zah hg3 (za Q6) hne);have O3:=zaa ((za O2).far hg3 (za Hlt));clear hg3
   go_wp2
   go_end0
   refine⟨za K3,?_⟩;simp only[ht1,za6,if_neg hk];exact⟨trivial,sp,m,cc,za Q7,hlen,za O3⟩
theorem zrv (c:Array Value) (w:World):(callFunc 215 c).run Tryz.prog w=.ok (.enter 215 c) w:=by
 simp[callFunc,go_sem,Tryz.func215];rw[if_neg (by decide +kernel),if_neg (fun h=>by cases h)]
def zo8 (base:Nat) (r:Except Nat (Nat×Nat×Nat×List Nat)) (w:World) (v:Value):Prop :=
 match r with
 |.ok p=>∃ sp m c,v=.tuple #[entVal (p.1:Int) (p.2.1:Int) (p.2.2.1:Int) sp m c,.int .i64 0]∧Hid (p.2.2.2.length=m)∧OwnB base w sp c p.2.2.2
 |.error x=>v=.tuple #[entVal 0 0 0 none 0 0,.int .i64 (x:Int)]
theorem zl0 (a:Option Addr) (m c:Nat) (l:List Nat) (w:World) (hm:l.length=m) (hl:l.length≤140737488355328) (hc:l.length≤c) (hz:a=none→c=0) (hb:BytesAt w a l) :
  Calls Tryz.prog 192 #[.slice a m c] w fun e w'=>(∃ v,e=.returned v∧zo8 w.heap.size (za6 l (za9 l 0)) w' v)∧Below w.heap.size w w':=by
 subst hm;have HB:=zaa hb;have HL:=zaa hl;have HC:=zaa hc;have HZ:=zaa hz;clear hb hl hc hz;have hmf:∀ (fn:Fn) (first cap:Array Value) (w:World),(Instr.makeFunc fn first cap).run Tryz.prog w=.ok (.func fn first cap) w:=fun _ _ _ _=>rfl;go_enter Tryz.func192,Tryz.ntmps192
 go_wp2_with fail
 have h0:=zad w (.cells #[.int .i64 0,.int .i64 0,.int .i64 0,.slice none 0 0] 64);have h1:=zad (w.alloc (.cells #[.int .i64 0,.int .i64 0,.int .i64 0,.slice none 0 0] 64)) (.cells #[.int .i64 0,.int .i64 0,.int .i64 0,.slice none 0 0] 64);have h2:=zad ((w.alloc (.cells #[.int .i64 0,.int .i64 0,.int .i64 0,.slice none 0 0] 64)).alloc (.cells #[.int .i64 0,.int .i64 0,.int .i64 0,.slice none 0 0] 64)) (.cells #[.slice a l.length c,.int .i64 0] 239);have k0:=zbp (.cells #[.slice a l.length c,.int .i64 0] 239) (zbp (.cells #[.int .i64 0,.int .i64 0,.int .i64 0,.slice none 0 0] 64) h0);have k1:=zbp (.cells #[.slice a l.length c,.int .i64 0] 239) h1;rw[size_alloc] at k1;rw[size_alloc,size_alloc] at h2;have hbl:Below w.heap.size w (((w.alloc (.cells #[.int .i64 0,.int .i64 0,.int .i64 0,.slice none 0 0] 64)).alloc (.cells #[.int .i64 0,.int .i64 0,.int .i64 0,.slice none 0 0] 64)).alloc (.cells #[.slice a l.length c,.int .i64 0] 239)) :=
  (((Below.refl _ _).alloc (Nat.le_refl _) _).alloc (by rw[size_alloc];omega) _).alloc (by rw[size_alloc,size_alloc];omega) _
 have hsz:(((w.alloc (.cells #[.int .i64 0,.int .i64 0,.int .i64 0,.slice none 0 0] 64)).alloc (.cells #[.int .i64 0,.int .i64 0,.int .i64 0,.slice none 0 0] 64)).alloc (.cells #[.slice a l.length c,.int .i64 0] 239)).heap.size=w.heap.size+3:=by rw[size_alloc,size_alloc,size_alloc]
 generalize ((w.alloc (.cells #[.int .i64 0,.int .i64 0,.int .i64 0,.slice none 0 0] 64)).alloc (.cells #[.int .i64 0,.int .i64 0,.int .i64 0,.slice none 0 0] 64)).alloc (.cells #[.slice a l.length c,.int .i64 0] 239)=W at *;clear h0 h1;have hbl2:Below w.heap.size w (W.alloc (.cells #[.int .i64 0] 48)):=hbl.alloc hbl.size _;have hE:=zad W (.cells #[.int .i64 0] 48);have hr:RdAt (w.heap.size+1+1) (W.alloc (.cells #[.int .i64 0] 48)) a c l 0:=ztr (za HB) hbl2 (by omega) (zbp _ h2) (Nat.zero_le _);have hG:=zbp (.cells #[.int .i64 0] 48) k1;have hres:=zbp (.cells #[.int .i64 0] 48) k0;refine(zff 215 _ W zrv _ (zr5 (w.heap.size+1+1) (w.heap.size+1) _ _ _ _ a c l 0 _ hr (za HL) (za HC) (za HZ) hG (by omega) (fun b off h0 e=>by have:=zfe (za HB) h0 b off e;omega)) ?_ ?_).mono ?_
 ·rintro e w1 ⟨hk1,_⟩;exact(hk1.block _ (by rw[size_alloc];omega) (by omega) (by omega)).trans hE
 ·rintro e w1 ⟨_,hm1⟩;cases ht:za6 l (za9 l 0) with
  |error x=>rw[ht] at hm1;exact .inr ⟨x,hm1⟩
  |ok p=>rw[ht] at hm1;exact .inl hm1.1
 ·rintro e w2 ⟨e1,w1,⟨hk1,hm1⟩,hg,he⟩;have HF:=zaa ((hbl2.trans (hk1.below (by rw[size_alloc];omega) (by omega) (by omega))).trans ((Below.refl w.heap.size w1).grown hg (by have:=hk1.size;rw[size_alloc] at this;omega) (fun j e=>by have:=Option.some.inj e;omega)));have r2:=zah hg ((hk1.block _ (by rw[size_alloc];omega) (by omega) (by omega)).trans hres) (by omega);obtain⟨⟨p0,p1,p2,p3⟩,f0,f1,f2,f3⟩:=zaq r2;have HR2:=zaa r2;have hs4:=zaa (show(W.alloc (.cells #[.int .i64 0] 48)).heap.size=w.heap.size+4 by rw[size_alloc];omega);clear r2 hE hr hres hbl2 hbl h2 k0 k1 hG;cases ht:za6 l (za9 l 0) with
  |error x =>
   rw[ht] at hm1;obtain rfl:=hm1;obtain⟨y,hy,rfl⟩:=he.resolve_left (fun h=>by cases h.1);obtain rfl:=zpy hy;have hx0:¬ (x:Int)=0:=by have:=zez ht (fun y hy=>zhj hy);omega
   clear hy he hk1 hg
   go_wp2_with fail
   obtain⟨q6,s7⟩:=zcr (x:=.int .i64 0) (y:=.int .i64 0) (z:=.int .i64 0) (u:=.slice none 0 0) (za HR2);obtain⟨⟨z0,z1,z2,z3⟩,_⟩:=zaq q6;refine bodyPost_ret (v:=.tuple #[entVal 0 0 0 none 0 0,.int .i64 (x:Int)]) (by simp[results,Tryz.results192,go_sem,z0,z1,z2,z3]) rfl ?_;refine⟨⟨_,rfl,?_⟩,(za HF).grown s7 (za HF).size (fun j e=>Nat.le_of_eq (Option.some.inj e))⟩;rw[ht];exact rfl
  |ok p =>
   rw[ht] at hm1;obtain⟨rfl,sp,m,cc,hgot,hlen,ho⟩:=hm1;obtain⟨_,rfl⟩:=he.resolve_right (fun ⟨_,h,_⟩=>by cases h);obtain⟨⟨g0,g1,g2,g3⟩,_⟩:=zaq (zah hg hgot (by omega));have O2:=zaa (ho.far hg (by rw[size_alloc];omega));clear he hk1 hg hgot ho
   go_wp2_with fail
   obtain⟨q6,s7⟩:=zcr (x:=.int .i64 (p.1:Int)) (y:=.int .i64 (p.2.1:Int)) (z:=.int .i64 (p.2.2.1:Int)) (u:=.slice sp m cc) (za HR2);obtain⟨⟨z0,z1,z2,z3⟩,_⟩:=zaq q6;refine bodyPost_ret (v:=.tuple #[entVal (p.1:Int) (p.2.1:Int) (p.2.2.1:Int) sp m cc,.int .i64 0]) (by simp[results,Tryz.results192,go_sem,z0,z1,z2,z3]) rfl ?_;refine⟨⟨_,rfl,?_⟩,(za HF).grown s7 (za HF).size (fun j e=>Nat.le_of_eq (Option.some.inj e))⟩;rw[ht];exact⟨sp,m,cc,rfl,hlen,((za O2).far s7 (by have:=za hs4;omega)).mono (by have:=za hs4;omega)⟩
def zjh (c:Wc) (l:List Nat):Option Wc:=match zbh l 0 with
 |.error _=>none
 |.ok (i,k)=>match zbh l k with
  |.error _=>none
  |.ok (t,k2)=>if k2<l.length then none else some ⟨i,t,c.ht,c.hv,[]⟩
def zje (c:Wc) (l:List Nat):Option Wc:=match za6 l (zd9 l 0) with
 |.error _=>none
 |.ok (t,v)=>some ⟨c.bi,c.bt,t,v,c.es⟩
def zuq (c:Wc) (l:List Nat):Option Wc:=match za6 l (za9 l 0) with
 |.error _=>none
 |.ok e=>if zde c (e.2.2.1:Int)=true then some (zfb c e) else none
def zcz (c:Wc):List Nat→Option Wc
 |[]=>none
 |k::b=>if k=1 then zjh c b else if k=2 then zje c b else if k=3 then zuq c b else none
def zfs (base:Nat) (w:World) (B:Nat) (T:TypeId) (p q:List Value) (ep:Option Addr) (hs:List (Option Addr×Nat)) (r:Option Wc) (e:Ending) (w':World):Prop :=
 Grew2 B (blk ep) w w'∧(match r with
  |none=>e=.returned (.bool false)
  |some c'=>e=.returned (.bool true)∧∃ ep' ec' hs',CtAt w' B T p q c' ep' ec'∧OwnL base w' ep' ec' c'.es hs'∧∀ g,zc6 ep' hs' g→zc6 ep hs g∨w.heap.size≤g)
section
variable {w:World} {B:Nat} {T:TypeId} {p q:List Value} {c:Wc} {ep:Option Addr} {ec:Nat} {base:Nat} {hs:List (Option Addr×Nat)}
theorem zeq {w':World} (h:Below w.heap.size w w'):zfs base w B T p q ep hs none (.returned (.bool false)) w':=⟨Grew2.ofBelow h,rfl⟩
theorem zl9 (h:CtAt w B T p q c ep ec) (o:Nat) (ho:p.length=o) (a:Option Addr) (n k:Nat) (l:List Nat) (hn:l.length=n) (hm:n≤140737488355328) (hb:BytesAt w a l) :
  Calls Tryz.prog 158 #[.pointer (some ⟨B,o,none⟩),.slice a n k] w (zfs base w B T p q ep hs (zjh c l)):=by
 have MR:=zaa (show zjh c l=(match zbh l 0 with
  |.error _=>none
  |.ok (i,k)=>match zbh l k with
   |.error _=>none
   |.ok (t,k2)=>if k2<l.length then none else some ⟨i,t,c.ht,c.hv,[]⟩) from rfl)
 have HN:=zaa hn;have HB:=zaa hb;have HC:=zaa h;have HL:=zaa hb.lt;have HO:=zaa ho;have hml:n≤maxLen:=by simp only[maxLen];omega
 cases h1:zbh l 0 with
 |error x =>
  rw[h1] at MR;dsimp only at MR;rw[za MR];have T1:=zaa (zlq a n k l 0 x w hn hml (by omega) hb h1);have hx:=zc h1;have hx0:¬ (x:Int)=0:=by omega
  have hx1:((x:Int)==0)=false:=by simp;omega
  clear hb h hn ho h1;go_enter Tryz.func158,Tryz.ntmps158
  go_wp2_with fail
  go_at_call 190
  refine(za T1).mono ?_;rintro e V1 ⟨rfl,v1⟩;have FE:=zaa (zeq (base:=base) (B:=B) (T:=T) (p:=p) (q:=q) (ep:=ep) (hs:=hs) v1);clear v1
  go_wp2
  go_ret
  exact za FE
 |ok r =>
  obtain⟨i,k1⟩:=r;rw[h1] at MR;dsimp only at MR;obtain⟨hk1,hi⟩:=zeu h1 hb.lt;have T1:=zaa (znh a n k l 0 i k1 w hn hml (by omega) hb h1);cases h2:zbh l k1 with
  |error x =>
   rw[h2] at MR;dsimp only at MR;rw[za MR];have T2:=zaa (fun W (b:Below w.heap.size w W)=>zlq a n k l k1 x W hn hml hk1 (hb.later b) h2);have hx:=zc h2;have hx0:¬ (x:Int)=0:=by omega
   have hx1:((x:Int)==0)=false:=by simp;omega
   clear hb h hn ho h1 h2;go_enter Tryz.func158,Tryz.ntmps158
   go_wp2_with fail
   go_at_call 190
   refine(za T1).mono ?_;rintro e V1 ⟨rfl,v1⟩;have B1:=zaa v1;clear v1
   go_wp2_with fail
   go_at_call 190
   refine(za T2 _ (za B1)).mono ?_;rintro e V2 ⟨rfl,v2⟩;have FE:=zaa (zeq (base:=base) (B:=B) (T:=T) (p:=p) (q:=q) (ep:=ep) (hs:=hs) ((za B1).trans (v2.mono (za B1).size)));clear v2
   go_wp2
   go_ret
   exact za FE
  |ok r2 =>
   obtain⟨t,k2⟩:=r2;rw[h2] at MR;dsimp only at MR;obtain⟨hk2,ht⟩:=zeu h2 hb.lt;have T2:=zaa (fun W (b:Below w.heap.size w W)=>znh a n k l k1 t k2 W hn hml hk1 (hb.later b) h2);by_cases h3:k2<l.length
   ·rw[if_pos h3] at MR;rw[za MR];have h3':(k2:Int)<(n:Int):=by omega
    clear hb h hn ho h1 h2 h3;go_enter Tryz.func158,Tryz.ntmps158
    go_wp2_with fail
    go_at_call 190
    refine(za T1).mono ?_;rintro e V1 ⟨rfl,v1⟩;have B1:=zaa v1;clear v1
    go_wp2_with fail
    go_at_call 190
    refine(za T2 _ (za B1)).mono ?_;rintro e V2 ⟨rfl,v2⟩;have FE:=zaa (zeq (base:=base) (B:=B) (T:=T) (p:=p) (q:=q) (ep:=ep) (hs:=hs) ((za B1).trans (v2.mono (za B1).size)));clear v2
    go_wp2
    go_ret
    exact za FE
   ·rw[if_neg h3] at MR;rw[za MR];have h3':¬ (k2:Int)<(n:Int):=by omega
    clear hb h hn ho h1 h2 h3;go_enter Tryz.func158,Tryz.ntmps158
    go_wp2_with fail
    go_at_call 190
    refine(za T1).mono ?_;rintro e V1 ⟨rfl,v1⟩;have B1:=zaa v1;clear v1
    go_wp2_with fail
    go_at_call 190
    refine(za T2 _ (za B1)).mono ?_;rintro e V2 ⟨rfl,v2⟩;have B2:=zaa ((za B1).trans (v2.mono (za B1).size));have CT:=zaa ((za HC).later (za B2));clear v2;obtain⟨⟨c0,c1,c2,c3,c4⟩,fz⟩:=(za CT).cells o (za HO);have f0:=fz o;have f1:=fz (o+1);have f4:=fz (o+4);have S1:=(za CT).set o 0 (za HO) ⟨i,c.bt,c.ht,c.hv,c.es⟩ ep ec (.int .i64 (i:Int)) rfl (by omega);have S2:=S1.set o 1 (za HO) ⟨i,t,c.ht,c.hv,c.es⟩ ep ec (.int .i64 (t:Int)) rfl (by omega);have S3:=S2.set o 4 (za HO) ⟨i,t,c.ht,c.hv,[]⟩ none 0 (.slice none 0 0) rfl (by omega)
    have FE:=zaa (show zfs base w B T p q ep hs (some ⟨i,t,c.ht,c.hv,[]⟩) (.returned (.bool true)) (((V2.setCell ⟨B,o+0,none⟩ (.int .i64 (i:Int))).setCell ⟨B,o+1,none⟩ (.int .i64 (t:Int))).setCell ⟨B,o+4,none⟩ (.slice none 0 0)) from by
     refine⟨⟨(za B2).os,(za B2).tape,(za B2).output,by have:=(za B2).size;simp[World.setCell];omega,fun j h1 h2 _=>?_⟩,rfl,none,0,[],S3,OwnL.ofNil _ _,fun g hg=>?_⟩
     ·exact(heap_setCell_other _ ⟨B,o+4,none⟩ j _ h2).trans ((heap_setCell_other _ ⟨B,o+1,none⟩ j _ h2).trans ((heap_setCell_other _ ⟨B,o+0,none⟩ j _ h2).trans ((za B2).block j h1)))
     ·rcases hg with hg|⟨x,hx,_⟩
      ·cases hg
      ·simp at hx)
    rw[Nat.add_zero] at FE;clear S1 S2 S3 fz
    go_wp2
    go_ret
    exact za FE
end
end
end Go.Proofs.YtofllbpfajppeaaGreatDoor
