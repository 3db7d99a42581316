/- Conf: the library's variable, as a tied row lays it. -/
import Derived.Test.YtjcjleaicjhpeaaGreatDoorB22
import Derived.Test.YtjcjleaicjhpeaaGreatDoorRows
import Derived.HandedShaped
import Derived.Handed
import Derived.MakeChecks
import Derived.Deep.Slices
import Derived.Test.YtjcjleaicjhpeaaGreatDoorB20
set_option linter.unusedVariables false
set_option maxRecDepth 20000
set_option maxHeartbeats 16000000
namespace Go.Proofs.YtjcjleaicjhpeaaGreatDoor
section
open Go.ChangeShapes Go.WideShapes Go.ChangeAt Go.RowKit Go.Lib
def Lz (w:World):Prop:=Mx w
theorem ztu {W:World} (hL:laidMet Tryz.prog [("unicode/utf8.acceptRanges",Rows.laid_unicode_utf8_acceptRanges),("unicode/utf8.first",Rows.laid_unicode_utf8_first)] W) (hsh:W.ShapedOpen Tryz.prog):Lz W:=Tryz.laysM146.s1_3 W hsh
theorem zmd {H:Type} {enc:TypeId×Value→H} {a:Assume} {C:Checked} {os:Os} {f:FuncId} {fn:Func} {s:ChangeSpec} {conds:List PathCond} {apart fresh handsOn again:Bool} {X:World→Array Value→Prop}
  (hX:∀ (w w':World) (args:Array Value),w.heap=w'.heap→X w args→X w' args)
  (own:ownKnob C.prog.godebug=none) (started:os.Started) (noInit:C.prog.inits.idxOf? f=none) (hfn:C.prog.funcs[f]? = some fn)
  (witness:∃ (w:World) (tape:Tape) (i:Input),w.os=os∧(w.forCall tape i).Shaped C.prog∧i.vars=[]∧Input.okWide C.prog (w.forCall tape i) .any w.heap.size f i ∧
   ((s.pre enc C.prog fn conds apart (w.forCall tape i).memory i.args∧X (w.forCall tape i).memory i.args)∧sizedMet enc C.prog fn (OpenSpec.ofChange s) apart (w.forCall tape i).memory i.args)∧a.holds C.prog (lone (Frame.enter C.prog f i.args .normal) [] (w.forCall tape i)))
  (contract:∀ (W:World) (base:Nat) (args:Array Value) (ds gs:List (DataW H)) (before:List MemPlace),
   (∀ (j:Nat) t v,fn.params[j]? = some t→args[j]? = some v→Value.okWide C.prog W .any base t v) →
   DataW.Whole enc C.prog fn.params.toList s.vars apart W args.toList ds gs before →
   conds.all (PathCond.test C.prog ⟨fn.params.toList,ds,s.plain.varTypes C.prog,gs⟩)=true →
   (DataW.weightsEach C.prog (fn.params.toList++s.plain.varTypes C.prog) (ds++gs)).all (·≤reachBytes)=true→X W args→W.ShapedOpen C.prog →
   a.holds C.prog (lone (Frame.enter C.prog f args .normal) [] W) →
   Calls C.prog f args W fun e W'=>∃ v,e=.returned v∧s.post enc C.prog fn apart fresh handsOn again W args v W') :
  ReturnsInHanded a C os f .any (fun w args=>(s.pre enc C.prog fn conds apart w args∧X w args)∧sizedMet enc C.prog fn (OpenSpec.ofChange s) apart w args) (s.post enc C.prog fn apart fresh handsOn again):=by
 refine returnsInHanded_of_calls own started noInit witness ?_;intro w tape i _ hsh _ hok hpre hholds;obtain⟨_,_,_,gn,hgn,_,_,_,_,hval⟩:=hok;obtain rfl:gn=fn:=Option.some.inj (hgn.symm.trans hfn);obtain⟨⟨⟨ds,gs,before,hw,hc⟩,hx⟩,hz⟩:=hpre;refine(contract (w.forCall tape i) w.heap.size i.args ds gs before hval (DataW.Whole.of_heap (w':=w.forCall tape i) (by rfl) hw) hc (hz.weights hw) (hX _ _ _ (by rfl) hx) hsh hholds).mono fun e W' h=>?_;obtain⟨v,rfl,hp⟩:=h;exact ChangeSpec.post_blind hp
end
section
open Go.ChangeShapes Go.WideShapes Go.ChangeAt Go.RowKit
theorem zf {H:Type} {P:Program} {e:TypeId} : ∀ {l:List (DataW H)} {d:DataW H} {n:Nat},d∈l→n∈d.weights P e→n∈DataW.weightsAll P e l
 |[],d,n,h,_=>by cases h
 |x::r,d,n,h,hn=>by
  unfold DataW.weightsAll;rcases List.mem_cons.1 h with rfl|h
  ·exact List.mem_append_left _ hn
  ·exact List.mem_append_right _ (zf h hn)
theorem zn0 {s:ByteArray} (h:s.data.toList.length≤reachBytes):s.size≤140737488355328:=by
 have hr:=reachBytes_lt;have e0:s.data.toList.length=s.size:=by simp
 omega
theorem zlo {H:Type} {enc:TypeId×Value→H} {W:World} {a:Option Addr} {len cap:Nat} {d:DataW H} {p:List MemPlace}
  (h:DataW.Trod enc Tryz.prog W 0 (fun _=>true) true 31 (.slice a len cap) d p) (hw:∀ n∈d.weights Tryz.prog 31,n≤reachBytes) :
  ∃ es:List Tgt,es.length=len∧(len≤maxLen∧len≤cap)∧TgsAt W a es∧∀ t∈es,t.1.size≤140737488355328:=by
 obtain⟨fuel,hf⟩:=h;have c6:Tryz.prog.cellsOf 70=2:=by kernel_rfl
 rcases Deep.open_slice Tryz.underlying31 hf with⟨hcs,_⟩|⟨x,l,c,m,n,D,Pl,hcs,_,hl,hm,hm',hd,hel⟩
 ·simp[Value.cells] at hcs;obtain⟨rfl,rfl,rfl⟩:=hcs;exact⟨[],rfl,⟨by simp[maxLen],Nat.le_refl _⟩,⟨by simp,by simp⟩,by simp⟩
 ·simp[Value.cells] at hcs;obtain⟨rfl,rfl,rfl⟩:=hcs;have hmm:m=cap:=by simpa using hm'
  have hdd:=(Prod.mk.inj hd).1;rw[c6] at hel;have hone:∀ i,i<len→∃ (e:Tgt),W.cell? ((x.add (i*2)).add 0)=some (.string e.1)∧W.cell? ((x.add (i*2)).add 1)=some (.float .f64 e.2)∧e.2<18446744073709551616∧e.1.size≤140737488355328:=by
   intro i hi;obtain⟨cs',h1,h2⟩:=hel i (by omega);obtain⟨v0,v1,rfl,g0,g1⟩:=zs8 h1;obtain⟨xs,n',_,ey,_,hx,hfs⟩:=DataW.trod_struct Tryz.underlying70 h2;obtain⟨y0,y1,rfl⟩:=list2 (show xs.length=2 from hx);obtain⟨s,e0,f0,w0⟩:=DataW.trod_string Tryz.underlying9 (show DataW.trod enc Tryz.prog W 0 (fun _=>true) true n' 9 [v0]=some y0 from hfs 0 _ rfl);obtain⟨b,rfl,hb⟩:=zm7 (show DataW.trod enc Tryz.prog W 0 (fun _=>true) true n' 68 [v1]=some y1 from hfs 1 _ rfl);simp only[List.cons.injEq,and_true] at e0;subst e0;have hmem:D i∈(List.range len).map D:=List.mem_map.2 ⟨i,List.mem_range.2 hi,rfl⟩
   have h4:=hw s.data.toList.length (by
    rw[hdd];unfold DataW.weights;rw[Tryz.underlying31];refine List.mem_cons_of_mem _ (List.mem_append_left _ (zf hmem ?_));rw[show D i=_ from(Prod.mk.inj ey).1,f0]
    simp[DataW.weights,DataW.weightsEach,Tryz.underlying70])
   exact⟨(s,b),g0,g1,hb,zn0 h4⟩
  obtain⟨f,hfp⟩:=Deep.choose_lt (n:=len) (p:=fun i (e:Tgt)=>W.cell? ((x.add (i*2)).add 0)=some (.string e.1)∧W.cell? ((x.add (i*2)).add 1)=some (.float .f64 e.2)∧e.2<18446744073709551616∧e.1.size≤140737488355328) (fun i hi=>hone i hi);refine⟨(List.range len).map f,by simp,⟨by omega,by omega⟩,⟨fun t ht=>?_,fun i hi=>?_⟩,fun t ht=>?_⟩
  ·obtain⟨i,hi,rfl⟩:=List.mem_map.1 ht;exact(hfp i (by simpa using hi)).2.2.1
  ·simp only[List.length_map,List.length_range] at hi;obtain⟨h0,h1,_⟩:=hfp i hi;have e:((List.range len).map f)[i]'(by simpa using hi)=f i:=by simp
   rw[e];obtain⟨b,off,spot⟩:=x;obtain⟨h00,_⟩:=hfp 0 (by omega);have hspot:spot=none:=by simpa [Addr.add] using World.cell?_spot h00
   subst hspot;simp only[Addr.add_lit] at h0 h1;exact⟨b,off,rfl,h0,h1⟩
  ·obtain⟨i,hi,rfl⟩:=List.mem_map.1 ht;exact(hfp i (by simpa using hi)).2.2.2
theorem zpn {H:Type} {enc:TypeId×Value→H} {W:World} {n:Nat} {v0 v1 v2 v3 v4 v5 v6 v7:Value} {y:DataW H×List MemPlace}
  (h2:DataW.trod enc Tryz.prog W 0 (fun _=>true) true n 33 [v0,v1,v2,v3,v4,v5,v6,v7]=some y) (hw:∀ n∈y.1.weights Tryz.prog 33,n≤reachBytes) :
  ∃ (c:Cmd) (a:Option Addr) (tc:Nat),#[v0,v1,v2,v3,v4,v5,v6,v7]=zal c a tc∧CmdAt W c a tc:=by
 obtain⟨xs,n',_,ey,_,hx,hfs⟩:=DataW.trod_struct Tryz.underlying33 h2;obtain⟨y0,y1,y2,y3,y4,y5,y6,y7,rfl⟩:=ztr (show xs.length=8 from hx);obtain⟨k0,e0,d0,w0⟩:=DataW.trod_int Tryz.underlying30 (show DataW.trod enc Tryz.prog W 0 (fun _=>true) true n' 30 [v0]=some y0 from hfs 0 _ rfl);obtain⟨k1,e1,d1,w1⟩:=DataW.trod_int Tryz.underlying3 (show DataW.trod enc Tryz.prog W 0 (fun _=>true) true n' 3 [v1]=some y1 from hfs 1 _ rfl);obtain⟨k2,e2,d2,w2⟩:=DataW.trod_int Tryz.underlying3 (show DataW.trod enc Tryz.prog W 0 (fun _=>true) true n' 3 [v2]=some y2 from hfs 2 _ rfl);obtain⟨k3,e3,d3,w3⟩:=DataW.trod_int Tryz.underlying3 (show DataW.trod enc Tryz.prog W 0 (fun _=>true) true n' 3 [v3]=some y3 from hfs 3 _ rfl);obtain⟨k4,e4,d4,_⟩:=DataW.trod_string Tryz.underlying9 (show DataW.trod enc Tryz.prog W 0 (fun _=>true) true n' 9 [v4]=some y4 from hfs 4 _ rfl);obtain⟨k5,e5,d5,_⟩:=DataW.trod_string Tryz.underlying9 (show DataW.trod enc Tryz.prog W 0 (fun _=>true) true n' 9 [v5]=some y5 from hfs 5 _ rfl);obtain⟨k6,e6,d6,_⟩:=DataW.trod_string Tryz.underlying9 (show DataW.trod enc Tryz.prog W 0 (fun _=>true) true n' 9 [v6]=some y6 from hfs 6 _ rfl);have t7:DataW.trod enc Tryz.prog W 0 (fun _=>true) true n' 31 [v7]=some y7:=hfs 7 _ rfl;obtain⟨a',l',c',e7⟩:=Joins.slice_form Tryz.underlying31 t7;simp only[List.cons.injEq,and_true] at e0 e1 e2 e3 e4 e5 e6 e7;subst e0 e1 e2 e3 e4 e5 e6 e7;have m4:k4.size≤140737488355328:=zn0 (hw _ (by rw[show y.1=_ from congrArg Prod.fst ey,d4];simp[DataW.weights,DataW.weightsEach,Tryz.underlying33]))
 have m5:k5.size≤140737488355328:=zn0 (hw _ (by rw[show y.1=_ from congrArg Prod.fst ey,d5];simp[DataW.weights,DataW.weightsEach,Tryz.underlying33]));have m6:k6.size≤140737488355328:=zn0 (hw _ (by rw[show y.1=_ from congrArg Prod.fst ey,d6];simp[DataW.weights,DataW.weightsEach,Tryz.underlying33]));have hw7:∀ n∈y7.1.weights Tryz.prog 31,n≤reachBytes:=fun n hn=>hw n (by rw[show y.1=_ from congrArg Prod.fst ey];simp[DataW.weights,DataW.weightsEach,Tryz.underlying33,hn]);have hs:DataW.Trod enc Tryz.prog W 0 (fun _=>true) true 31 (.slice a' l' c') y7.1 y7.2:=⟨n',t7⟩
 obtain⟨ts,rfl,hl,hT,hz⟩:=zlo hs hw7;exact⟨⟨k0,k1,k2,k3,k4,k5,k6,ts⟩,a',c',rfl,hT,hz,m4,m5,m6,hl,zo1 Tryz.underlying31 hs,zfe w0,zfe w1,zfe w2,zfe w3⟩
abbrev CmdQ:=Cmd×(Option Addr×Nat)
structure CmdsAt (w:World) (a:Option Addr) (l:List CmdQ):Prop where
 cell:∀ i (hi:i<l.length),∃ b off,a=some ⟨b,off,none⟩∧(∀ k,k<8→w.cell? ⟨b,off+i*8+k,none⟩=(zal l[i].1 l[i].2.1 l[i].2.2)[k]?)
 at_:∀ q∈l,CmdAt w q.1 q.2.1 q.2.2
theorem zsf {w:World} {a:Addr} {cs:List Value} (h:w.cells? 0 a 8=some cs):∃ v0 v1 v2 v3 v4 v5 v6 v7,cs=[v0,v1,v2,v3,v4,v5,v6,v7]∧∀ k,k<8→w.cell? (a.add k)=(#[v0,v1,v2,v3,v4,v5,v6,v7]:Array Value)[k]?:=by
 obtain⟨_,hlen,hc⟩:=World.cells?_some h
 match cs,hlen with
 |[v0,v1,v2,v3,v4,v5,v6,v7],_ =>
  refine⟨v0,v1,v2,v3,v4,v5,v6,v7,rfl,fun k hk=>?_⟩;have:=hc k hk;rw[this];simp
theorem zne {H:Type} {enc:TypeId×Value→H} {W:World} {a:Option Addr} {len cap:Nat} {d:DataW H} {p:List MemPlace}
  (h:DataW.Trod enc Tryz.prog W 0 (fun _=>true) true 22 (.slice a len cap) d p) (hw:∀ n∈d.weights Tryz.prog 22,n≤reachBytes) :
  ∃ es:List CmdQ,es.length=len∧len≤maxLen∧CmdsAt W a es:=by
 obtain⟨fuel,hf⟩:=h;have c6:Tryz.prog.cellsOf 33=8:=by kernel_rfl
 rcases Deep.open_slice Tryz.underlying22 hf with⟨hcs,_⟩|⟨x,l,c,m,n,D,Pl,hcs,_,hl,hm,hm',hd,hel⟩
 ·simp[Value.cells] at hcs;obtain⟨rfl,rfl,rfl⟩:=hcs;exact⟨[],rfl,by simp[maxLen],⟨by simp,by simp⟩⟩
 ·simp[Value.cells] at hcs;obtain⟨rfl,rfl,rfl⟩:=hcs;have hmm:m=cap:=by simpa using hm'
  have hdd:=(Prod.mk.inj hd).1;rw[c6] at hel
  haveI:Inhabited CmdQ:=⟨(⟨0,0,0,0,⟨#[]⟩,⟨#[]⟩,⟨#[]⟩,[]⟩,(none,0))⟩
  obtain⟨f,hfp⟩:=Deep.choose_lt (n:=len) (p:=fun i (e:CmdQ)=>(∀ k,k<8→W.cell? ((x.add (i*8)).add k)=(zal e.1 e.2.1 e.2.2)[k]?)∧CmdAt W e.1 e.2.1 e.2.2) (fun i hi=>by
   obtain⟨cs',h1,h2⟩:=hel i (by omega);obtain⟨v0,v1,v2,v3,v4,v5,v6,v7,rfl,hk⟩:=zsf h1;have hmem:D i∈(List.range len).map D:=List.mem_map.2 ⟨i,List.mem_range.2 hi,rfl⟩
   obtain⟨c,a',tc,e,hc⟩:=zpn h2 (fun n hn=>hw n (by
    rw[hdd];unfold DataW.weights;rw[Tryz.underlying22]
    exact List.mem_cons_of_mem _ (List.mem_append_left _ (zf hmem hn))))
   exact⟨(c,(a',tc)),fun k h8=>by rw[hk k h8,e],hc⟩)
  refine⟨(List.range len).map f,by simp,by omega,⟨fun i hi=>?_,fun q hq=>?_⟩⟩
  ·simp only[List.length_map,List.length_range] at hi;obtain⟨h0,_⟩:=hfp i hi;have e:((List.range len).map f)[i]'(by simpa using hi)=f i:=by simp
   rw[e];obtain⟨b,off,spot⟩:=x;obtain⟨h00,_⟩:=hfp 0 (by omega);have hspot:spot=none:=by
    have h000:=h00 0 (by omega);rw[show(zal (f 0).1 (f 0).2.1 (f 0).2.2)[0]? = some (.int .i64 (f 0).1.act) from rfl] at h000
    simpa [Addr.add] using World.cell?_spot h000
   subst hspot;refine⟨b,off,rfl,fun k hk=>?_⟩;have:=h0 k hk;simp only[Addr.add_lit] at this;exact this
  ·obtain⟨i,hi,rfl⟩:=List.mem_map.1 hq;exact(hfp i (by simpa using hi)).2
structure Smi (j:Nat) (x:Sm):Prop where
 pn:x.ps.length≤j
 rn:x.rs.length≤j
 cn:x.cl.length≤j
 vr:0≤x.ver∧x.ver≤j
 rs:∀ r∈x.rs,r.h.size≤128∧r.p.size≤128∧r.l.size≤128
 ps:∀ p∈x.ps,p.po.nm.size≤128∧p.po.ts.length≤16∧∀ t∈p.po.ts,t.1.size≤128
theorem smi0:Smi 0 sm0:=⟨by simp[sm0],by simp[sm0],by simp[sm0],by simp[sm0],by simp[sm0],by simp[sm0]⟩
theorem Smi.ok {j:Nat} {x:Sm} (h:Smi j x) (hj:j≤900):SmOk x:=by
 have hv:=h.vr;refine⟨⟨?_,?_,?_,?_⟩,by omega,by have:=h.cn;omega⟩
 ·have:=h.rn;show x.rs.length≤1000;omega
 ·have:=h.pn;show(x.ps.map Pq.po).length≤1000;rw[List.length_map];omega
 ·intro r hr;obtain⟨h1,h2,h3⟩:=h.rs r hr;omega
 ·intro p hp;obtain⟨q,hq,rfl⟩:=List.mem_map.1 hp;obtain⟨h1,h2,h3⟩:=h.ps q hq;exact⟨by omega,by omega,fun t ht=>Nat.le_trans (h3 t ht) (by omega)⟩
theorem Smi.mono {i j:Nat} {x:Sm} (h:Smi i x) (hij:i≤j):Smi j x :=
 ⟨by have:=h.pn;omega,by have:=h.rn;omega,by have:=h.cn;omega,by have:=h.vr;omega,h.rs,h.ps⟩
theorem znr (q:Pq) (x:Sm):zce q x=(6,x)∨zce q x=(0,{ x with ps:=zbn qnm q x.ps }):=by
 unfold zce
 repeat' split
 all_goals first|exact .inl rfl|exact .inr rfl
theorem zns (r:Rt) (x:Sm):(∃ e,e≠0∧zbt r x=(e,x))∨zbt r x=(0,{ x with rs:=zbn rpl r x.rs }):=by
 unfold zbt
 repeat' split
 all_goals first|exact .inl ⟨8,by decide,rfl⟩|exact .inl ⟨6,by decide,rfl⟩|exact .inr rfl
theorem zks (nm:ByteArray) (x:Sm):(∃ e,e≠0∧zbc nm x=(e,x))∨zbc nm x=(0,{ x with ps:=zdw qnm nm x.ps }):=by
 unfold zbc
 repeat' split
 all_goals first|exact .inl ⟨8,by decide,rfl⟩|exact .inl ⟨13,by decide,rfl⟩|exact .inr rfl
theorem zkt (p:Pl) (x:Sm):(∃ e,e≠0∧zbi p x=(e,x))∨zbi p x=(0,{ x with rs:=zdw rpl p x.rs }):=by
 unfold zbi;split
 ·exact .inl ⟨8,by decide,rfl⟩
 ·exact .inr rfl
theorem zn8 {c:Cmd} (h:zam c=0):(c.host.size≤128∧c.pre.size≤128∧c.pool.size≤128)∧∀ t∈c.ts,t.1.size≤128:=by
 obtain⟨h1,h2,h3,h4,h5⟩:=zbl h;unfold zbq at h2;unfold zb5 at h3;simp only[Bool.and_eq_true,Bool.or_eq_true,Bool.not_eq_true',decide_eq_true_eq,decide_eq_false_iff_not] at h2 h3;have hh:c.host.size≤128∧c.pre.size≤128:=by
  rcases h3.1.1 with e|e
  ·rcases h2.1.1 with e2|e2
   ·rw[e] at e2;cases e2
   ·omega
  ·refine⟨?_,?_⟩
   ·have:=e.1;unfold zbe at this;simp only[Bool.and_eq_true,decide_eq_true_eq] at this;omega
   ·have:=e.2;unfold zch at this;simp only[Bool.and_eq_true] at this;exact zd0 this.1
 have hl:c.pool.size≤128:=by
  rcases h3.1.2 with e|e
  ·rcases h2.1.2 with e2|e2
   ·exact absurd e e2
   ·omega
  ·have:=zd0 e;omega
 exact⟨⟨hh.1,hh.2,hl⟩,fun t ht=>by
  have:=List.all_eq_true.1 h3.2 t ht;have:=zd0 this
  omega⟩
theorem Smi.act {j:Nat} {x:Sm} (h:Smi j x) {c:Cmd} (hc:zam c=0) (a':Option Addr) (tc':Nat) :
  (zbp c a' tc' x).2.ver=x.ver∧(zbp c a' tc' x).2.cl=x.cl∧(zbp c a' tc' x).2.ps.length≤j+1∧(zbp c a' tc' x).2.rs.length≤j+1∧(∀ r∈(zbp c a' tc' x).2.rs,r.h.size≤128∧r.p.size≤128∧r.l.size≤128)∧(∀ p∈(zbp c a' tc' x).2.ps,p.po.nm.size≤128∧p.po.ts.length≤16∧∀ t∈p.po.ts,t.1.size≤128):=by
 obtain⟨⟨z1,z2,z3⟩,z4⟩:=zn8 hc;have z5:=(zbl hc).2.2.2.2;have hpn:=h.pn;have hrn:=h.rn;have same:x.ver=x.ver∧x.cl=x.cl∧x.ps.length≤j+1∧x.rs.length≤j+1∧(∀ r∈x.rs,r.h.size≤128∧r.p.size≤128∧r.l.size≤128)∧(∀ p∈x.ps,p.po.nm.size≤128∧p.po.ts.length≤16∧∀ t∈p.po.ts,t.1.size≤128):=⟨rfl,rfl,by omega,by omega,h.rs,h.ps⟩
 unfold zbp;split
 ·exact same
 split
 ·rcases znr ⟨⟨c.pool,c.ts⟩,a',tc'⟩ x with e|e
  ·rw[e];exact same
  ·rw[e];refine⟨rfl,rfl,?_,by dsimp only;omega,h.rs,?_⟩
   ·have:=zif qnm ⟨⟨c.pool,c.ts⟩,a',tc'⟩ x.ps;dsimp only;omega
   ·intro p hp;rcases zdl qnm _ p x.ps hp with rfl|hp
    ·exact⟨z3,z5,z4⟩
    ·exact h.ps p hp
 split
 ·rcases zks c.pool x with⟨y,_,e⟩|e
  ·rw[e];exact same
  ·rw[e];refine⟨rfl,rfl,?_,by dsimp only;omega,h.rs,fun p hp=>h.ps p (List.mem_filter.1 hp).1⟩;have:=List.length_filter_le (fun q=>decide (qnm q≠c.pool)) x.ps;show(List.filter _ _).length≤_
   omega
 split
 ·rcases zns ⟨c.host,c.pre,c.pool⟩ x with⟨y,_,e⟩|e
  ·rw[e];exact same
  ·rw[e];refine⟨rfl,rfl,by dsimp only;omega,?_,?_,h.ps⟩
   ·have:=zif rpl ⟨c.host,c.pre,c.pool⟩ x.rs;dsimp only;omega
   ·intro r hr;rcases zdl rpl _ r x.rs hr with rfl|hr
    ·exact⟨z1,z2,z3⟩
    ·exact h.rs r hr
 ·rcases zkt (c.host,c.pre) x with⟨y,_,e⟩|e
  ·rw[e];exact same
  ·rw[e];refine⟨rfl,rfl,by dsimp only;omega,?_,fun r hr=>h.rs r (List.mem_filter.1 hr).1,h.ps⟩;have:=List.length_filter_le (fun q=>decide (rpl q≠(c.host,c.pre))) x.rs;show(List.filter _ _).length≤_
   omega
theorem Smi.done {j:Nat} {x:Sm} (h:Smi j x) {c:Cmd} (hc:zam c=0) (a':Option Addr) (tc':Nat):Smi (j+1) (za4 (zbp c a' tc' x)).2:=by
 obtain⟨h1,h2,h3,h4,h5,h6⟩:=h.act hc a' tc';have hv:=h.vr;have hcn:=h.cn;unfold za4;split
 ·exact⟨h3,h4,by dsimp only;rw[h2];omega,by dsimp only;rw[h1];omega,h5,h6⟩
 ·exact⟨h3,h4,by dsimp only;rw[h2];omega,by dsimp only;rw[h1];omega,h5,h6⟩
theorem Smi.do {j:Nat} {x:Sm} (h:Smi j x) (c:Cmd) (a':Option Addr) (tc':Nat):Smi (j+1) (doS c a' tc' x).2:=by
 by_cases hc:zam c=0
 ·have hd:=h.done hc a' tc';unfold doS;rw[if_neg (by simp[hc])];split
  ·exact hd
  split
  ·exact h.mono (Nat.le_succ j)
  split
  ·exact h.mono (Nat.le_succ j)
  ·refine⟨hd.pn,hd.rn,?_,hd.vr,hd.rs,hd.ps⟩;rw[zjw];have:=zif lid ⟨c.cli,c.seq,(za4 (zbp c a' tc' x)).1.1,(za4 (zbp c a' tc' x)).1.2⟩ x.cl;have:=h.cn;dsimp only;omega
 ·unfold doS;rw[if_pos hc];exact h.mono (Nat.le_succ j)
def zji (c:Cmd):Bool:=decide (c.ts.length≤100)&&(decide (c.host.size≤1000)&&(decide (c.pre.size≤1000)&&decide (c.pool.size≤1000)))
theorem zhf (c:Cmd) (a:Option Addr) (tc:Nat) (w:World) (hn:c.ts.length≤maxLen) (z1:c.host.size≤140737488355328) (z2:c.pre.size≤140737488355328) (z3:c.pool.size≤140737488355328) :
  Calls Tryz.prog 15 #[zar c a tc] w fun e w'=>e=.returned (.bool (zji c))∧Below w.heap.size w w':=by
 unfold zar zji;obtain⟨act,cli,seq,exp,host,pre,pool,ts⟩:=c;dsimp only at *;have bX:=zaa (show Below w.heap.size w (w.alloc (.cells #[.int .i64 act,.int .i64 cli,.int .i64 seq,.int .i64 exp,.string host,.string pre,.string pool,.slice a ts.length tc] 33)) from(Below.refl _ _).alloc (Nat.le_refl _) _);have X1:=zaa (zac w (.cells #[.int .i64 act,.int .i64 cli,.int .i64 seq,.int .i64 exp,.string host,.string pre,.string pool,.slice a ts.length tc] 33));have k4:=zab (za X1) 4 (.string host) rfl;have k5:=zab (za X1) 5 (.string pre) rfl;have k6:=zab (za X1) 6 (.string pool) rfl;have k7:=zab (za X1) 7 (.slice a ts.length tc) rfl;generalize ts.length=n at *;generalize hz4:host.size=m1 at *;generalize hz5:pre.size=m2 at *;generalize hz6:pool.size=m3 at *;have HZ:=zaa (And.intro hz4 (And.intro hz5 hz6));by_cases h1:n≤100
 ·have d1:decide (n≤100)=true:=decide_eq_true h1;have i1:(n:Int)≤100:=by omega
  by_cases h2:m1≤1000
  ·have d2:decide (m1≤1000)=true:=decide_eq_true h2;have i2:(m1:Int)≤1000:=by omega
   by_cases h3:m2≤1000
   ·have d3:decide (m2≤1000)=true:=decide_eq_true h3;have i3:(m2:Int)≤1000:=by omega
    by_cases h4:m3≤1000
    ·have d4:decide (m3≤1000)=true:=decide_eq_true h4;have i4:(m3:Int)≤1000:=by omega
     rw[d1,d2,d3,d4];go_enter Tryz.func15,Tryz.ntmps15
     go_wp2
     go_ret
     exact⟨rfl,za bX⟩
    ·have d4:decide (m3≤1000)=false:=decide_eq_false h4;have i4:¬ (m3:Int)≤1000:=by omega
     rw[d1,d2,d3,d4];go_enter Tryz.func15,Tryz.ntmps15
     go_wp2
     go_ret
     exact⟨rfl,za bX⟩
   ·have d3:decide (m2≤1000)=false:=decide_eq_false h3;have i3:¬ (m2:Int)≤1000:=by omega
    rw[d1,d2,d3];go_enter Tryz.func15,Tryz.ntmps15
    go_wp2
    go_ret
    exact⟨rfl,za bX⟩
  ·have d2:decide (m1≤1000)=false:=decide_eq_false h2;have i2:¬ (m1:Int)≤1000:=by omega
   rw[d1,d2];go_enter Tryz.func15,Tryz.ntmps15
   go_wp2
   go_ret
   exact⟨rfl,za bX⟩
 ·have d1:decide (n≤100)=false:=decide_eq_false h1;have i1:¬ (n:Int)≤100:=by omega
  rw[d1];go_enter Tryz.func15,Tryz.ntmps15
  go_wp2
  go_ret
  exact⟨rfl,za bX⟩
section
variable {κ α:Type} [Kord κ]
def Kl (kf:α→κ) (l:List α):Prop:=Kr (l.map fun q=>(kf q,q))
theorem Kl.put {kf:α→κ} {l:List α} (h:Kl kf l) (a:α):Kl kf (zbn kf a l):=by
 unfold Kl;rw[zdz kf (fun q=>q) a l];exact Kr.put h _ _
theorem Kl.del {kf:α→κ} {l:List α} (h:Kl kf l) (k:κ):Kl kf (zdw kf k l):=by
 unfold Kl;rw[zdx kf (fun q=>q) k l];exact Kr.del h _
theorem Kl.tail {kf:α→κ} {b:α} {l:List α} (h:Kl kf (b::l)):Kl kf l:=(List.pairwise_cons.1 h).2
theorem Kl.head {kf:α→κ} {b:α} {l:List α} (h:Kl kf (b::l)):∀ x∈l,Kord.lt (kf b) (kf x):=fun x hx=>(List.pairwise_cons.1 h).1 (kf x,x) (List.mem_map.2 ⟨x,hx,rfl⟩)
theorem zgc (kf:α→κ) (k:κ) (b:α) (l:List α):zax kf k (b::l)=if kf b=k then some b else zax kf k l:=rfl
theorem zk5 {kf:α→κ} {k:κ} {l:List α} (h:∀ x∈l,kf x≠k):zax kf k l=none:=by
 unfold zax;rw[zg];intro hm;simp only[List.map_map,List.mem_map,Function.comp] at hm;obtain⟨x,hx,e⟩:=hm;exact h x hx e
theorem zea (kf:α→κ) (k:κ):∀ l:List α,(zax kf k l).isSome=l.any (fun q=>decide (kf q=k))
 |[]=>rfl
 |b::l=>by
  rw[zgc,List.any_cons];by_cases h:kf b=k
  ·rw[if_pos h,decide_eq_true h];rfl
  ·rw[if_neg h,decide_eq_false h,Bool.false_or];exact zea kf k l
theorem zg2 (kf:α→κ) (a:α) (l:List α) (h:Kl kf l):zbn kf a l=l.filter (fun x=>decide (Kord.lt (kf x) (kf a)))++a::l.filter (fun x=>decide (Kord.lt (kf a) (kf x))):=by
 unfold zbn;rw[zi7 h,List.map_append,List.map_cons,List.filter_map,List.filter_map,List.map_map,List.map_map]
 congr 1
 ·simp only[Function.comp_def,List.map_id']
 ·simp only[Function.comp_def,List.map_id']
theorem zk7 (kf:α→κ) (a:α) (l:List α) (h:Kl kf l):zbn kf a (zdw kf (kf a) l)=zbn kf a l:=by
 unfold zbn;rw[zdx kf (fun q=>q) (kf a) l,zp3 h]
theorem zgq (kf:α→κ) (f:α→List Nat) (a:α):∀ l:List α,Kl kf l→((zbn kf a l).flatMap f).length+(match zax kf (kf a) l with|none=>0|some o=>(f o).length)=(l.flatMap f).length+(f a).length
 |[],_=>by simp[zbn,zib,zax,zki]
 |b::l,h=>by
  rw[zcc,zgc];by_cases h1:Kord.lt (kf b) (kf a)
  ·have h2:¬ kf b=kf a:=fun e=>Kord.irr _ (e ▸ h1);rw[if_pos h1,if_neg h2,List.flatMap_cons,List.flatMap_cons,List.length_append,List.length_append];have:=zgq kf f a l h.tail;omega
  ·rw[if_neg h1];by_cases h2:kf b=kf a
   ·rw[if_pos h2,if_pos h2,List.flatMap_cons,List.flatMap_cons,List.length_append,List.length_append];dsimp only;omega
   ·have h3:Kord.lt (kf a) (kf b):=((Kord.tri (kf b) (kf a)).resolve_left h1).resolve_left h2;have h4:zax kf (kf a) l=none:=zk5 (fun x hx e=>Kord.irr _ (Kord.tr h3 (e ▸ h.head x hx)));rw[if_neg h2,if_neg h2,h4,List.flatMap_cons,List.length_append];dsimp only;omega
theorem zga (kf:α→κ) (a:α):∀ l:List α,Kl kf l→(zbn kf a l).length=if (zax kf (kf a) l).isSome then l.length else l.length+1
 |[],_=>by simp[zbn,zib,zax,zki]
 |b::l,h=>by
  rw[zcc,zgc];by_cases h1:Kord.lt (kf b) (kf a)
  ·have h2:¬ kf b=kf a:=fun e=>Kord.irr _ (e ▸ h1);rw[if_pos h1,if_neg h2,List.length_cons,zga kf a l h.tail,List.length_cons];split <;> rfl
  ·rw[if_neg h1];by_cases h2:kf b=kf a
   ·rw[if_pos h2,if_pos h2];rfl
   ·have h3:Kord.lt (kf a) (kf b):=((Kord.tri (kf b) (kf a)).resolve_left h1).resolve_left h2;have h4:zax kf (kf a) l=none:=zk5 (fun x hx e=>Kord.irr _ (Kord.tr h3 (e ▸ h.head x hx)));rw[if_neg h2,if_neg h2,h4];rfl
theorem zd4 (f:α→List Nat) (p:α→Bool):∀ l:List α,((l.filter p).flatMap f).length≤(l.flatMap f).length
 |[]=>Nat.le_refl _
 |b::l=>by
  have ih:=zd4 f p l;rw[List.filter_cons];split
  ·rw[List.flatMap_cons,List.flatMap_cons,List.length_append,List.length_append];omega
  ·rw[List.flatMap_cons,List.length_append];omega
end
theorem znm (n:Nat) (h:n<128):(zao n).length=1:=by
 have h1:=zig 0 n (by simpa using h);have h2:=(zb n).1;omega
theorem zb3 (ver:Int) (rs:List Rt) (l:List Po) (h1:l.length<128) (h2:rs.length<128):(zaq ⟨ver,rs,l⟩).length=2+(l.flatMap zas).length+(rs.flatMap zan).length:=by
 unfold zaq;simp only[List.length_append,znm _ h1,znm _ h2];omega
structure SmI (x:Sm):Prop where
 kp:Kl qnm x.ps
 kr:Kl rpl x.rs
 kc:Kl lid x.cl
 sz:(zaq x.cf).length≤12000
 pn:x.ps.length≤32
 rn:x.rs.length≤64
 th:∀ r∈x.rs,∃ p∈x.ps,qnm p=r.l
theorem smI0:SmI sm0:=⟨List.Pairwise.nil,List.Pairwise.nil,List.Pairwise.nil,by decide,by simp[sm0],by simp[sm0],by simp[sm0]⟩
def actN (c:Cmd) (a':Option Addr) (tc':Nat) (x:Sm):Int×Sm :=
 if c.act=1 then zce ⟨⟨c.pool,c.ts⟩,a',tc'⟩ x
 else if c.act=2 then zbc c.pool x
 else if c.act=3 then zbt ⟨c.host,c.pre,c.pool⟩ x
 else zbi (c.host,c.pre) x
theorem zta (nm:ByteArray) (l:List Pq):dP nm l=zdw qnm nm l:=by
 unfold dP zdw
 congr 1
 funext q
 simp only[decide_not];rfl
theorem ztb (h p:ByteArray) (l:List Rt):dR h p l=zdw rpl (h,p) l:=by
 unfold dR zdw
 congr 1
 funext q
 by_cases e:q.h=h∧q.p=p
 ·have e2:rpl q=(h,p):=Prod.ext e.1 e.2;rw[decide_eq_true e,decide_eq_false (fun k=>k e2)];rfl
 ·have e2:rpl q≠(h,p):=fun k=>e ⟨congrArg Prod.fst k,congrArg Prod.snd k⟩;rw[decide_eq_false e,decide_eq_true e2];rfl
theorem zp0 (nm:ByteArray) (l:List Pq):isP nm l=(zax qnm nm l).isSome:=(zea qnm nm l).symm
theorem zr3 (h p:ByteArray) (l:List Rt):isR h p l=(zax rpl (h,p) l).isSome:=by
 rw[zea];unfold isR
 congr 1
 funext q
 exact decide_eq_decide.2 ⟨fun e=>Prod.ext e.1 e.2,fun k=>⟨congrArg Prod.fst k,congrArg Prod.snd k⟩⟩
theorem wQ_is (q:Pq) (l:List Pq) (h:Kl qnm l):wQ q (dP q.po.nm l)=zbn qnm q l:=by
 rw[zta,← zk7 qnm q l h,zg2 qnm q _ (h.del _)];rfl
theorem wR_is (r:Rt) (l:List Rt) (h:Kl rpl l):wR r (dR r.h r.p l)=zbn rpl r l:=by
 rw[ztb,← zk7 rpl r l h,zg2 rpl r _ (h.del _)];rfl
theorem zcw (l:List Pq):(l.map Pq.po).flatMap zas=l.flatMap (fun q=>zas q.po):=by
 induction l with
 |nil=>rfl
 |cons b l ih=>rw[List.map_cons,List.flatMap_cons,List.flatMap_cons,ih]
theorem zgu {ver:Int} {rs rs':List Rt} {l l':List Pq} (h:(zaq ⟨ver,rs',l'.map Pq.po⟩).length≤12000):zgs ver rs l rs' l'=(0,rs',l'):=by
 unfold zgs;rw[if_neg (by omega)]
theorem zho {ver:Int} {rs rs':List Rt} {l l':List Pq} (h:¬ (zaq ⟨ver,rs',l'.map Pq.po⟩).length≤12000):zgs ver rs l rs' l'=(6,rs,l):=by
 unfold zgs;rw[if_pos (by omega)]
theorem zsx {c:Cmd} {a':Option Addr} {tc':Nat} {x:Sm} (h:SmI x):zgk c a' tc' x.ver x.rs x.ps=((actN c a' tc' x).1,(actN c a' tc' x).2.rs,(actN c a' tc' x).2.ps):=by
 have hsz:(zaq x.cf).length=2+(x.ps.flatMap (fun q=>zas q.po)).length+(x.rs.flatMap zan).length:=by
  rw[show x.cf=⟨x.ver,x.rs,x.ps.map Pq.po⟩ from rfl,zb3 _ _ _ (by rw[List.length_map];have:=h.pn;omega) (by have:=h.rn;omega),zcw]
 unfold zgk actN;by_cases h1:c.act=1
 ·rw[if_pos h1,if_pos h1,zp0];have hw:=wQ_is ⟨⟨c.pool,c.ts⟩,a',tc'⟩ x.ps h.kp;dsimp only at hw;rw[hw];have hs:=zgq qnm (fun q=>zas q.po) ⟨⟨c.pool,c.ts⟩,a',tc'⟩ x.ps h.kp;have hl:=zga qnm ⟨⟨c.pool,c.ts⟩,a',tc'⟩ x.ps h.kp;rw[show qnm ⟨⟨c.pool,c.ts⟩,a',tc'⟩=c.pool from rfl] at hs hl;unfold zce;dsimp only;cases hg:zax qnm c.pool x.ps with
  |none =>
   rw[hg] at hs hl;dsimp only at hs hl ⊢;simp only[Option.isSome,Bool.false_eq_true,if_false] at hl;by_cases h32:32≤x.ps.length
   ·rw[if_pos ⟨rfl,h32⟩,if_pos h32]
   ·have hc:=zb3 x.ver x.rs ((zbn qnm ⟨⟨c.pool,c.ts⟩,a',tc'⟩ x.ps).map Pq.po) (by rw[List.length_map];omega) (by have:=h.rn;omega);rw[zcw] at hc;rw[if_neg (fun e=>h32 e.2),if_neg h32];by_cases hb:((zaq x.cf).length:Int)+((zas ⟨c.pool,c.ts⟩).length:Int)≤12000
    ·rw[if_pos hb,zgu (by omega)]
    ·rw[if_neg hb,zho (by omega)]
  |some o =>
   rw[hg] at hs hl;dsimp only at hs hl ⊢;simp only[Option.isSome,if_true] at hl;have hc:=zb3 x.ver x.rs ((zbn qnm ⟨⟨c.pool,c.ts⟩,a',tc'⟩ x.ps).map Pq.po) (by rw[List.length_map];have:=h.pn;omega) (by have:=h.rn;omega);rw[zcw] at hc;rw[if_neg (fun e=>by cases e.1)];by_cases hb:((zaq x.cf).length:Int)+(((zas ⟨c.pool,c.ts⟩).length:Int) - ((zas o.po).length:Int))≤12000
   ·rw[if_pos hb,zgu (by omega)]
   ·rw[if_neg hb,zho (by omega)]
 ·rw[if_neg h1,if_neg h1];by_cases h2:c.act=2
  ·rw[if_pos h2,if_pos h2,zp0];unfold zbc;cases hg:zax qnm c.pool x.ps with
   |none=>exact if_pos rfl
   |some o =>
    rw[if_neg (by simp)];dsimp only;unfold isU;split
    ·rfl
    ·have h3:=zd4 (fun q:Pq=>zas q.po) (fun q=>decide (qnm q≠c.pool)) x.ps;have h4:=List.length_filter_le (fun q:Pq=>decide (qnm q≠c.pool)) x.ps;rw[zta];have hc:=zb3 x.ver x.rs ((zdw qnm c.pool x.ps).map Pq.po) (by rw[List.length_map];have:=h.pn;unfold zdw;omega) (by have:=h.rn;omega);rw[zcw] at hc;have:=h.sz;unfold zdw at *;rw[zgu (by omega)]
  ·rw[if_neg h2,if_neg h2];by_cases h3:c.act=3
   ·rw[if_pos h3,if_pos h3,zp0,zr3];have hw:=wR_is ⟨c.host,c.pre,c.pool⟩ x.rs h.kr;dsimp only at hw;rw[hw];have hs:=zgq rpl zan ⟨c.host,c.pre,c.pool⟩ x.rs h.kr;have hl:=zga rpl ⟨c.host,c.pre,c.pool⟩ x.rs h.kr;rw[show rpl ⟨c.host,c.pre,c.pool⟩=(c.host,c.pre) from rfl] at hs hl;unfold zbt;dsimp only;cases hq:zax qnm c.pool x.ps with
    |none=>exact if_pos rfl
    |some p =>
     rw[if_neg (by simp)];dsimp only;cases hg:zax rpl (c.host,c.pre) x.rs with
     |none =>
      rw[hg] at hs hl;dsimp only at hs hl ⊢;simp only[Option.isSome,Bool.false_eq_true,if_false] at hl;by_cases h64:64≤x.rs.length
      ·rw[if_pos ⟨rfl,h64⟩,if_pos h64]
      ·have hc:=zb3 x.ver (zbn rpl ⟨c.host,c.pre,c.pool⟩ x.rs) (x.ps.map Pq.po) (by rw[List.length_map];have:=h.pn;omega) (by omega);rw[zcw] at hc;rw[if_neg (fun e=>h64 e.2),if_neg h64];by_cases hb:((zaq x.cf).length:Int)+((zan ⟨c.host,c.pre,c.pool⟩).length:Int)≤12000
       ·rw[if_pos hb,zgu (by omega)]
       ·rw[if_neg hb,zho (by omega)]
     |some o =>
      rw[hg] at hs hl;dsimp only at hs hl ⊢;simp only[Option.isSome,if_true] at hl;have hc:=zb3 x.ver (zbn rpl ⟨c.host,c.pre,c.pool⟩ x.rs) (x.ps.map Pq.po) (by rw[List.length_map];have:=h.pn;omega) (by have:=h.rn;omega);rw[zcw] at hc;rw[if_neg (fun e=>by cases e.1)];by_cases hb:((zaq x.cf).length:Int)+(((zan ⟨c.host,c.pre,c.pool⟩).length:Int) - ((zan o).length:Int))≤12000
      ·rw[if_pos hb,zgu (by omega)]
      ·rw[if_neg hb,zho (by omega)]
   ·rw[if_neg h3,if_neg h3,zr3];unfold zbi;cases hg:zax rpl (c.host,c.pre) x.rs with
    |none=>exact if_pos rfl
    |some o =>
     rw[if_neg (by simp)];dsimp only;have h3:=zd4 zan (fun q=>decide (rpl q≠(c.host,c.pre))) x.rs;have h4:=List.length_filter_le (fun q:Rt=>decide (rpl q≠(c.host,c.pre))) x.rs;rw[ztb];have hc:=zb3 x.ver (zdw rpl (c.host,c.pre) x.rs) (x.ps.map Pq.po) (by rw[List.length_map];have:=h.pn;omega) (by have:=h.rn;unfold zdw;omega);rw[zcw] at hc;have:=h.sz;unfold zdw at *;rw[zgu (by omega)]
end
end Go.Proofs.YtjcjleaicjhpeaaGreatDoor
