/- Conf: the library's variable, as a tied row lays it. -/
import Derived.Test.YtjcjleaicjhpeaaGreatDoorB23
import Derived.Test.YtjcjleaicjhpeaaGreatDoorRows
import Derived.HandedShaped
import Derived.Handed
import Derived.MakeChecks
import Derived.Deep.Slices
import Derived.Test.YtjcjleaicjhpeaaGreatDoorB21
import Derived.Test.YtjcjleaicjhpeaaGreatDoorB13
import Derived.Test.YtjcjleaicjhpeaaGreatDoorB15
import Derived.Test.YtjcjleaicjhpeaaGreatDoorB07
import Derived.Test.YtjcjleaicjhpeaaGreatDoorB16
import Derived.Test.YtjcjleaicjhpeaaGreatDoorB06
import Derived.Deep.RegionHeld3
set_option linter.unusedVariables false
set_option maxRecDepth 20000
set_option maxHeartbeats 16000000
namespace Go.Proofs.YtjcjleaicjhpeaaGreatDoor
section
open Go.ChangeShapes Go.WideShapes Go.ChangeAt Go.RowKit Go.Lib
def Lz (w:World):Prop:=Mx w
theorem zum {W:World} (hL:laidMet Tryz.prog [("unicode/utf8.acceptRanges",Rows.laid_unicode_utf8_acceptRanges),("unicode/utf8.first",Rows.laid_unicode_utf8_first)] W) (hsh:W.ShapedOpen Tryz.prog):Lz W:=Tryz.laysM146.s1_3 W hsh
theorem zm3 {H:Type} {enc:TypeId×Value→H} {a:Assume} {C:Checked} {os:Os} {f:FuncId} {fn:Func} {s:ChangeSpec} {conds:List PathCond} {apart fresh handsOn again:Bool} {X:World→Array Value→Prop}
  (hX:∀ (w w':World) (args:Array Value),w.heap=w'.heap→X w args→X w' args)
  (own:ownKnob C.prog.godebug=none) (started:os.Started) (noInit:C.prog.inits.idxOf? f=none) (hfn:C.prog.funcs[f]? = some fn)
  (witness:∃ (w:World) (tape:Tape) (i:Input),w.os=os∧(w.forCall tape i).Shaped C.prog∧i.vars=[]∧Input.okWide C.prog (w.forCall tape i) .any w.heap.size f i ∧
   ((s.pre enc C.prog fn conds apart (w.forCall tape i).memory i.args∧X (w.forCall tape i).memory i.args)∧sizedMet enc C.prog fn (OpenSpec.ofChange s) apart (w.forCall tape i).memory i.args)∧a.holds C.prog (lone (Frame.enter C.prog f i.args .normal) [] (w.forCall tape i)))
  (contract:∀ (W:World) (base:Nat) (args:Array Value) (ds gs:List (DataW H)) (before:List MemPlace),
   (∀ (j:Nat) t v,fn.params[j]? = some t→args[j]? = some v→Value.okWide C.prog W .any base t v) →
   DataW.Whole enc C.prog fn.params.toList s.vars apart W args.toList ds gs before →
   conds.all (PathCond.test C.prog ⟨fn.params.toList,ds,s.plain.varTypes C.prog,gs⟩)=true →
   (DataW.weightsEach C.prog (fn.params.toList++s.plain.varTypes C.prog) (ds++gs)).all (·≤reachBytes)=true→X W args→W.ShapedOpen C.prog →
   a.holds C.prog (lone (Frame.enter C.prog f args .normal) [] W) →
   Calls C.prog f args W fun e W'=>∃ v,e=.returned v∧s.post enc C.prog fn apart fresh handsOn again W args v W') :
  ReturnsInHanded a C os f .any (fun w args=>(s.pre enc C.prog fn conds apart w args∧X w args)∧sizedMet enc C.prog fn (OpenSpec.ofChange s) apart w args) (s.post enc C.prog fn apart fresh handsOn again):=by
 refine returnsInHanded_of_calls own started noInit witness ?_;intro w tape i _ hsh _ hok hpre hholds;obtain⟨_,_,_,gn,hgn,_,_,_,_,hval⟩:=hok;obtain rfl:gn=fn:=Option.some.inj (hgn.symm.trans hfn);obtain⟨⟨⟨ds,gs,before,hw,hc⟩,hx⟩,hz⟩:=hpre;refine(contract (w.forCall tape i) w.heap.size i.args ds gs before hval (DataW.Whole.of_heap (w':=w.forCall tape i) (by rfl) hw) hc (hz.weights hw) (hX _ _ _ (by rfl) hx) hsh hholds).mono fun e W' h=>?_;obtain⟨v,rfl,hp⟩:=h;exact ChangeSpec.post_blind hp
end
section
open Go.ChangeShapes Go.WideShapes Go.ChangeAt Go.RowKit
section
variable {κ α:Type} [Kord κ]
def Kl (kf:α→κ) (l:List α):Prop:=Kr (l.map fun q=>(kf q,q))
theorem zle (kf:α→κ) (k:κ) (b:α) (l:List α):za9 kf k (b::l)=if kf b=k then some b else za9 kf k l:=rfl
theorem zim (kf:α→κ) (k:κ):∀ l:List α,(za9 kf k l).isSome=l.any (fun q=>decide (kf q=k))
 |[]=>rfl
 |b::l=>by
  rw[zle,List.any_cons];by_cases h:kf b=k
  ·rw[if_pos h,decide_eq_true h];rfl
  ·rw[if_neg h,decide_eq_false h,Bool.false_or];exact zim kf k l
end
section
variable {κ α:Type} [Kord κ]
end
structure SmE (x y:Sm):Prop where
 ver:x.ver=y.ver
 rs:x.rs=y.rs
 cl:x.cl=y.cl
 ps:x.ps.map Pq.po=y.ps.map Pq.po
theorem SmE.refl (x:Sm):SmE x x:=⟨rfl,rfl,rfl,rfl⟩
theorem SmE.cf {x y:Sm} (h:SmE x y):x.cf=y.cf:=by
 unfold Sm.cf;rw[h.ver,h.rs,h.ps]
theorem SmE.len {x y:Sm} (h:SmE x y):x.ps.length=y.ps.length:=by
 have:=congrArg List.length h.ps
 rwa [List.length_map,List.length_map] at this
theorem zq {w:World} {b k:Nat} {v:Value} (h:w.cell? ⟨b,k,none⟩=some v):b<w.heap.size:=by
 rcases Nat.lt_or_ge b w.heap.size with hb|hb
 ·exact hb
 ·have:w.heap[b]? = none:=Array.getElem?_eq_none hb;simp[World.cell?,this] at h
structure RfH where
 ra:Option Addr
 rc:Nat
 pa:Option Addr
 pc:Nat
 la:Option Addr
 lc:Nat
def ztr (y:Sm) (k:RfH):Array Value:=#[.int .i64 y.ver,.slice k.ra y.rs.length k.rc,.slice k.pa y.ps.length k.pc,.slice k.la y.cl.length k.lc]
structure RtAt (w:World) (r:Nat) (k:RfH) (y:Sm):Prop where
 hd:w.heap[r]? = some (.cells (ztr y k) 119 (0,0))
 rw_:zku 0 w k.ra k.rc y.rs
 pw:zeq 0 w k.pa k.pc (y.ps.map Pq.pr)
 lw:zoz 0 w k.la k.lc y.cl
 dt:∀ p∈y.ps,TgD w p
theorem RtAt.later {w w':World} {r:Nat} {k:RfH} {y:Sm} (s:RtAt w r k y) (hb:Below w.heap.size w w'):RtAt w' r k y:=⟨zac hb s.hd,zb0 s.rw_ hb,zb0 s.pw hb,zb0 s.lw hb,fun p hp=>(s.dt p hp).later hb⟩
theorem RtAt.lt {w:World} {r:Nat} {k:RfH} {y:Sm} (s:RtAt w r k y):r<w.heap.size:=(Array.getElem?_eq_some_iff.1 s.hd).1
theorem znp (w:World):Calls Tryz.prog 32 #[] w fun e w'=>∃ r,e=.returned (.pointer (some ⟨r,0,none⟩))∧RtAt w' r ⟨none,0,none,0,none,0⟩ sm0∧Below w.heap.size w w'∧w.heap.size≤r:=by
 have hb:=zaa (show Below w.heap.size w (w.alloc (.cells #[.int .i64 0,.slice none 0 0,.slice none 0 0,.slice none 0 0] 119)) from(Below.refl _ _).alloc (Nat.le_refl _) _);have hx:=zaa (zad w (.cells #[.int .i64 0,.slice none 0 0,.slice none 0 0,.slice none 0 0] 119));go_enter Tryz.func32,Tryz.ntmps32
 go_wp2
 go_ret
 exact⟨w.heap.size,rfl,⟨za hx,zku.ofNil _ _,zeq.ofNil _ _,zoz.ofNil _ _,by simp[sm0]⟩,za hb,Nat.le_refl _⟩
theorem zlx {w:World} {a:Option Addr} {c r m:Nat} {l:List Ls} {V0 V1 V2:Value} (h:zoz 0 w a c l) (hm:l.length=m) (hn:m≤1000) (hr:w.heap[r]? = some (.cells #[V0,V1,V2,.slice a m c] 119 (0,0))) (id:Int) :
  Calls Tryz.prog 35 #[.pointer (some ⟨r,0,none⟩),.int .i64 id] w fun e w'=>e=.returned (.tuple #[.int .i64 ((za9 lid id l).getD ⟨id,0,0,0⟩).seq,.agg #[.int .i64 ((za9 lid id l).getD ⟨id,0,0,0⟩).e,.int .i64 ((za9 lid id l).getD ⟨id,0,0,0⟩).ver]])∧Below w.heap.size w w':=by
 have HL:=zaa h;have HM:=zaa hm;have HR:=zaa hr;have RL:=zaa (Array.getElem?_eq_some_iff.1 hr).1;have TG:=zaa (show ∀ t,(za9 lid id l).getD ⟨id,0,0,0⟩=t→(za9 lid id l).getD ⟨id,0,0,0⟩=t from fun t e=>e);have LG:=zaa (show ∀ t,za9 lid id l=some t→(za9 lid id l).getD ⟨id,0,0,0⟩=t from fun t e=>by rw[e];rfl);have LN:=zaa (show za9 lid id l=none→(za9 lid id l).getD ⟨id,0,0,0⟩=⟨id,0,0,0⟩ from fun e=>by rw[e];rfl);generalize (za9 lid id l).getD ⟨id,0,0,0⟩=t at *;have b1:=zaa (show Below w.heap.size w (w.alloc (.cells #[.int .i64 0,.int .i64 0] 38)) from(Below.refl _ _).alloc (Nat.le_refl _) _);have X1:=zaa (zad w (.cells #[.int .i64 0,.int .i64 0] 38));have S1:=zaa (show(w.alloc (.cells #[.int .i64 0,.int .i64 0] 38)).heap.size=w.heap.size+1 by simp);clear h hm hr TG;go_enter Tryz.func35,Tryz.ntmps35
 go_wp2_with fail
 generalize w.alloc (.cells #[.int .i64 0,.int .i64 0] 38)=V at *;have FB:=zaa (show ∀ W:World,Below V.heap.size V W→Below w.heap.size w W from fun W hb=>(za b1).trans (hb.mono (za b1).size));go_loopw [6] (fun i wr=>∃ j:Nat,j≤m∧i=.int .i64 (j:Int)∧Hid (za9 lid id l=za9 lid id (l.drop j))∧Hid (Below V.heap.size V wr)) (fun i _=>m - (intOf i).toNat)
 case atStart=>exact⟨0,by omega,rfl,zaa rfl,zaa (Below.refl _ _)⟩
 case round =>
  obtain⟨j,hj,rfl,DJ,BB⟩:=hrel;have XR:=zaa (zac (za FB _ (za BB)) (za HR));have e3:=zab (za XR) 3 (.slice a m c) rfl;have XZ:=zaa (zac (za BB) (za X1));by_cases hjm:j<m
  ·as_aux_lemma =>
   have y0:(0:Int)≤(j:Int):=by omega
   have y1:(j:Int)<(m:Int):=by omega
   have hjl:j<l.length:=by rw[za HM];exact hjm
   have DC:=zaa (show l.drop j=l[j]::l.drop (j+1) from List.drop_eq_getElem_cons hjl);obtain⟨g,rfl,hg1,q0,q1,q2,q3⟩:=(za HL).cell j hjl;generalize l[j]=x at *;have p0:=cell_later (za FB _ (za BB)) q0;have p1:=cell_later (za FB _ (za BB)) q1;have p2:=cell_later (za FB _ (za BB)) q2;have p3:=cell_later (za FB _ (za BB)) q3;have QL:=zaa q0;clear q0 q1 q2 q3;rw[za DC,zle] at DJ;by_cases hx:x.id=id
   ·as_aux_lemma =>
    rw[show lid x=x.id from rfl,if_pos hx] at DJ;have ET:=zaa (za LG x (za DJ));have hss:decide (x.id=id)=true:=decide_eq_true hx
    go_wp2_with fail
    have KS:=zaa (show wr.drew.cell? ⟨r,3,none⟩=some (.slice (some ⟨g,0,none⟩) m c)∧wr.drew.cell? ⟨g,j*4+1,none⟩=some (.int .i64 x.seq)∧wr.drew.cell? ⟨g,j*4+2,none⟩=some (.int .i64 x.e)∧wr.drew.cell? ⟨g,j*4+3,none⟩=some (.int .i64 x.ver) from⟨e3,p1,p2,p3⟩);have XZ2:=zaa (show wr.drew.heap[w.heap.size]? = some (.cells #[.int .i64 0,.int .i64 0] 38 (0,0)) from za XZ);have BD:=zaa (show Below w.heap.size w wr.drew from(za FB _ (za BB)).drew);have GL:=zaa (zq (za QL));refine wp_region_held_drew (S:=fun w'=>w'.cell? ⟨r,3,none⟩=some (.slice (some ⟨g,0,none⟩) m c)∧w'.cell? ⟨g,j*4+1,none⟩=some (.int .i64 x.seq)∧w'.cell? ⟨g,j*4+2,none⟩=some (.int .i64 x.e)∧w'.cell? ⟨g,j*4+3,none⟩=some (.int .i64 x.ver)) (by kernel_rfl) ?_ (fun hHeld=>?_)
    ·try dsimp only
     first|exact za KS|exact za KS2
    refine hT 0 ?_;refine hT 1 ?_;refine hT 2 ?_;refine hT 3 ?_;refine hT 4 ?_;refine hT 5 ?_;refine hT 6 ?_;refine hT 7 ?_;refine hT 8 ?_;refine hT 9 ?_;refine hT 10 ?_;refine hT 11 ?_;refine hT 12 ?_;refine hT 13 ?_;refine hT 14 ?_;refine hT 15 ?_;refine hT 16 ?_;refine wpAnyH_ready (rs:=[17]) (by kernel_rfl) (by simp) ?_;refine AllReadyH.cons rfl (fun K hK=>?_) ?_
    ·have z0:=zab (za XZ) 0 (.int .i64 0) rfl;have z1:=zab (za XZ) 1 (.int .i64 0) rfl;have f0:wr.frozen? ⟨w.heap.size,0,none⟩=false:=by simp[World.frozen?,za XZ]
     have f1:wr.frozen? ⟨w.heap.size,1,none⟩=false:=by simp[World.frozen?,za XZ]
     have A1:=zaa (show((wr.setCell ⟨w.heap.size,0,none⟩ (.int .i64 x.e)).setCell ⟨w.heap.size,1,none⟩ (.int .i64 x.ver)).drew.heap[w.heap.size]? = some (.cells #[.int .i64 x.e,.int .i64 x.ver] 38 (0,0)) from zj0 (zj0 (za XZ) 0 (.int .i64 x.e) #[.int .i64 x.e,.int .i64 0] rfl) 1 (.int .i64 x.ver) #[.int .i64 x.e,.int .i64 x.ver] rfl);have G1:=zaa (show wr.grownBy ((wr.setCell ⟨w.heap.size,0,none⟩ (.int .i64 x.e)).setCell ⟨w.heap.size,1,none⟩ (.int .i64 x.ver)).drew (some w.heap.size) from zag (zaq (zak wr w.heap.size 0 (.int .i64 x.e)) (zak _ w.heap.size 1 (.int .i64 x.ver))) (Below.refl _ _).drew);have kr:=(za G1).block r (Nat.lt_of_lt_of_le (za RL) (za BD).size) (fun e=>by have:=Option.some.inj e;have:=za RL;omega);have kg:=(za G1).block g (Nat.lt_of_lt_of_le (za GL) (za BD).size) (fun e=>by have:=Option.some.inj e;have:=za GL;omega);have KS2:=zaa (And.intro ((World.cell?_of_block kr).trans (za KS).1) (And.intro ((World.cell?_of_block kg).trans (za KS).2.1) (And.intro ((World.cell?_of_block kg).trans (za KS).2.2.1) ((World.cell?_of_block kg).trans (za KS).2.2.2))));clear kr kg;go_simp
     clear z0 z1 f0 f1;refine hK.out _ _ ?_ (fun hHeld=>?_)
     ·try dsimp only
      first|exact za KS|exact za KS2
     clear hK K;refine hP ?_;refine wpAnyH_done (by kernel_rfl) ?_ _;generalize ((wr.setCell ⟨w.heap.size,0,none⟩ (.int .i64 x.e)).setCell ⟨w.heap.size,1,none⟩ (.int .i64 x.ver)).drew=W9 at *;clear hHeld KS KS2
     go_wp2
     have g0:=zab (za A1) 0 (.int .i64 x.e) rfl;have g1:=zab (za A1) 1 (.int .i64 x.ver) rfl;refine bodyPost_ret (v:=.tuple #[.int .i64 x.seq,.agg #[.int .i64 x.e,.int .i64 x.ver]]) (by simp[results,Tryz.results35,go_sem,g0,g1]) rfl ⟨by rw[za ET],(za FB _ (za BB)).grown (za G1) (za FB _ (za BB)).size (fun g e=>by have:=Option.some.inj e;omega)⟩
    exact AllReadyH.nil
   ·as_aux_lemma =>
    rw[show lid x=x.id from rfl,if_neg hx] at DJ;have hss:decide (x.id=id)=false:=decide_eq_false hx
    go_wp2
    exact⟨⟨j+1,by omega,by go_num,DJ,BB⟩,by simp[intOf];omega⟩
  ·as_aux_lemma =>
   have hjj:¬ (j:Int)<(m:Int):=by omega
   obtain rfl:m=j:=by omega
   rw[List.drop_of_length_le (by rw[za HM];exact Nat.le_refl _)] at DJ;have ET:=zaa (za LN (za DJ));have z0:=zab (za XZ) 0 (.int .i64 0) rfl;have z1:=zab (za XZ) 1 (.int .i64 0) rfl;have f0:wr.frozen? ⟨w.heap.size,0,none⟩=false:=by simp[World.frozen?,za XZ]
   have f1:wr.frozen? ⟨w.heap.size,1,none⟩=false:=by simp[World.frozen?,za XZ]
   have A1:=zaa (zj0 (zj0 (za XZ) 0 (.int .i64 0) #[.int .i64 0,.int .i64 0] rfl) 1 (.int .i64 0) #[.int .i64 0,.int .i64 0] rfl);have G1:=zaa (zaq (zak wr w.heap.size 0 (.int .i64 0)) (zak _ w.heap.size 1 (.int .i64 0)))
   go_wp2
   generalize (wr.setCell ⟨w.heap.size,0,none⟩ (.int .i64 0)).setCell ⟨w.heap.size,1,none⟩ (.int .i64 0)=W9 at *;clear z0 z1 f0 f1;have g0:=zab (za A1) 0 (.int .i64 0) rfl;have g1:=zab (za A1) 1 (.int .i64 0) rfl;refine bodyPost_ret (v:=.tuple #[.int .i64 0,.agg #[.int .i64 0,.int .i64 0]]) (by simp[results,Tryz.results35,go_sem,g0,g1]) rfl ⟨by rw[za ET],(za FB _ (za BB)).grown (za G1) (za FB _ (za BB)).size (fun g e=>by have:=Option.some.inj e;omega)⟩
def zrq (e:Int):Prop:=e=0∨e=6∨e=8∨e=12∨e=13
structure LsOk (v:Int) (c:Ls):Prop where
 id:1≤c.id∧c.id≤32
 sq:1≤c.seq∧c.seq≤1099511627776
 er:zrq c.e
 vr:0≤c.ver∧c.ver≤v
def poolV (p:Po):Prop:=zdy p.nm=true∧p.ts.all (fun t=>zcf t.1)=true∧zdk p.ts=true
def zuu (r:Rt):Prop:=zbw r.h=true∧zc5 r.p=true
structure SmL (x:Sm):Prop where
 vr:0≤x.ver
 cl:∀ c∈x.cl,LsOk x.ver c
 pv:∀ q∈x.ps,poolV q.po
 rv:∀ r∈x.rs,zuu r
def lsB (c:Ls):List Nat:=zal c.id.toNat++(zal c.seq.toNat++(zal c.e.toNat++zal c.ver.toNat))
def zjn (x:Sm):List Nat:=zal x.ver.toNat++(zav x.cf++(zal x.cl.length++x.cl.flatMap lsB))
theorem SmE.put {x y:Sm} (h:SmE x y):zjn x=zjn y:=by
 unfold zjn;rw[h.cf,h.ver,h.cl]
theorem ns4 (c:Ls):zis [c.id.toNat,c.seq.toNat,c.e.toNat,c.ver.toNat]=lsB c:=by simp[zis,lsB]
theorem zrq.le {e:Int} (h:zrq e):0≤e∧e≤13:=by
 rcases h with rfl|rfl|rfl|rfl|rfl <;> decide
theorem LsOk.row {v:Int} {c:Ls} (h:LsOk v c) (hv:v≤1099511627776):zcl [c.id.toNat,c.seq.toNat,c.e.toNat,c.ver.toNat]=#[.int .i64 c.id,.int .i64 c.seq,.int .i64 c.e,.int .i64 c.ver]∧∀ n∈[c.id.toNat,c.seq.toNat,c.e.toNat,c.ver.toNat],n≤1099511627776:=by
 have h1:=h.id;have h2:=h.sq;have h3:=h.er.le;have h4:=h.vr;refine⟨?_,?_⟩
 ·have e1:(c.id.toNat:Int)=c.id:=by omega
  have e2:(c.seq.toNat:Int)=c.seq:=by omega
  have e3:(c.e.toNat:Int)=c.e:=by omega
  have e4:(c.ver.toNat:Int)=c.ver:=by omega
  simp[zcl,e1,e2,e3,e4]
 ·intro n hn;simp only[List.mem_cons,List.not_mem_nil,or_false] at hn;omega
theorem ztl {v:Int} {c:Ls} (h:LsOk v c) (hv:v≤1099511627776):(lsB c).length≤24:=by
 have h1:=h.id;have h2:=h.sq;have h3:=h.er.le;have h4:=h.vr;unfold lsB;have a:=zap c.id.toNat (by omega);have b:=zap c.seq.toNat (by omega);have d:=zap c.e.toNat (by omega);have e:=zap c.ver.toNat (by omega);simp only[List.length_append];omega
theorem zsq {v:Int} {l:List Ls} (h:∀ c∈l,LsOk v c) (hv:v≤1099511627776) (j:Nat):((l.take j).flatMap lsB).length≤24*j:=by
 have h1:=zcg lsB 24 (l.take j) (fun c hc=>ztl (h c (List.mem_of_mem_take hc)) hv);have h2:(l.take j).length≤j:=by rw[List.length_take];omega
 exact Nat.le_trans h1 (Nat.mul_le_mul_left _ h2)
section
variable {l r:List Nat} {k:Nat}
def zrd (x:Rt):Prop:=x.h.size≤128∧x.p.size≤128∧x.l.size≤128
def zt4 (x:Ls):Prop:=(0≤x.id∧x.id≤1099511627776)∧(0≤x.seq∧x.seq≤1099511627776)∧(0≤x.e∧x.e≤1099511627776)∧(0≤x.ver∧x.ver≤1099511627776)
end
def zha (e:Int):Bool:=decide (e=0∨e=6∨e=8∨e=12∨e=13)
theorem zb2 (e:Int) (w:World):Calls Tryz.prog 163 #[.int .i64 e] w fun en w'=>en=.returned (.bool (zha e))∧w'=w:=by
 by_cases h0:e=0
 ·subst h0;go_enter Tryz.func163,Tryz.ntmps163
  go_wp2
  go_ret
  exact⟨rfl,rfl⟩
 have b0:(e==0)=false:=by simpa using h0
 by_cases h6:e=6
 ·subst h6;go_enter Tryz.func163,Tryz.ntmps163
  go_wp2
  go_ret
  exact⟨rfl,rfl⟩
 have b6:(e==6)=false:=by simpa using h6
 by_cases h8:e=8
 ·subst h8;go_enter Tryz.func163,Tryz.ntmps163
  go_wp2
  go_ret
  exact⟨rfl,rfl⟩
 have b8:(e==8)=false:=by simpa using h8
 by_cases h12:e=12
 ·subst h12;go_enter Tryz.func163,Tryz.ntmps163
  go_wp2
  go_ret
  exact⟨rfl,rfl⟩
 have b12:(e==12)=false:=by simpa using h12
 by_cases h13:e=13
 ·subst h13;go_enter Tryz.func163,Tryz.ntmps163
  go_wp2
  go_ret
  exact⟨rfl,rfl⟩
 have b13:(e==13)=false:=by simpa using h13
 have FE:=zaa (show zha e=false by simp[zha,h0,h6,h8,h12,h13]);go_enter Tryz.func163,Tryz.ntmps163
 go_wp2
 go_ret
 rw[za FE];exact⟨rfl,rfl⟩
def zbe (x:Po):Bool:=zdy x.nm&&(x.ts.all (fun t=>zcf t.1)&&zdk x.ts)
theorem ziu {w:World} {a:Option Addr} (x:Po) (h:TgsAt w a x.ts) (hs:x.nm.size≤140737488355328) (hz:∀ t∈x.ts,t.1.size≤140737488355328) (n c:Nat) (hn:x.ts.length=n) (hx:n≤maxLen) :
  Calls Tryz.prog 113 #[.agg #[.string x.nm,.slice a n c]] w fun e w'=>e=.returned (.bool (zbe x))∧Below w.heap.size w w':=by
 have bX:=zaa (show Below w.heap.size w (w.alloc (.cells #[.string x.nm,.slice a n c] 54)) from(Below.refl _ _).alloc (Nat.le_refl _) _);have XX:=zaa (zad w (.cells #[.string x.nm,.slice a n c] 54));have FN:=zaa (fun (W:World)=>zdq x.nm hs W);have FA:=zaa (fun (W:World) (hb:Below w.heap.size w W)=>zc2 (h.later hb) hz n c hn hx);have FW:=zaa (fun (W:World) (hb:Below w.heap.size w W)=>zdu (h.later hb) n c hn hx);have EQ:=zaa (show zbe x=(zdy x.nm&&(x.ts.all (fun t=>zcf t.1)&&zdk x.ts)) from rfl);generalize zbe x=ok at *;generalize x.ts.all (fun t=>zcf t.1)=b2 at *;generalize zdk x.ts=b3 at *;generalize zdy x.nm=b1 at *;generalize x.nm=s at *;clear h hz hn;have d0:=zab (za XX) 0 (.string s) rfl;go_enter Tryz.func113,Tryz.ntmps113
 go_wp2_with fail
 go_at_call 78
 generalize (w.alloc (.cells #[.string s,.slice a n c] 54))=W0 at *;refine(za FN W0).mono ?_;rintro e W1 ⟨rfl,u1⟩;have BA:=zaa ((za bX).trans (u1.mono (za bX).size));have d1:=zab (zac u1 (za XX)) 1 (.slice a n c) rfl;have X1:=zaa (zac u1 (za XX));clear u1 d0 FN bX XX;cases b1 with
 |false =>
  have e1:ok=false:=by rw[za EQ];rfl
  subst e1
  go_wp2
  go_ret
  exact⟨rfl,za BA⟩
 |true =>
  have A1:=zaa (za FA W1 (za BA))
  go_wp2_with fail
  go_at_call 79
  refine(za A1).mono ?_;rintro e W2 ⟨rfl,u2⟩;have BB:=zaa ((za BA).trans (u2.mono (za BA).size));have d2:=zab (zac u2 (za X1)) 1 (.slice a n c) rfl;have A2:=zaa (za FW W2 (za BB));clear u2 d1 FA A1 BA X1 FW;cases b2 with
  |false =>
   have e1:ok=false:=by rw[za EQ];rfl
   subst e1
   go_wp2
   go_ret
   exact⟨rfl,za BB⟩
  |true =>
   have e1:ok=b3:=by rw[za EQ];rfl
   subst e1
   go_wp2_with fail
   go_at_call 39
   refine(za A2).mono ?_;rintro e W3 ⟨rfl,u3⟩;have BC:=zaa ((za BB).trans (u3.mono (za BB).size));clear u3 A2 BB d2
   go_wp2
   go_ret
   exact⟨rfl,za BC⟩
def zb3 (v:Int) (x:Ls):Bool:=decide (1≤x.id∧x.id≤32)&&(decide (0<x.seq)&&(zha x.e&&decide (x.ver≤v)))
theorem zgv {w:World} {S:Nat} {v:Int} (x:Ls) (hS:w.cell? ⟨S,0,none⟩=some (.int .i64 v)) :
  Calls Tryz.prog 119 #[.pointer (some ⟨S,0,none⟩),.agg #[.int .i64 x.id,.int .i64 x.seq,.int .i64 x.e,.int .i64 x.ver]] w fun e w'=>e=.returned (.bool (zb3 v x))∧Below w.heap.size w w':=by
 have bX:=zaa (show Below w.heap.size w (w.alloc (.cells #[.int .i64 x.id,.int .i64 x.seq,.int .i64 x.e,.int .i64 x.ver] 156)) from(Below.refl _ _).alloc (Nat.le_refl _) _);have XX:=zaa (zad w (.cells #[.int .i64 x.id,.int .i64 x.seq,.int .i64 x.e,.int .i64 x.ver] 156));have HS:=zaa hS;have EQ:=zaa (show zb3 v x=(decide (1≤x.id∧x.id≤32)&&(decide (0<x.seq)&&(zha x.e&&decide (x.ver≤v)))) from rfl);generalize zb3 v x=ok at *;clear hS;go_enter Tryz.func119,Tryz.ntmps119
 go_wp2_with fail
 generalize (w.alloc (.cells #[.int .i64 x.id,.int .i64 x.seq,.int .i64 x.e,.int .i64 x.ver] 156))=W0 at *;generalize hTD:w.heap.size=T at *;have BD:=zaa (show Below T w W0.drew by rw[← hTD];exact(by rw[hTD];exact za bX:Below w.heap.size w W0).drew);have bW:=zaa (show Below W0.heap.size W0 W0.drew from(Below.refl _ _).drew);have XD:=zaa (zac (za bW) (za XX));have KB:=zaa (show W0.drew.cell? ⟨T,0,none⟩=some (.int .i64 x.id)∧W0.drew.cell? ⟨T,1,none⟩=some (.int .i64 x.seq)∧W0.drew.cell? ⟨T,2,none⟩=some (.int .i64 x.e)∧W0.drew.cell? ⟨T,3,none⟩=some (.int .i64 x.ver)∧W0.drew.cell? ⟨S,0,none⟩=some (.int .i64 v) from⟨zab (za XD) 0 _ rfl,zab (za XD) 1 _ rfl,zab (za XD) 2 _ rfl,zab (za XD) 3 _ rfl,cell_later (by rw[hTD];exact za BD:Below w.heap.size w W0.drew) (za HS)⟩);clear bX XX HS bW XD;by_cases h1:1≤x.id∧x.id≤32
 ·have g1:decide (1≤x.id∧x.id≤32)=true:=decide_eq_true h1;by_cases h2:0<x.seq
  ·have g2:decide (0<x.seq)=true:=decide_eq_true h2;cases h3:zha x.e with
   |true =>
    have e1:ok=decide (x.ver≤v):=by rw[za EQ];simp[h1,h2,h3]
    subst e1
    go_wp2_with fail
    refine wp_region_held_drew (S:=fun W=>W.cell? ⟨T,0,none⟩=some (.int .i64 x.id)∧W.cell? ⟨T,1,none⟩=some (.int .i64 x.seq)∧W.cell? ⟨T,2,none⟩=some (.int .i64 x.e)∧W.cell? ⟨T,3,none⟩=some (.int .i64 x.ver)∧W.cell? ⟨S,0,none⟩=some (.int .i64 v)) (by kernel_rfl) ?_ (fun hHeld=>?_)
    ·try dsimp only
     first|exact za K2|exact za K1|exact za KB
    refine hT 0 ?_;refine hT 1 ?_;refine hO 2 (fun K hK=>?_);go_simp
    first
     |(go_at_call 74
       refine(zan _ _ _ _).mono ?_;rintro e U1 ⟨rfl,rfl⟩
       have K1:=zaa (za KB))
     |(go_at_call 163
       refine(zb2 _ _).mono ?_;rintro e U2 ⟨rfl,rfl⟩
       have K2:=zaa (za KB))
    go_wp2_with fail
    refine hK.out _ _ ?_ (fun hHeld=>?_)
    ·try dsimp only
     first|exact za K2|exact za K1|exact za KB
    clear hK K;refine hP ?_;refine hT 3 ?_;refine hT 4 ?_;refine hT 5 ?_;refine hT 6 ?_;refine hT 7 ?_;refine hT 8 ?_;refine hT 9 ?_;refine hT 10 ?_;refine hT 11 ?_;refine hT 12 ?_;refine hT 13 ?_;refine hO 14 (fun K hK=>?_);go_simp
    first
     |(go_at_call 74
       refine(zan _ _ _ _).mono ?_;rintro e U1 ⟨rfl,rfl⟩
       have K1:=zaa (za KB))
     |(go_at_call 163
       refine(zb2 _ _).mono ?_;rintro e U2 ⟨rfl,rfl⟩
       have K2:=zaa (za KB))
    go_wp2_with fail
    refine hK.out _ _ ?_ (fun hHeld=>?_)
    ·try dsimp only
     first|exact za K2|exact za K1|exact za KB
    clear hK K;refine hP ?_;refine hT 15 ?_;refine hT 16 ?_;refine hT 17 ?_;refine hT 18 ?_;refine hT 19 ?_;refine hT 20 ?_;refine hT 21 ?_;refine hT 22 ?_;refine hT 23 ?_;refine hT 24 ?_;refine hT 25 ?_;refine hT 26 ?_;refine hT 27 ?_;refine wpAnyH_done (by kernel_rfl) ?_ _
    go_wp2
    go_ret
    exact⟨by first|rfl|simp_all,by rw[hTD];exact za BD⟩
   |false =>
    have e1:ok=false:=by rw[za EQ];simp[h3]
    subst e1
    go_wp2_with fail
    refine wp_region_held_drew (S:=fun W=>W.cell? ⟨T,0,none⟩=some (.int .i64 x.id)∧W.cell? ⟨T,1,none⟩=some (.int .i64 x.seq)∧W.cell? ⟨T,2,none⟩=some (.int .i64 x.e)∧W.cell? ⟨T,3,none⟩=some (.int .i64 x.ver)∧W.cell? ⟨S,0,none⟩=some (.int .i64 v)) (by kernel_rfl) ?_ (fun hHeld=>?_)
    ·try dsimp only
     first|exact za K2|exact za K1|exact za KB
    refine hT 0 ?_;refine hT 1 ?_;refine hO 2 (fun K hK=>?_);go_simp
    first
     |(go_at_call 74
       refine(zan _ _ _ _).mono ?_;rintro e U1 ⟨rfl,rfl⟩
       have K1:=zaa (za KB))
     |(go_at_call 163
       refine(zb2 _ _).mono ?_;rintro e U2 ⟨rfl,rfl⟩
       have K2:=zaa (za KB))
    go_wp2_with fail
    refine hK.out _ _ ?_ (fun hHeld=>?_)
    ·try dsimp only
     first|exact za K2|exact za K1|exact za KB
    clear hK K;refine hP ?_;refine hT 3 ?_;refine hT 4 ?_;refine hT 5 ?_;refine hT 6 ?_;refine hT 7 ?_;refine hT 8 ?_;refine hT 9 ?_;refine hT 10 ?_;refine hT 11 ?_;refine hT 12 ?_;refine hT 13 ?_;refine hO 14 (fun K hK=>?_);go_simp
    first
     |(go_at_call 74
       refine(zan _ _ _ _).mono ?_;rintro e U1 ⟨rfl,rfl⟩
       have K1:=zaa (za KB))
     |(go_at_call 163
       refine(zb2 _ _).mono ?_;rintro e U2 ⟨rfl,rfl⟩
       have K2:=zaa (za KB))
    go_wp2_with fail
    refine hK.out _ _ ?_ (fun hHeld=>?_)
    ·try dsimp only
     first|exact za K2|exact za K1|exact za KB
    clear hK K;refine hP ?_;refine hT 15 ?_;refine hT 16 ?_;refine hN 17 ?_;refine hN 18 ?_;refine hN 19 ?_;refine hN 20 ?_;refine hN 21 ?_;refine hN 22 ?_;refine hN 23 ?_;refine hN 24 ?_;refine hN 25 ?_;refine hT 26 ?_;refine hT 27 ?_;refine wpAnyH_done (by kernel_rfl) ?_ _
    go_wp2
    go_ret
    exact⟨by first|rfl|simp_all,by rw[hTD];exact za BD⟩
  ·have g2:decide (0<x.seq)=false:=decide_eq_false h2;have e1:ok=false:=by rw[za EQ];simp[h2]
   subst e1
   go_wp2_with fail
   refine wp_region_held_drew (S:=fun W=>W.cell? ⟨T,0,none⟩=some (.int .i64 x.id)∧W.cell? ⟨T,1,none⟩=some (.int .i64 x.seq)∧W.cell? ⟨T,2,none⟩=some (.int .i64 x.e)∧W.cell? ⟨T,3,none⟩=some (.int .i64 x.ver)∧W.cell? ⟨S,0,none⟩=some (.int .i64 v)) (by kernel_rfl) ?_ (fun hHeld=>?_)
   ·try dsimp only
    first|exact za K2|exact za K1|exact za KB
   refine hT 0 ?_;refine hT 1 ?_;refine hO 2 (fun K hK=>?_);go_simp
   first
    |(go_at_call 74
      refine(zan _ _ _ _).mono ?_;rintro e U1 ⟨rfl,rfl⟩
      have K1:=zaa (za KB))
    |(go_at_call 163
      refine(zb2 _ _).mono ?_;rintro e U2 ⟨rfl,rfl⟩
      have K2:=zaa (za KB))
   go_wp2_with fail
   refine hK.out _ _ ?_ (fun hHeld=>?_)
   ·try dsimp only
    first|exact za K2|exact za K1|exact za KB
   clear hK K;refine hP ?_;refine hT 3 ?_;refine hT 4 ?_;refine hT 5 ?_;refine hT 6 ?_;refine hT 7 ?_;refine hT 8 ?_;refine hT 9 ?_;refine hN 10 ?_;refine hN 11 ?_;refine hN 12 ?_;refine hN 13 ?_;refine zbr 14 (by kernel_rfl) rfl (by rfl) (by assumption) ?_;refine hP ?_;refine hT 15 ?_;refine hT 16 ?_;refine hN 17 ?_;refine hN 18 ?_;refine hN 19 ?_;refine hN 20 ?_;refine hN 21 ?_;refine hN 22 ?_;refine hN 23 ?_;refine hN 24 ?_;refine hN 25 ?_;refine hT 26 ?_;refine hT 27 ?_;refine wpAnyH_done (by kernel_rfl) ?_ _
   go_wp2
   go_ret
   exact⟨by first|rfl|simp_all,by rw[hTD];exact za BD⟩
 ·have g1:decide (1≤x.id∧x.id≤32)=false:=decide_eq_false h1;have e1:ok=false:=by rw[za EQ];simp[h1]
  subst e1
  go_wp2_with fail
  refine wp_region_held_drew (S:=fun W=>W.cell? ⟨T,0,none⟩=some (.int .i64 x.id)∧W.cell? ⟨T,1,none⟩=some (.int .i64 x.seq)∧W.cell? ⟨T,2,none⟩=some (.int .i64 x.e)∧W.cell? ⟨T,3,none⟩=some (.int .i64 x.ver)∧W.cell? ⟨S,0,none⟩=some (.int .i64 v)) (by kernel_rfl) ?_ (fun hHeld=>?_)
  ·try dsimp only
   first|exact za K2|exact za K1|exact za KB
  refine hT 0 ?_;refine hT 1 ?_;refine hO 2 (fun K hK=>?_);go_simp
  first
   |(go_at_call 74
     refine(zan _ _ _ _).mono ?_;rintro e U1 ⟨rfl,rfl⟩
     have K1:=zaa (za KB))
   |(go_at_call 163
     refine(zb2 _ _).mono ?_;rintro e U2 ⟨rfl,rfl⟩
     have K2:=zaa (za KB))
  go_wp2_with fail
  refine hK.out _ _ ?_ (fun hHeld=>?_)
  ·try dsimp only
   first|exact za K2|exact za K1|exact za KB
  clear hK K;refine hP ?_;refine hT 3 ?_;refine hN 4 ?_;refine hN 5 ?_;refine hN 6 ?_;refine hN 7 ?_;refine hT 8 ?_;refine hT 9 ?_;refine hN 10 ?_;refine hN 11 ?_;refine hN 12 ?_;refine hN 13 ?_;refine zbr 14 (by kernel_rfl) rfl (by rfl) (by assumption) ?_;refine hP ?_;refine hT 15 ?_;refine hT 16 ?_;refine hN 17 ?_;refine hN 18 ?_;refine hN 19 ?_;refine hN 20 ?_;refine hN 21 ?_;refine hN 22 ?_;refine hN 23 ?_;refine hN 24 ?_;refine hN 25 ?_;refine hT 26 ?_;refine hT 27 ?_;refine wpAnyH_done (by kernel_rfl) ?_ _
  go_wp2
  go_ret
  exact⟨by first|rfl|simp_all,by rw[hTD];exact za BD⟩
end
end Go.Proofs.YtjcjleaicjhpeaaGreatDoor
