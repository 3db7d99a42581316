/- Conf: the program's reader: take, end. -/
import Derived.Test.YtjcjleaicjhpeaaGreatDoorB03
import Derived.Deep.QuietTactic
import Derived.BigQuiet
import Derived.Test.YtjcjleaicjhpeaaGreatDoorB02
import Derived.Maps.AppendAt
import Derived.Deep.RegionLaw
import Derived.Laws.BitsAllLaws
set_option linter.unusedVariables false
set_option maxRecDepth 20000
set_option maxHeartbeats 16000000
namespace Go.Proofs.YtjcjleaicjhpeaaGreatDoor
section
open Go.ChangeShapes Go.WideShapes Go.ChangeAt Go.RowKit
section
variable {R:Nat} {w w':World} {p:Option Addr} {c:Nat} {h:List Nat} {k e:Nat}
structure PartK (R:Nat) (w:World) (p sp:Option Addr) (m cc:Nat) (b:List Nat):Prop where
 len:b.length=m
 cap:m≤cc
 mx:cc≤maxLen
 by_:BytesAt w sp b
 nz:sp=none→cc=0
 of:∀ ad,sp=some ad→∃ ad',p=some ad'∧ad'.block=ad.block
theorem PartK.nil (R:Nat) (w:World) (p:Option Addr):PartK R w p none 0 0 []:=⟨rfl,Nat.le_refl _,by simp,⟨by simp,fun i hi=>by simp at hi⟩,fun _=>rfl,fun ad e=>by cases e⟩
theorem zrj {p:Option Addr} {k c:Nat} : ∀ ad,slp p k c=some ad→∃ ad',p=some ad'∧ad'.block=ad.block:=by
 intro ad e;unfold slp at e;split at e
 ·exact⟨ad,e,rfl⟩
 ·cases p with
  |none=>cases e
  |some a' =>
   simp only[Option.map_some,Option.some.injEq] at e;refine⟨a',rfl,?_⟩;rw[← e];unfold Addr.add;split <;> rfl
theorem zl4 {p:Option Addr} {k c:Nat} (h:slp p k c=none) (hz:p=none→c=0):c - k=0:=by
 unfold slp at h;split at h
 ·omega
 ·cases p with
  |none=>have:=hz rfl;omega
  |some ad=>cases h
def zox (R:Nat) (w:World) (p:Option Addr) (c:Nat) (h:List Nat) (r:List Nat×Nat×Nat) (en:Ending) (w':World):Prop:=∃ sp m cc,en=.returned (.slice sp m cc)∧PartK R w' p sp m cc r.1∧KR R w' p c h r.2.1 r.2.2∧w.grownBy w' (some R)
theorem zil (z:KR R w p c h k e) (n:Nat) (hn:n≤1099511627776):Calls Tryz.prog 157 #[.pointer (some ⟨R,0,none⟩),.int .i64 (n:Int)] w (zox R w p c h (zd7 h k e n)):=by
 have hkl:=z.kl;have hhl:=z.hl;simp only[maxLen] at hhl;have c0:=z.c0;have c1:=z.c1;have hwr:IntKind.i64.wrap ((h.length:Int) - (k:Int))=((h.length - k:Nat):Int):=by rw[IntKind.wrap_i64];omega
 by_cases hs:h.length - k<n
 ·have s1:((h.length - k:Nat):Int)<(n:Int):=by omega
  have s2:decide (((h.length - k:Nat):Int)<(n:Int))=true:=decide_eq_true s1;have FC:=zaa (fun W (u:Below w.heap.size w W)=>zeh (z.later u) 3)
  have EQ:=zaa (show zd7 h k e n=([],k,zcx e 3) by
   have:zcx e 3≠0:=by unfold zcx;split <;> omega
   simp[zd7,zpy,hs,this])
  have HF:=zaa (show zcx e 3≠0 by unfold zcx;split <;> omega);generalize h.length - k=d at *;generalize hL:h.length=L at *;clear z hs;go_enter Tryz.func157,Tryz.ntmps157
  go_wp2_with fail
  go_quiet (fail)
  go_wp2_with fail
  go_at_call 99
  refine(za FC _ (_root_.Go.below_drewN (Below.refl _ _) _)).mono ?_;rintro en V1 ⟨rfl,z1,g1⟩;have d2:=z1.c2;have x1:¬ ((zcx e 3:Nat):Int)=0:=by have:=za HF;omega
  have x2:(((zcx e 3:Nat):Int)==0)=false:=by simp[za HF]
  have FF:=zaa (show zox R w p c h (zd7 h k e n) (.returned (.slice none 0 0)) V1 from by
   rw[za EQ]
   exact⟨none,0,0,rfl,PartK.nil _ _ _,z1,zaf (zao (_root_.Go.below_drewN (Below.refl _ _) _) _) g1⟩)
  clear z1 g1 FC EQ HF;generalize ((zcx e 3:Nat):Int)=ei at *
  go_wp2
  go_ret
  exact za FF
 ·have s1:¬ ((h.length - k:Nat):Int)<(n:Int):=by omega
  have s2:decide (((h.length - k:Nat):Int)<(n:Int))=false:=decide_eq_false s1;have Z:=zaa z;by_cases he:e=0
  ·subst he;have hsl:∀ u,(Instr.slice 50 (.slice p h.length c) (some (.int .i64 (k:Int))) (some (.int .i64 ((k:Int)+(n:Int)))) none).run Tryz.prog u=.ok (.slice (slp p k c) n (c - k)) u:=fun u=>by
    have:=zgo p h.length c k (k+n) (by omega) (by have:=z.hc;omega) u;rw[Nat.add_sub_cancel_left] at this;rw[← this,Int.natCast_add]
   have hadd:IntKind.i64.wrap ((k:Int)+(n:Int))=(k:Int)+(n:Int):=by rw[IntKind.wrap_i64];omega
   have FF:=zaa (show ∀ W,Below w.heap.size w W→∀ j,zox R w p c h (zd7 h k 0 n) (.returned (.slice (slp p k c) n (c - k))) ((W.setCell ⟨R,1,none⟩ (.int .i64 ((k:Int)+(n:Int)))).drewN j) from fun W u j=>by
    have eq:zd7 h k 0 n=((h.drop k).take n,k+n,0):=by simp[zd7,zpy,hs]
    have z2:=((z.later u).setK (k+n) (by omega)).later (_root_.Go.below_drewN (Below.refl _ _) j);rw[Int.natCast_add] at z2;rw[eq];refine⟨_,_,_,rfl,⟨by dsimp only;rw[List.length_take,List.length_drop];omega,by have:=z.hc;omega,by have:=z.hm;omega,(z2.by_.drop k c z.hc).take n,fun hq=>zl4 hq z.hz,zrj⟩,z2,?_⟩;have:=zaf (zaf (zao u (some R)) (zax W R 1 (.int .i64 ((k:Int)+(n:Int))))) (zao (_root_.Go.below_drewN (Below.refl _ _) j) (some R))
    exact this)
   have CL:=zaa (show ∀ W,Below w.heap.size w W→W.cell? ⟨R,1,none⟩=some (.int .i64 (k:Int))∧W.cell? ⟨R,2,none⟩=some (.int .i64 0)∧W.frozen? ⟨R,1,none⟩=false∧(W.setCell ⟨R,1,none⟩ (.int .i64 ((k:Int)+(n:Int)))).cell? ⟨R,0,none⟩=some (.slice p h.length c)∧(W.setCell ⟨R,1,none⟩ (.int .i64 ((k:Int)+(n:Int)))).cell? ⟨R,1,none⟩=some (.int .i64 ((k:Int)+(n:Int))) from fun W u=>by
    have z1:=z.later u;have z2:=z1.setK (k+n) (by omega);rw[Int.natCast_add] at z2;have h1:=z2.c1;rw[Int.natCast_add] at h1
    exact⟨z1.c1,z1.c2,z1.froz 1,z2.c0,h1⟩)
   generalize hL:h.length=L at *;generalize L - k=d at *;clear z hs Z;go_enter Tryz.func157,Tryz.ntmps157
   go_wp2_with fail
   go_quiet (fail)
   obtain⟨b1,b2,b3,b4,b5⟩:=za CL _ (_root_.Go.below_drewN (Below.refl w.heap.size w) nq);have F1:=zaa (za FF _ (_root_.Go.below_drewN (Below.refl w.heap.size w) nq));generalize slp p k c=q at *;generalize w.drewN nq=W1 at *
   go_wp2_with fail
   go_quiet (fail)
   go_wp2
   go_ret
   exact za F1 _
  ·have FF:=zaa (show ∀ j,zox R w p c h (zd7 h k e n) (.returned (.slice none 0 0)) (w.drewN j) from fun j=>by
    have eq:zd7 h k e n=([],k,e):=by simp[zd7,zpy,hs,he]
    rw[eq]
    exact⟨none,0,0,rfl,PartK.nil _ _ _,z.later (_root_.Go.below_drewN (Below.refl _ _) j),zao (_root_.Go.below_drewN (Below.refl _ _) j) _⟩)
   have c2:=z.c2;have x1:¬ (e:Int)=0:=by omega
   have x2:((e:Int)==0)=false:=by simp[he]
   have D2:=zaa (show ∀ j,(w.drewN j).cell? ⟨R,2,none⟩=some (.int .i64 (e:Int)) from fun j=>(z.later (_root_.Go.below_drewN (Below.refl _ _) j)).c2);generalize hL:h.length=L at *;generalize L - k=d at *;clear z hs he Z c2;generalize (e:Int)=ei at *;go_enter Tryz.func157,Tryz.ntmps157
   go_wp2_with fail
   go_quiet (fail)
   have d2:=za D2 nq;have F1:=zaa (za FF nq);generalize w.drewN nq=W1 at *
   go_wp2
   go_ret
   exact za F1
theorem zpa (z:KR R w p c h k e):Calls Tryz.prog 58 #[.pointer (some ⟨R,0,none⟩)] w fun en w'=>en=.returned (.tuple #[])∧KR R w' p c h k (zk h k e)∧w.grownBy w' (some R):=by
 have c0:=z.c0;have c1:=z.c1;by_cases hk:k<h.length
 ·have s1:(k:Int)<(h.length:Int):=by omega
  have s2:decide ((k:Int)<(h.length:Int))=true:=decide_eq_true s1;have FC:=zaa (fun W (u:Below w.heap.size w W)=>zeh (z.later u) 4);have EQ:=zaa (show zk h k e=zcx e 4 by unfold zk;rw[if_pos hk]);generalize hL:h.length=L at *;clear z hk;go_enter Tryz.func58,Tryz.ntmps58
  go_wp2_with fail
  go_quiet (fail)
  go_wp2_with fail
  go_at_call 99
  refine(za FC _ (_root_.Go.below_drewN (Below.refl _ _) _)).mono ?_;rintro en V1 ⟨rfl,z1,g1⟩
  have FF:=zaa (show KR R V1 p c h k (zk h k e)∧w.grownBy V1 (some R) from by
   rw[za EQ]
   exact⟨z1,zaf (zao (_root_.Go.below_drewN (Below.refl _ _) _) _) g1⟩)
  clear z1 g1 FC EQ
  go_wp2
  go_end0
  exact⟨rfl,za FF⟩
 ·have s1:¬ (k:Int)<(h.length:Int):=by omega
  have s2:decide ((k:Int)<(h.length:Int))=false:=decide_eq_false s1
  have FF:=zaa (show ∀ j,KR R (w.drewN j) p c h k (zk h k e)∧w.grownBy (w.drewN j) (some R) from fun j=>by
   rw[show zk h k e=e by unfold zk;rw[if_neg hk]]
   exact⟨z.later (_root_.Go.below_drewN (Below.refl _ _) j),zao (_root_.Go.below_drewN (Below.refl _ _) j) _⟩)
  generalize hL:h.length=L at *;clear z hk;go_enter Tryz.func58,Tryz.ntmps58
  go_wp2_with fail
  go_quiet (fail)
  go_wp2
  go_end0
  exact⟨rfl,za FF _⟩
end
section
variable {R:Nat} {w w':World} {p:Option Addr} {c:Nat} {h:List Nat} {k e:Nat}
theorem zcy (z:KR R w p c h k e) (m:Nat) (hm:m≤1000):Calls Tryz.prog 100 #[.pointer (some ⟨R,0,none⟩),.int .i64 (m:Int)] w (zep R w p c h (zbo h k e m)):=by
 have NC:=zaa (zby z);unfold zep at NC;have EQ:=zaa (show zbo h k e m=if m<(zcd h k e).1 then (0,(zcd h k e).2.1,zcx (zcd h k e).2.2 6) else zcd h k e from rfl);generalize zcd h k e=q at *;obtain⟨n,k1,e1⟩:=q;dsimp only at NC EQ;clear z;by_cases hn:m<n
 ·have y1:(m:Int)<(n:Int):=by omega
  have y2:decide ((m:Int)<(n:Int))=true:=decide_eq_true y1;rw[if_pos hn] at EQ;go_enter Tryz.func100,Tryz.ntmps100
  go_wp2_with fail
  go_at_call 54
  refine(za NC).mono ?_;rintro en V1 ⟨rfl,z1,g1⟩;have FC:=zaa (zeh z1 6);have G1:=zaa g1;clear z1 g1 NC
  go_wp2_with fail
  go_at_call 99
  refine(za FC).mono ?_;rintro en V2 ⟨rfl,z2,g2⟩
  have FF:=zaa (show zep R w p c h (zbo h k e m) (.returned (.int .i64 0)) V2 from by
   rw[za EQ]
   exact⟨rfl,z2,zaf (za G1) g2⟩)
  clear z2 g2
  go_wp2
  go_ret
  exact za FF
 ·have y1:¬ (m:Int)<(n:Int):=by omega
  have y2:decide ((m:Int)<(n:Int))=false:=decide_eq_false y1;rw[if_neg hn] at EQ;go_enter Tryz.func100,Tryz.ntmps100
  go_wp2_with fail
  go_at_call 54
  refine(za NC).mono ?_;rintro en V1 ⟨rfl,z1,g1⟩
  have FF:=zaa (show zep R w p c h (zbo h k e m) (.returned (.int .i64 (n:Int))) V1 from by
   rw[za EQ]
   exact⟨rfl,z1,g1⟩)
  clear z1 g1 NC EQ
  go_wp2
  go_ret
  exact za FF
def zmn (R:Nat) (w:World) (p:Option Addr) (c:Nat) (h:List Nat) (r:List Nat×Nat×Nat) (en:Ending) (w':World):Prop:=en=.returned (.string (zaj r.1))∧KR R w' p c h r.2.1 r.2.2∧w.grownBy w' (some R)
theorem zdc (z:KR R w p c h k e):Calls Tryz.prog 101 #[.pointer (some ⟨R,0,none⟩)] w (zmn R w p c h (zbp h k e)):=by
 have NC:=zaa (zcy z 128 (by omega));unfold zep at NC;have NL:=zaa (zdx h k e 128);have EQ:=zaa (show zbp h k e=zd7 h (zbo h k e 128).2.1 (zbo h k e 128).2.2 (zbo h k e 128).1 from rfl);generalize zbo h k e 128=q at *;obtain⟨n,k1,e1⟩:=q;dsimp only at NC EQ NL;rw[show((128:Nat):Int)=128 from rfl] at NC;clear z;go_enter Tryz.func101,Tryz.ntmps101
 go_wp2_with fail
 go_at_call 100
 refine(za NC).mono ?_;rintro en V1 ⟨rfl,z1,g1⟩;have TC:=zaa (zil z1 n (by have:=za NL;omega));unfold zox at TC;have G1:=zaa g1;generalize zd7 h k1 e1 n=q2 at *;obtain⟨b,k2,e2⟩:=q2;dsimp only at TC EQ;clear z1 g1 NC
 go_wp2_with fail
 go_at_call 157
 refine(za TC).mono ?_;rintro en V2 ⟨sp,m,cc,rfl,pt,z2,g2⟩;have hcv:=za3 m cc pt.len pt.by_
 have FF:=zaa (show zmn R w p c h (zbp h k e) (.returned (.string (zaj b))) V2 from by
  rw[za EQ]
  exact⟨rfl,z2,zaf (za G1) g2⟩)
 clear z2 g2 pt TC EQ
 go_wp2
 go_ret
 exact za FF
theorem zuq (x q:Nat) (hq:q<256):x*256 ||| q=x*256+q:=by
 have:=Nat.two_pow_add_eq_or_of_lt (i:=8) (b:=q) hq x;rw[Nat.mul_comm] at this;exact this.symm
end
theorem zd4 (x:Nat) (w:World):(callFunc 91 #[.float .f64 x]).run Tryz.prog w=.ok (.value (.int .u64 (x:Int))) w:=by
 rw[run_callFunc_extern Tryz.func91 (by kernel_rfl) (by kernel_rfl) (by kernel_rfl) (e:=Extern.MathFloatBits.float64bits) (by kernel_rfl)];rfl
theorem zgu (x:Nat) (w:World):(callFunc 122 #[.int .u64 (x:Int)]).run Tryz.prog w=.ok (.value (.float .f64 x)) w:=by
 rw[run_callFunc_extern Tryz.func122 (by kernel_rfl) (by kernel_rfl) (by kernel_rfl) (e:=Extern.MathFloatBits.float64frombits) (by kernel_rfl)];rfl
def zjp (t:Tg):List Value:=[.string t.1,.float .f64 t.2]
def zcr (l:List Tg):List Value:=l.flatMap zjp
theorem zce (l:List Tg):(zcr l).length=l.length*2:=by
 induction l with
 |nil=>rfl
 |cons x xs ih =>
  simp only[zcr,List.flatMap_cons,List.length_append,List.length_cons] at ih ⊢;rw[ih,show(zjp x).length=2 from rfl];omega
theorem zgn:∀ (xs:List Tg) (i f:Nat) (hi:i<xs.length) (_:f<2),(zcr xs)[i*2+f]? = (zjp xs[i])[f]?
 |[],i,_,hi,_=>by simp at hi
 |x::xs,0,f,_,hf=>by
  simp only[zcr,List.flatMap_cons,Nat.zero_mul,Nat.zero_add,List.getElem_cons_zero];rw[List.getElem?_append_left (show f<(zjp x).length from hf)]
 |x::xs,i+1,f,hi,hf=>by
  have ih:=zgn xs i f (by simpa using hi) hf;simp only[zcr,List.flatMap_cons,List.getElem_cons_succ] at ih ⊢;rw[List.getElem?_append_right (by rw[show(zjp x).length=2 from rfl];omega)];have e4:(i+1)*2+f - (zjp x).length=i*2+f:=by rw[show(zjp x).length=2 from rfl];omega
  rw[e4];exact ih
theorem zbl (l:List Tg):∀ u∈zcr l,u.oneCell'=true:=by
 intro u hu;obtain⟨t,_,ht⟩:=List.mem_flatMap.1 hu;simp only[zjp,List.mem_cons,List.not_mem_nil,or_false] at ht;rcases ht with rfl|rfl <;> rfl
theorem ztb:(Tryz.prog.info? 70).map (fun i=>(i.zero,i.size,i.bytes))=some (some (.agg #[.string ByteArray.empty,.float .f64 0]),2,24):=by kernel_rfl
def zbq (base:Nat) (w:World) (sp:Option Addr) (c:Nat) (l:List Tg):Prop:=w.ownsRow base 70 2 (.slice sp l.length c) l.length (zcr l)
theorem zbq.ofNil (base:Nat) (w:World):zbq base w none 0 []:=w.ownsRow_nil base 70 2
theorem zbq.at_ {base:Nat} {w:World} {sp:Option Addr} {c:Nat} {l:List Tg} (h:zbq base w sp c l) (hl:∀ t∈l,t.2<18446744073709551616):TgsAt w sp l:=by
 refine⟨hl,fun i hi=>?_⟩;rcases h.2 with⟨hv,h0⟩|⟨g,cap,cur,hv,hb,hg,hle,hmx,hsz,ht⟩
 ·omega
 ·simp only[Value.slice.injEq] at hv;obtain⟨rfl,_,rfl⟩:=hv;refine⟨g,0,rfl,?_,?_⟩
  ·have hk:=zgn l i 0 hi (by omega);rw[Nat.zero_add,cell_of_row w g _ cur _ _ hg,← Array.getElem?_toList];have hj:i*2+0<l.length*2:=by omega
   rw[← ht,List.getElem?_take,if_pos hj] at hk;exact hk
  ·have hk:=zgn l i 1 hi (by omega);rw[Nat.zero_add,cell_of_row w g _ cur _ _ hg,← Array.getElem?_toList];have hj:i*2+1<l.length*2:=by omega
   rw[← ht,List.getElem?_take,if_pos hj] at hk;exact hk
theorem znr {base:Nat} {w:World} {sp:Option Addr} {c:Nat} {l:List Tg} (hown:zbq base w sp c l) (B:Nat) (ys:List Tg) (m:Nat) (hm:ys.length=m) (hB:w.heap[B]? = some (.cells (zcr ys).toArray 70 (0,0))) (hn:(l.length+m)*24≤140737488355328) (hbase:base≤w.heap.size) (ty:TypeId) :
  ∃ sp' c' w',(Builtin.append_ #[31,31] ty #[.slice sp l.length c,.slice (some ⟨B,0,none⟩) m m]).run Tryz.prog w=.ok (.slice sp' (l.length+m) c') w'∧zbq base w' sp' c' (l++ys)∧Below base w w':=by
 obtain⟨i0,hi,hz0,hz1,hz2⟩:=info_parts ztb;obtain⟨v',w',hrun,h1,h2,_,h5⟩:=run_append_own_at (P:=Tryz.prog) w base 31 ty 70 i0 _ 2 24 Tryz.underlying31 hi hz0 hz1 hz2 rfl (by omega) _ _ _ hown ⟨B,0,none⟩ m m (zcr ys) (by rw[zce,hm])
  (fun j u hu=>by have:=World.news_of_block hB j u;simp only at this;exact this hu) (zbl ys) (by simp only[maxLen];omega) (by omega) hbase
 have hv:∃ sp' c',v'=.slice sp' (l.length+m) c':=by
  rcases h1.2 with⟨hv,h0⟩|⟨g,cap,cur,hv,_⟩
  ·exact⟨none,0,by rw[hv,h0]⟩
  ·exact⟨_,_,hv⟩
 obtain⟨sp',c',rfl⟩:=hv;refine⟨sp',c',w',hrun,?_,(Below.refl base w).grown h2 hbase (fun g hg=>(hown.lt g hg).1)⟩;unfold zbq;rw[List.length_append,hm,show zcr (l++ys)=zcr l++zcr ys from by simp[zcr]];exact h1
theorem zfw {w:World} {ops:Array Oper} {rest:List Oper} {o:Oper} {a:Act} {Q:Exit→Act→World→Prop} (hgd:o.guard=none) (s x:Operand)
  (ho:o.op=.call { callee:=.builtin .append,args:=#[s,x],argTypes:=#[31,31] })
  (base:Nat) (sp:Option Addr) (n c:Nat) (l:List Tg) (hs:a.eval s=.slice sp n c) (hn:l.length=n) (hown:zbq base w sp c l) (B:Nat) (ys:List Tg) (m:Nat) (hm:ys.length=m) (hx:a.eval x=.slice (some ⟨B,0,none⟩) m m)
  (hB:w.heap[B]? = some (.cells (zcr ys).toArray 70 (0,0))) (hsz:(n+m)*24≤140737488355328) (hbase:base≤w.heap.size)
  (hk:∀ sp' c' w',zbq base w' sp' c' (l++ys)→Below base w w'→wpList Tryz.prog ops Q rest (a.put o.dst (.slice sp' (n+m) c')) w') :
  wpList Tryz.prog ops Q (o::rest) a w:=by
 subst hn;refine wpList_plain hgd fun K hK=>?_;obtain⟨sp',c',w',hrun,h1,h2⟩:=znr hown B ys m hm hB hsz hbase o.type;unfold Oper.wp;simp[execOp,ho,resolve,invoke,builtin,hs,hx,hrun,Result.andThen];exact hK _ _ (hk sp' c' w' h1 h2)
theorem zbq.below {base:Nat} {w w':World} {sp:Option Addr} {c:Nat} {l:List Tg} (h:zbq base w sp c l) (hb:Below w.heap.size w w'):zbq base w' sp c l:=by
 refine⟨h.1,?_⟩;rcases h.2 with hv|⟨g,cap,cur,hv,hbg,hg,r⟩
 ·exact .inl hv
 ·exact .inr ⟨g,cap,cur,hv,hbg,(hb.block g (Array.getElem?_eq_some_iff.1 hg).1).trans hg,r⟩
section
variable {R:Nat} {w w':World} {p:Option Addr} {c:Nat} {h:List Nat} {k e:Nat}
theorem zto (x q:Nat) (h:x<72057594037927936) (hq:q<256):bits .or .u64 ((x:Int)*256) (q:Int)=((x*256+q:Nat):Int):=by
 rw[← zuq x q hq,show(x:Int)*256=((x*256:Nat):Int) by omega];exact u64_or_nat (x*256) q (by omega) (by omega)
def zs2 (R:Nat) (w:World) (p:Option Addr) (c:Nat) (h:List Nat) (r:Nat×Nat×Nat) (en:Ending) (w':World):Prop:=en=.returned (.float .f64 r.1)∧KR R w' p c h r.2.1 r.2.2∧w.grownBy w' (some R)
theorem zj8 (h:List Nat) (k e n:Nat):(zd7 h k e n).1.length≤n:=by
 unfold zd7;split
 ·simp
 ·simp only[List.length_take];omega
theorem zkd (z:KR R w p c h k e):Calls Tryz.prog 158 #[.pointer (some ⟨R,0,none⟩)] w (zs2 R w p c h (wtK h k e)):=by
 have TC:=zaa (zil z 8 (by omega));unfold zox at TC;have EQ:=zaa (show wtK h k e=(zco (zd7 h k e 8).1,(zd7 h k e 8).2.1,(zd7 h k e 8).2.2) from rfl);have NL:=zaa (zj8 h k e 8);generalize zd7 h k e 8=q at *;obtain⟨b,k1,e1⟩:=q;dsimp only at TC EQ NL;rw[show((8:Nat):Int)=8 from rfl] at TC;have hfb:=zgu;clear z;go_enter Tryz.func158,Tryz.ntmps158
 go_wp2_with fail
 go_at_call 157
 refine(za TC).mono ?_;rintro en V1 ⟨sp,m,cc,rfl,pt,z1,g1⟩;have hm8:m≤8:=by have h1:=pt.len;have h2:=za NL;omega
 have BY:=zaa pt.by_;have HL:=zaa pt.len
 have FF:=zaa (show ∀ W,Below V1.heap.size V1 W→zs2 R w p c h (wtK h k e) (.returned (.float .f64 (zco b))) W from fun W u=>by
  rw[za EQ]
  exact⟨rfl,z1.later u,zaf g1 (zao u _)⟩)
 clear pt z1 g1 TC EQ NL
 go_wp2_with fail
 go_loopw [3,5,9] (fun x d i wr=>∃ j:Nat,j≤m∧x=.int .u64 ((zco (b.take j):Nat):Int)∧i=.int .i64 (j:Int)∧Hid (Below V1.heap.size V1 wr)) (fun _ _ i _=>m - (intOf i).toNat)
 case atStart=>exact⟨0,by omega,by simp[zco],rfl,zaa (Below.refl _ _)⟩
 case round =>
  obtain⟨j,hj,rfl,rfl,B⟩:=hrel;by_cases hjm:j<m
  ·have hjl:j<b.length:=by rw[za HL];exact hjm
   obtain⟨g,off,rfl,hc⟩:=(za BY).cell j hjl;have hc2:=cell_later (za B) hc;have HT:=zaa (zjv b j hjl);have hq:=(za BY).lt _ (List.getElem_mem hjl);rw[List.getD_eq_getElem?_getD,List.getElem?_eq_getElem hjl,Option.getD_some] at hc2;have hx:=zlm (b.take j) (fun c hc=>(za BY).lt c (List.mem_of_mem_take hc)) (by rw[List.length_take];omega);have y1:(j:Int)<(m:Int):=by omega
   have hj0:(0:Int)≤(j:Int):=by omega
   generalize b[j]=q at *;generalize hxx:zco (b.take j)=x at *;have hw1:IntKind.u64.wrap ((x:Int)*256)=(x:Int)*256:=by rw[IntKind.wrap_u64];omega
   have hw2:IntKind.u64.wrap (q:Int)=(q:Int):=by rw[IntKind.wrap_u64];omega
   have hor:=zto x q hx hq;have hj1:j+1≤m:=by omega
   clear hc hxx
   go_wp2
   exact⟨⟨j+1,hj1,by rw[za HT];simp,by go_num,B⟩,by simp[intOf];omega⟩
  ·have hjj:¬ (j:Int)<(m:Int):=by omega
   have E:b.take j=b:=List.take_of_length_le (by rw[za HL];omega);rw[E];have F:=zaa (za FF _ (za B));clear E
   go_wp2
   go_ret
   exact za F
end
section
variable {R:Nat} {w w':World} {p:Option Addr} {c:Nat} {h:List Nat} {k e:Nat}
theorem zam {a w':World} {o:Option Nat} (g:w.grownBy a o) (b:Below w.heap.size a w'):w.grownBy w' o :=
 ⟨b.os.trans g.os,b.tape.trans g.tape,b.output.trans g.output,Nat.le_trans g.size b.size,fun j hj hne=>(b.block j hj).trans (g.block j hj hne)⟩
theorem KR.lt (z:KR R w p c h k e):R<w.heap.size:=(Array.getElem?_eq_some_iff.1 z.row).1
theorem KR.kept {w0 a:World} {k0 e0:Nat} (z0:KR R w0 p c h k0 e0) (g:w0.grownBy a (some R)) (z:KR R a p c h k e) {b:World} (u:Below w0.heap.size a b):KR R b p c h k e :=
 ⟨(u.block R z0.lt).trans z.row,z0.by_.far0 (zam g u) (fun h0 b off e=>z0.ne h0 _ e),z.ne,z.kl,z.hl,z.hc,z.hm,z.hz⟩
theorem zbq.farK {base:Nat} {sp:Option Addr} {cc:Nat} {l:List Tg} (x:zbq base w sp cc l) (g:w.grownBy w' (some R)) (hR:R<base):zbq base w' sp cc l:=by
 refine⟨x.1,?_⟩;rcases x.2 with hv|⟨j,cap,cur,hv,hbg,hg,r⟩
 ·exact .inl hv
 ·exact .inr ⟨j,cap,cur,hv,hbg,(g.block j (Array.getElem?_eq_some_iff.1 hg).1 (fun e=>by have:=Option.some.inj e;omega)).trans hg,r⟩
theorem zbq.monoK {b b':Nat} {sp:Option Addr} {cc:Nat} {l:List Tg} (x:zbq b w sp cc l) (hb:b'≤b):zbq b' w sp cc l:=by
 refine⟨x.1,?_⟩;rcases x.2 with hv|⟨j,cap,cur,hv,hbg,r⟩
 ·exact .inl hv
 ·exact .inr ⟨j,cap,cur,hv,Nat.le_trans hb hbg,r⟩
def zsy (R:Nat) (w:World) (p:Option Addr) (c:Nat) (h:List Nat) (r:List Tg×Nat×Nat) (en:Ending) (w':World):Prop:=∃ sp n cc,en=.returned (.slice sp n cc)∧r.1.length=n∧zbq w.heap.size w' sp cc r.1∧(∀ t∈r.1,t.2<18446744073709551616)∧KR R w' p c h r.2.1 r.2.2∧w.grownBy w' (some R)
theorem zc0 (h:List Nat) (n k e:Nat):zgq h (n+1) k e=((tgK h k e).1::(zgq h n (tgK h k e).2.1 (tgK h k e).2.2).1,(zgq h n (tgK h k e).2.1 (tgK h k e).2.2).2):=rfl
theorem zu0 (hb:∀ c∈h,c<256) (k e:Nat):(wtK h k e).1<18446744073709551616:=by
 unfold wtK;refine zln _ (fun c hc=>?_) (zj8 h k e 8);unfold zd7 at hc;split at hc
 ·cases hc
 ·exact hb c (List.mem_of_mem_drop (List.mem_of_mem_take hc))
theorem zjl (z:KR R w p c h k e):Calls Tryz.prog 102 #[.pointer (some ⟨R,0,none⟩)] w (zsy R w p c h (zjf h k e)):=by
 have NC:=zaa (zcy z 16 (by omega));unfold zep at NC;have NL:=zaa (zdx h k e 16);have EQ:=zaa (show zjf h k e=zgq h (zbo h k e 16).1 (zbo h k e 16).2.1 (zbo h k e 16).2.2 from rfl);generalize zbo h k e 16=q at *;obtain⟨n,k1,e1⟩:=q;dsimp only at NC EQ NL;rw[show((16:Nat):Int)=16 from rfl] at NC;have Z0:=zaa z;have hR:=z.lt;have hsF:=zda .plain;have hn16:n≤16:=za NL;clear z;go_enter Tryz.func102,Tryz.ntmps102
 go_wp2_with fail
 go_at_call 100
 refine(za NC).mono ?_;rintro en V1 ⟨rfl,z1,g1⟩;have Z1:=zaa z1;have G1:=zaa g1;clear z1 g1 NC
 go_wp2_with fail
 go_loopw [3,4,7] (fun v s i wr=>∃ (j:Nat) (sp:Option Addr) (m cc:Nat) (acc:List Tg) (kj ej:Nat),j≤n∧v=.slice sp m cc∧i=.int .i64 (j:Int)∧Hid (acc.length=m)∧m=j∧Hid (zbq w.heap.size wr sp cc acc)∧Hid (∀ t∈acc,t.2<18446744073709551616)∧Hid (KR R wr p c h kj ej)∧Hid (w.grownBy wr (some R))∧Hid (zgq h n k1 e1=(acc++(zgq h (n - j) kj ej).1,(zgq h (n - j) kj ej).2))) (fun _ _ i _=>n - (intOf i).toNat)
 case atStart=>exact⟨0,none,0,0,[],k1,e1,by omega,rfl,rfl,zaa rfl,rfl,zaa (zbq.ofNil _ _),zaa (by simp),Z1,G1,zaa rfl⟩
 case round =>
  obtain⟨j,sp,m,cc,acc,kj,ej,hj,rfl,rfl,hl,rfl,O,LT,Z,G,E⟩:=hrel;by_cases hjm:m<n
  ·have y1:(m:Int)<(n:Int):=by omega
   have hj1:m+1≤n:=by omega
   have E2:=zaa (show zgq h n k1 e1=(acc++[(tgK h kj ej).1]++(zgq h (n - (m+1)) (tgK h kj ej).2.1 (tgK h kj ej).2.2).1,(zgq h (n - (m+1)) (tgK h kj ej).2.1 (tgK h kj ej).2.2).2) by
    rw[za E,show n - m=(n - (m+1))+1 by omega,zc0]
    simp)
   have TC:=zaa (zdc (za Z));unfold zmn at TC;have HB:=zaa (za Z).by_.lt;have ET:=zaa (show tgK h kj ej=((zaj (zbp h kj ej).1,(wtK h (zbp h kj ej).2.1 (zbp h kj ej).2.2).1),(wtK h (zbp h kj ej).2.1 (zbp h kj ej).2.2).2.1,(wtK h (zbp h kj ej).2.1 (zbp h kj ej).2.2).2.2) from rfl);generalize zbp h kj ej=q2 at *;obtain⟨tb,k2,e2⟩:=q2;dsimp only at TC ET
   go_wp2_with fail
   go_at_call 101
   refine(za TC).mono ?_;rintro en V2 ⟨rfl,z2,g2⟩;have G2:=zaa (zaf (za G) g2);have O2:=zaa ((za O).farK g2 hR);have WC:=zaa (zkd z2);unfold zs2 at WC;have WL:=zaa (zu0 (za HB) k2 e2);generalize wtK h k2 e2=q3 at *;obtain⟨x,k3,e3⟩:=q3;dsimp only at WC ET WL;generalize tgK h kj ej=q4 at *;have e4:=za ET;subst e4;dsimp only at E2;clear z2 g2 TC O G Z E ET;generalize zaj tb=s at *
   go_wp2_with fail
   go_at_call 158
   refine(za WC).mono ?_;rintro en V3 ⟨rfl,z3,g3⟩;have G3:=zaa (zaf (za G2) g3);have O3:=zaa ((za O2).farK g3 hR);have bA:=zaa (show Below V3.heap.size V3 (V3.alloc (.cells #[.string s,.float .f64 x] 70)) from(Below.refl _ _).alloc (Nat.le_refl _) _);have XA:=zaa (show(V3.alloc (.cells #[.string s,.float .f64 x] 70)).heap[V3.heap.size]? = some (.cells (zcr [(s,x)]).toArray 70 (0,0)) from zad V3 _);have OA:=zaa ((za O3).below (za bA));have G4:=zaa (zaf (za G3) (zao (za bA) (some R)));have Z4:=zaa (z3.later (za bA));have SZ:=zaa (Nat.le_trans (za G3).size (za bA).size);clear z3 g3 WC O2 G2
   go_wp2_with (at_builtin;refine zfw rfl (.tmp 11) (.tmp 16) rfl w.heap.size sp m cc acc rfl (za hl) (by exact za OA) V3.heap.size [(s,x)] 1 rfl rfl (by exact za XA) (by omega) (za SZ) ?_;intro sp2 c2 W2 ho2 hb2;have O5:=zaa ho2;have B5:=zaa hb2;clear ho2 hb2)
   have Z5:=zaa ((za Z0).kept (za G4) (za Z4) (za B5));have G5:=zaa (zam (za G4) (za B5));refine⟨⟨m+1,sp2,m+1,c2,acc++[(s,x)],k3,e3,hj1,rfl,by go_num,zaa (by rw[List.length_append,za hl];rfl),rfl,O5,zaa (fun t ht=>?_),Z5,G5,E2⟩,by simp[intOf];omega⟩;rcases List.mem_append.1 ht with ht|ht
   ·exact za LT t ht
   ·rw[List.mem_singleton.1 ht];exact za WL
  ·have y1:¬ (m:Int)<(n:Int):=by omega
   have FF:=zaa (show zsy R w p c h (zjf h k e) (.returned (.slice sp m cc)) wr from by
    have h0:n - m=0:=by omega
    have e5:=za E;rw[h0] at e5;simp only[zgq,List.append_nil] at e5;rw[za EQ,e5]
    exact⟨sp,m,cc,rfl,za hl,za O,za LT,za Z,za G⟩)
   clear E O Z G
   go_wp2
   go_ret
   exact za FF
end
theorem zkl (n:Nat) (w:World) (hn:n≤1099511627776) :
  Calls Tryz.prog 129 #[.int .i64 (n:Int)] w fun e w'=>∃ sp n' c',e=.returned (.tuple #[.slice sp n' c',.int .i64 0])∧Hid ((zal n).length=n')∧OwnB w.heap.size w' sp c' (zal n)∧Below w.heap.size w w':=by
 have HLen:=zaa (show(zal n).length≤2199023255553 by have:=(zcm n).2;omega);have o1:=zaa (OwnB.empty w w.heap.size (Nat.le_refl _));have b1:=zaa (show Below w.heap.size w (w.alloc (.cells #[] 5)) from(Below.refl _ _).alloc (Nat.le_refl _) _);go_enter Tryz.func129,Tryz.ntmps129
 go_wp2
 go_loopw [0,4] (fun i v wr=>∃ (sp':Option Addr) (n' c':Nat) (l':List Nat) (m:Nat),m≤1099511627776∧v=.slice sp' n' c'∧i=.int .i64 (m:Int)∧Hid (l'.length=n')∧Hid (OwnB w.heap.size wr sp' c' l')∧Hid (l'++zal m=zal n)∧Hid (Below w.heap.size w wr)) (fun i _ _=>(intOf i).toNat)
 case atStart=>exact⟨_,0,0,[],n,hn,rfl,rfl,rfl,za o1,by simp[Hid],za b1⟩
 case round =>
  obtain⟨sp',n',c',l',m,hm,rfl,rfl,hl',ho',heq,hbw⟩:=hrel
  have hlen':=zaa (show l'.length+1≤140737488355328 by
   have h1:=za HLen;rw[← za heq,List.length_append] at h1;have:=(zcm m).1
   omega)
  have hbr:=zaa (show w.heap.size≤wr.heap.size from(za hbw).size);by_cases h128:m<128
  ·have hlit:=zaa (zbx (l:=[m]) (zad wr (.cells #[.int .u8 (m:Int)] 5)) (by intro c hc;simp only[List.mem_cons,List.not_mem_nil,or_false] at hc;omega));have bA:=zaa (show Below wr.heap.size wr (wr.alloc (.cells #[.int .u8 (m:Int)] 5)) from(Below.refl _ _).alloc (Nat.le_refl _) _);have heq':=zaa (show l'++[m]=zal n by rw[← za heq,zcn h128]);have hmod:(m:Int) % 128=(m:Int):=by omega
   have hdiv:(m:Int) / 128=0:=by omega
   go_wp2_with (at_builtin;refine zfv rfl (.tmp 19) (.tmp 22) rfl w.heap.size sp' n' c' l' rfl (za hl') (by exact(za ho').later (za bA)) (some ⟨wr.heap.size,0,none⟩) 1 1 rfl [m] rfl (by exact za hlit) (fun h=>by cases h) (za hlen') (by exact Nat.le_trans (za hbr) (za bA).size) ?_;intro sp2 n2 c2 W2 hn2 ho2 hg2 hb2)
   rw[za heq'] at hn2 ho2
   go_ret2
   exact⟨sp2,n2,c2,rfl,hn2,ho2,((za hbw).trans ((za bA).mono (za hbr))).trans hb2⟩
  ·obtain⟨q,hq⟩:∃ q,q=m % 128+128:=⟨_,rfl⟩
   obtain⟨d,hd⟩:∃ d,d=m / 128:=⟨_,rfl⟩
   have hlit:=zaa (zbx (l:=[q]) (zad wr (.cells #[.int .u8 (q:Int)] 5)) (by intro c hc;simp only[List.mem_cons,List.not_mem_nil,or_false] at hc;omega));have bA:=zaa (show Below wr.heap.size wr (wr.alloc (.cells #[.int .u8 (q:Int)] 5)) from(Below.refl _ _).alloc (Nat.le_refl _) _);have heq':=zaa (show l'++[q]++zal d=zal n by rw[← za heq,zc8 h128,hq,hd,List.append_assoc];rfl);have hmod:(m:Int) % 128+128=(q:Int):=by omega
   have hdiv:(m:Int) / 128=(d:Int):=by omega
   have hd0:¬ (d:Int)=0:=by omega
   have hq256:(q:Int)<256:=by omega
   have HD:=zaa hd;have HQ:=zaa hq;clear hd hq
   go_wp2_with (at_builtin;refine zfv rfl (.tmp 24) (.tmp 28) rfl w.heap.size sp' n' c' l' rfl (za hl') (by exact(za ho').later (za bA)) (some ⟨wr.heap.size,0,none⟩) 1 1 rfl [q] rfl (by exact za hlit) (fun h=>by cases h) (za hlen') (by exact Nat.le_trans (za hbr) (za bA).size) ?_;intro sp2 n2 c2 W2 hn2 ho2 hg2 hb2)
   have hbn:=((za hbw).trans ((za bA).mono (za hbr))).trans hb2;exact⟨⟨sp2,n2,c2,l'++[q],d,by have:=za HD;omega,rfl,rfl,hn2,ho2,za heq',hbn⟩,by have:=za HD;simp[intOf];omega⟩
end
end Go.Proofs.YtjcjleaicjhpeaaGreatDoor
