/- Conf: the program's reader: take, end. -/
import Derived.Test.YtjcjleaicjhpeaaGreatDoorB03
import Derived.Deep.QuietTactic
import Derived.BigQuiet
import Derived.Test.YtjcjleaicjhpeaaGreatDoorB02
import Derived.Maps.AppendAt
import Derived.Deep.RegionLaw
import Derived.Laws.BitsAllLaws
import Derived.Test.YtjcjleaicjhpeaaGreatDoorB01
set_option linter.unusedVariables false
set_option maxRecDepth 20000
set_option maxHeartbeats 16000000
namespace Go.Proofs.YtjcjleaicjhpeaaGreatDoor
section
open Go.ChangeShapes Go.WideShapes Go.ChangeAt Go.RowKit
section
variable {R:Nat} {w w':World} {p:Option Addr} {c:Nat} {h:List Nat} {k e:Nat}
structure PartK (R:Nat) (w:World) (p sp:Option Addr) (m cc:Nat) (b:List Nat):Prop where
 len:b.length=m
 cap:m≤cc
 mx:cc≤maxLen
 by_:BytesAt w sp b
 nz:sp=none→cc=0
 of:∀ ad,sp=some ad→∃ ad',p=some ad'∧ad'.block=ad.block
theorem PartK.nil (R:Nat) (w:World) (p:Option Addr):PartK R w p none 0 0 []:=⟨rfl,Nat.le_refl _,by simp,⟨by simp,fun i hi=>by simp at hi⟩,fun _=>rfl,fun ad e=>by cases e⟩
theorem zs0 {p:Option Addr} {k c:Nat} : ∀ ad,slp p k c=some ad→∃ ad',p=some ad'∧ad'.block=ad.block:=by
 intro ad e;unfold slp at e;split at e
 ·exact⟨ad,e,rfl⟩
 ·cases p with
  |none=>cases e
  |some a' =>
   simp only[Option.map_some,Option.some.injEq] at e;refine⟨a',rfl,?_⟩;rw[← e];unfold Addr.add;split <;> rfl
theorem zqn {p:Option Addr} {k c:Nat} (h:slp p k c=none) (hz:p=none→c=0):c - k=0:=by
 unfold slp at h;split at h
 ·omega
 ·cases p with
  |none=>have:=hz rfl;omega
  |some ad=>cases h
def zn5 (R:Nat) (w:World) (p:Option Addr) (c:Nat) (h:List Nat) (r:List Nat×Nat×Nat) (en:Ending) (w':World):Prop:=∃ sp m cc,en=.returned (.slice sp m cc)∧PartK R w' p sp m cc r.1∧KR R w' p c h r.2.1 r.2.2∧w.grownBy w' (some R)
theorem zid (z:KR R w p c h k e) (n:Nat) (hn:n≤1099511627776):Calls Tryz.prog 157 #[.pointer (some ⟨R,0,none⟩),.int .i64 (n:Int)] w (zn5 R w p c h (zh5 h k e n)):=by
 have hkl:=z.kl;have hhl:=z.hl;simp only[maxLen] at hhl;have c0:=z.c0;have c1:=z.c1;have hwr:IntKind.i64.wrap ((h.length:Int) - (k:Int))=((h.length - k:Nat):Int):=by rw[IntKind.wrap_i64];omega
 by_cases hs:h.length - k<n
 ·have s1:((h.length - k:Nat):Int)<(n:Int):=by omega
  have s2:decide (((h.length - k:Nat):Int)<(n:Int))=true:=decide_eq_true s1;have FC:=zaa (fun W (u:Below w.heap.size w W)=>ze (z.later u) 3)
  have EQ:=zaa (show zh5 h k e n=([],k,zd9 e 3) by
   have:zd9 e 3≠0:=by unfold zd9;split <;> omega
   simp[zh5,zsl,hs,this])
  have HF:=zaa (show zd9 e 3≠0 by unfold zd9;split <;> omega);generalize h.length - k=d at *;generalize hL:h.length=L at *;clear z hs;go_enter Tryz.func157,Tryz.ntmps157
  go_wp2_with fail
  go_quiet (fail)
  go_wp2_with fail
  go_at_call 99
  refine(za FC _ (_root_.Go.below_drewN (Below.refl _ _) _)).mono ?_;rintro en V1 ⟨rfl,z1,g1⟩;have d2:=z1.c2;have x1:¬ ((zd9 e 3:Nat):Int)=0:=by have:=za HF;omega
  have x2:(((zd9 e 3:Nat):Int)==0)=false:=by simp[za HF]
  have FF:=zaa (show zn5 R w p c h (zh5 h k e n) (.returned (.slice none 0 0)) V1 from by
   rw[za EQ]
   exact⟨none,0,0,rfl,PartK.nil _ _ _,z1,zaj (za5 (_root_.Go.below_drewN (Below.refl _ _) _) _) g1⟩)
  clear z1 g1 FC EQ HF;generalize ((zd9 e 3:Nat):Int)=ei at *
  go_wp2
  go_ret
  exact za FF
 ·have s1:¬ ((h.length - k:Nat):Int)<(n:Int):=by omega
  have s2:decide (((h.length - k:Nat):Int)<(n:Int))=false:=decide_eq_false s1;have Z:=zaa z;by_cases he:e=0
  ·subst he;have hsl:∀ u,(Instr.slice 50 (.slice p h.length c) (some (.int .i64 (k:Int))) (some (.int .i64 ((k:Int)+(n:Int)))) none).run Tryz.prog u=.ok (.slice (slp p k c) n (c - k)) u:=fun u=>by
    have:=zkb p h.length c k (k+n) (by omega) (by have:=z.hc;omega) u;rw[Nat.add_sub_cancel_left] at this;rw[← this,Int.natCast_add]
   have hadd:IntKind.i64.wrap ((k:Int)+(n:Int))=(k:Int)+(n:Int):=by rw[IntKind.wrap_i64];omega
   have FF:=zaa (show ∀ W,Below w.heap.size w W→∀ j,zn5 R w p c h (zh5 h k 0 n) (.returned (.slice (slp p k c) n (c - k))) ((W.setCell ⟨R,1,none⟩ (.int .i64 ((k:Int)+(n:Int)))).drewN j) from fun W u j=>by
    have eq:zh5 h k 0 n=((h.drop k).take n,k+n,0):=by simp[zh5,zsl,hs]
    have z2:=((z.later u).setK (k+n) (by omega)).later (_root_.Go.below_drewN (Below.refl _ _) j);rw[Int.natCast_add] at z2;rw[eq];refine⟨_,_,_,rfl,⟨by dsimp only;rw[List.length_take,List.length_drop];omega,by have:=z.hc;omega,by have:=z.hm;omega,(z2.by_.drop k c z.hc).take n,fun hq=>zqn hq z.hz,zs0⟩,z2,?_⟩;have:=zaj (zaj (za5 u (some R)) (zb0 W R 1 (.int .i64 ((k:Int)+(n:Int))))) (za5 (_root_.Go.below_drewN (Below.refl _ _) j) (some R))
    exact this)
   have CL:=zaa (show ∀ W,Below w.heap.size w W→W.cell? ⟨R,1,none⟩=some (.int .i64 (k:Int))∧W.cell? ⟨R,2,none⟩=some (.int .i64 0)∧W.frozen? ⟨R,1,none⟩=false∧(W.setCell ⟨R,1,none⟩ (.int .i64 ((k:Int)+(n:Int)))).cell? ⟨R,0,none⟩=some (.slice p h.length c)∧(W.setCell ⟨R,1,none⟩ (.int .i64 ((k:Int)+(n:Int)))).cell? ⟨R,1,none⟩=some (.int .i64 ((k:Int)+(n:Int))) from fun W u=>by
    have z1:=z.later u;have z2:=z1.setK (k+n) (by omega);rw[Int.natCast_add] at z2;have h1:=z2.c1;rw[Int.natCast_add] at h1
    exact⟨z1.c1,z1.c2,z1.froz 1,z2.c0,h1⟩)
   generalize hL:h.length=L at *;generalize L - k=d at *;clear z hs Z;go_enter Tryz.func157,Tryz.ntmps157
   go_wp2_with fail
   go_quiet (fail)
   obtain⟨b1,b2,b3,b4,b5⟩:=za CL _ (_root_.Go.below_drewN (Below.refl w.heap.size w) nq);have F1:=zaa (za FF _ (_root_.Go.below_drewN (Below.refl w.heap.size w) nq));generalize slp p k c=q at *;generalize w.drewN nq=W1 at *
   go_wp2_with fail
   go_quiet (fail)
   go_wp2
   go_ret
   exact za F1 _
  ·have FF:=zaa (show ∀ j,zn5 R w p c h (zh5 h k e n) (.returned (.slice none 0 0)) (w.drewN j) from fun j=>by
    have eq:zh5 h k e n=([],k,e):=by simp[zh5,zsl,hs,he]
    rw[eq]
    exact⟨none,0,0,rfl,PartK.nil _ _ _,z.later (_root_.Go.below_drewN (Below.refl _ _) j),za5 (_root_.Go.below_drewN (Below.refl _ _) j) _⟩)
   have c2:=z.c2;have x1:¬ (e:Int)=0:=by omega
   have x2:((e:Int)==0)=false:=by simp[he]
   have D2:=zaa (show ∀ j,(w.drewN j).cell? ⟨R,2,none⟩=some (.int .i64 (e:Int)) from fun j=>(z.later (_root_.Go.below_drewN (Below.refl _ _) j)).c2);generalize hL:h.length=L at *;generalize L - k=d at *;clear z hs he Z c2;generalize (e:Int)=ei at *;go_enter Tryz.func157,Tryz.ntmps157
   go_wp2_with fail
   go_quiet (fail)
   have d2:=za D2 nq;have F1:=zaa (za FF nq);generalize w.drewN nq=W1 at *
   go_wp2
   go_ret
   exact za F1
theorem zog (z:KR R w p c h k e):Calls Tryz.prog 58 #[.pointer (some ⟨R,0,none⟩)] w fun en w'=>en=.returned (.tuple #[])∧KR R w' p c h k (zm h k e)∧w.grownBy w' (some R):=by
 have c0:=z.c0;have c1:=z.c1;by_cases hk:k<h.length
 ·have s1:(k:Int)<(h.length:Int):=by omega
  have s2:decide ((k:Int)<(h.length:Int))=true:=decide_eq_true s1;have FC:=zaa (fun W (u:Below w.heap.size w W)=>ze (z.later u) 4);have EQ:=zaa (show zm h k e=zd9 e 4 by unfold zm;rw[if_pos hk]);generalize hL:h.length=L at *;clear z hk;go_enter Tryz.func58,Tryz.ntmps58
  go_wp2_with fail
  go_quiet (fail)
  go_wp2_with fail
  go_at_call 99
  refine(za FC _ (_root_.Go.below_drewN (Below.refl _ _) _)).mono ?_;rintro en V1 ⟨rfl,z1,g1⟩
  have FF:=zaa (show KR R V1 p c h k (zm h k e)∧w.grownBy V1 (some R) from by
   rw[za EQ]
   exact⟨z1,zaj (za5 (_root_.Go.below_drewN (Below.refl _ _) _) _) g1⟩)
  clear z1 g1 FC EQ
  go_wp2
  go_end0
  exact⟨rfl,za FF⟩
 ·have s1:¬ (k:Int)<(h.length:Int):=by omega
  have s2:decide ((k:Int)<(h.length:Int))=false:=decide_eq_false s1
  have FF:=zaa (show ∀ j,KR R (w.drewN j) p c h k (zm h k e)∧w.grownBy (w.drewN j) (some R) from fun j=>by
   rw[show zm h k e=e by unfold zm;rw[if_neg hk]]
   exact⟨z.later (_root_.Go.below_drewN (Below.refl _ _) j),za5 (_root_.Go.below_drewN (Below.refl _ _) j) _⟩)
  generalize hL:h.length=L at *;clear z hk;go_enter Tryz.func58,Tryz.ntmps58
  go_wp2_with fail
  go_quiet (fail)
  go_wp2
  go_end0
  exact⟨rfl,za FF _⟩
end
section
variable {R:Nat} {w w':World} {p:Option Addr} {c:Nat} {h:List Nat} {k e:Nat}
theorem zcp (z:KR R w p c h k e) (m:Nat) (hm:m≤1000):Calls Tryz.prog 100 #[.pointer (some ⟨R,0,none⟩),.int .i64 (m:Int)] w (zen R w p c h (zcu h k e m)):=by
 have NC:=zaa (zbv z);unfold zen at NC;have EQ:=zaa (show zcu h k e m=if m<(zem h k e).1 then (0,(zem h k e).2.1,zd9 (zem h k e).2.2 6) else zem h k e from rfl);generalize zem h k e=q at *;obtain⟨n,k1,e1⟩:=q;dsimp only at NC EQ;clear z;by_cases hn:m<n
 ·have y1:(m:Int)<(n:Int):=by omega
  have y2:decide ((m:Int)<(n:Int))=true:=decide_eq_true y1;rw[if_pos hn] at EQ;go_enter Tryz.func100,Tryz.ntmps100
  go_wp2_with fail
  go_at_call 54
  refine(za NC).mono ?_;rintro en V1 ⟨rfl,z1,g1⟩;have FC:=zaa (ze z1 6);have G1:=zaa g1;clear z1 g1 NC
  go_wp2_with fail
  go_at_call 99
  refine(za FC).mono ?_;rintro en V2 ⟨rfl,z2,g2⟩
  have FF:=zaa (show zen R w p c h (zcu h k e m) (.returned (.int .i64 0)) V2 from by
   rw[za EQ]
   exact⟨rfl,z2,zaj (za G1) g2⟩)
  clear z2 g2
  go_wp2
  go_ret
  exact za FF
 ·have y1:¬ (m:Int)<(n:Int):=by omega
  have y2:decide ((m:Int)<(n:Int))=false:=decide_eq_false y1;rw[if_neg hn] at EQ;go_enter Tryz.func100,Tryz.ntmps100
  go_wp2_with fail
  go_at_call 54
  refine(za NC).mono ?_;rintro en V1 ⟨rfl,z1,g1⟩
  have FF:=zaa (show zen R w p c h (zcu h k e m) (.returned (.int .i64 (n:Int))) V1 from by
   rw[za EQ]
   exact⟨rfl,z1,g1⟩)
  clear z1 g1 NC EQ
  go_wp2
  go_ret
  exact za FF
def zlz (R:Nat) (w:World) (p:Option Addr) (c:Nat) (h:List Nat) (r:List Nat×Nat×Nat) (en:Ending) (w':World):Prop:=en=.returned (.string (zdd r.1))∧KR R w' p c h r.2.1 r.2.2∧w.grownBy w' (some R)
theorem zc8 (z:KR R w p c h k e):Calls Tryz.prog 101 #[.pointer (some ⟨R,0,none⟩)] w (zlz R w p c h (zcv h k e)):=by
 have NC:=zaa (zcp z 128 (by omega));unfold zen at NC;have NL:=zaa (zdr h k e 128);have EQ:=zaa (show zcv h k e=zh5 h (zcu h k e 128).2.1 (zcu h k e 128).2.2 (zcu h k e 128).1 from rfl);generalize zcu h k e 128=q at *;obtain⟨n,k1,e1⟩:=q;dsimp only at NC EQ NL;rw[show((128:Nat):Int)=128 from rfl] at NC;clear z;go_enter Tryz.func101,Tryz.ntmps101
 go_wp2_with fail
 go_at_call 100
 refine(za NC).mono ?_;rintro en V1 ⟨rfl,z1,g1⟩;have TC:=zaa (zid z1 n (by have:=za NL;omega));unfold zn5 at TC;have G1:=zaa g1;generalize zh5 h k1 e1 n=q2 at *;obtain⟨b,k2,e2⟩:=q2;dsimp only at TC EQ;clear z1 g1 NC
 go_wp2_with fail
 go_at_call 157
 refine(za TC).mono ?_;rintro en V2 ⟨sp,m,cc,rfl,pt,z2,g2⟩;have hcv:=za0 m cc pt.len pt.by_
 have FF:=zaa (show zlz R w p c h (zcv h k e) (.returned (.string (zdd b))) V2 from by
  rw[za EQ]
  exact⟨rfl,z2,zaj (za G1) g2⟩)
 clear z2 g2 pt TC EQ
 go_wp2
 go_ret
 exact za FF
theorem ztz (x q:Nat) (hq:q<256):x*256 ||| q=x*256+q:=by
 have:=Nat.two_pow_add_eq_or_of_lt (i:=8) (b:=q) hq x;rw[Nat.mul_comm] at this;exact this.symm
end
theorem zdu (x:Nat) (w:World):(callFunc 91 #[.float .f64 x]).run Tryz.prog w=.ok (.value (.int .u64 (x:Int))) w:=by
 rw[run_callFunc_extern Tryz.func91 (by kernel_rfl) (by kernel_rfl) (by kernel_rfl) (e:=Extern.MathFloatBits.float64bits) (by kernel_rfl)];rfl
theorem zi4 (x:Nat) (w:World):(callFunc 122 #[.int .u64 (x:Int)]).run Tryz.prog w=.ok (.value (.float .f64 x)) w:=by
 rw[run_callFunc_extern Tryz.func122 (by kernel_rfl) (by kernel_rfl) (by kernel_rfl) (e:=Extern.MathFloatBits.float64frombits) (by kernel_rfl)];rfl
def zi1 (t:Tg):List Value:=[.string t.1,.float .f64 t.2]
def zee (l:List Tg):List Value:=l.flatMap zi1
theorem zcs (l:List Tg):(zee l).length=l.length*2:=by
 induction l with
 |nil=>rfl
 |cons x xs ih =>
  simp only[zee,List.flatMap_cons,List.length_append,List.length_cons] at ih ⊢;rw[ih,show(zi1 x).length=2 from rfl];omega
theorem zgn:∀ (xs:List Tg) (i f:Nat) (hi:i<xs.length) (_:f<2),(zee xs)[i*2+f]? = (zi1 xs[i])[f]?
 |[],i,_,hi,_=>by simp at hi
 |x::xs,0,f,_,hf=>by
  simp only[zee,List.flatMap_cons,Nat.zero_mul,Nat.zero_add,List.getElem_cons_zero];rw[List.getElem?_append_left (show f<(zi1 x).length from hf)]
 |x::xs,i+1,f,hi,hf=>by
  have ih:=zgn xs i f (by simpa using hi) hf;simp only[zee,List.flatMap_cons,List.getElem_cons_succ] at ih ⊢;rw[List.getElem?_append_right (by rw[show(zi1 x).length=2 from rfl];omega)];have e4:(i+1)*2+f - (zi1 x).length=i*2+f:=by rw[show(zi1 x).length=2 from rfl];omega
  rw[e4];exact ih
theorem zfk (l:List Tg):∀ u∈zee l,u.oneCell'=true:=by
 intro u hu;obtain⟨t,_,ht⟩:=List.mem_flatMap.1 hu;simp only[zi1,List.mem_cons,List.not_mem_nil,or_false] at ht;rcases ht with rfl|rfl <;> rfl
theorem zq7:(Tryz.prog.info? 70).map (fun i=>(i.zero,i.size,i.bytes))=some (some (.agg #[.string ByteArray.empty,.float .f64 0]),2,24):=by kernel_rfl
def zcm (base:Nat) (w:World) (sp:Option Addr) (c:Nat) (l:List Tg):Prop:=w.ownsRow base 70 2 (.slice sp l.length c) l.length (zee l)
theorem zcm.ofNil (base:Nat) (w:World):zcm base w none 0 []:=w.ownsRow_nil base 70 2
theorem zcm.at_ {base:Nat} {w:World} {sp:Option Addr} {c:Nat} {l:List Tg} (h:zcm base w sp c l) (hl:∀ t∈l,t.2<18446744073709551616):TgsAt w sp l:=by
 refine⟨hl,fun i hi=>?_⟩;rcases h.2 with⟨hv,h0⟩|⟨g,cap,cur,hv,hb,hg,hle,hmx,hsz,ht⟩
 ·omega
 ·simp only[Value.slice.injEq] at hv;obtain⟨rfl,_,rfl⟩:=hv;refine⟨g,0,rfl,?_,?_⟩
  ·have hk:=zgn l i 0 hi (by omega);rw[Nat.zero_add,cell_of_row w g _ cur _ _ hg,← Array.getElem?_toList];have hj:i*2+0<l.length*2:=by omega
   rw[← ht,List.getElem?_take,if_pos hj] at hk;exact hk
  ·have hk:=zgn l i 1 hi (by omega);rw[Nat.zero_add,cell_of_row w g _ cur _ _ hg,← Array.getElem?_toList];have hj:i*2+1<l.length*2:=by omega
   rw[← ht,List.getElem?_take,if_pos hj] at hk;exact hk
theorem zmu {base:Nat} {w:World} {sp:Option Addr} {c:Nat} {l:List Tg} (hown:zcm base w sp c l) (B:Nat) (ys:List Tg) (m:Nat) (hm:ys.length=m) (hB:w.heap[B]? = some (.cells (zee ys).toArray 70 (0,0))) (hn:(l.length+m)*24≤140737488355328) (hbase:base≤w.heap.size) (ty:TypeId) :
  ∃ sp' c' w',(Builtin.append_ #[31,31] ty #[.slice sp l.length c,.slice (some ⟨B,0,none⟩) m m]).run Tryz.prog w=.ok (.slice sp' (l.length+m) c') w'∧zcm base w' sp' c' (l++ys)∧Below base w w':=by
 obtain⟨i0,hi,hz0,hz1,hz2⟩:=info_parts zq7;obtain⟨v',w',hrun,h1,h2,_,h5⟩:=run_append_own_at (P:=Tryz.prog) w base 31 ty 70 i0 _ 2 24 Tryz.underlying31 hi hz0 hz1 hz2 rfl (by omega) _ _ _ hown ⟨B,0,none⟩ m m (zee ys) (by rw[zcs,hm])
  (fun j u hu=>by have:=World.news_of_block hB j u;simp only at this;exact this hu) (zfk ys) (by simp only[maxLen];omega) (by omega) hbase
 have hv:∃ sp' c',v'=.slice sp' (l.length+m) c':=by
  rcases h1.2 with⟨hv,h0⟩|⟨g,cap,cur,hv,_⟩
  ·exact⟨none,0,by rw[hv,h0]⟩
  ·exact⟨_,_,hv⟩
 obtain⟨sp',c',rfl⟩:=hv;refine⟨sp',c',w',hrun,?_,(Below.refl base w).grown h2 hbase (fun g hg=>(hown.lt g hg).1)⟩;unfold zcm;rw[List.length_append,hm,show zee (l++ys)=zee l++zee ys from by simp[zee]];exact h1
theorem zi2 {w:World} {ops:Array Oper} {rest:List Oper} {o:Oper} {a:Act} {Q:Exit→Act→World→Prop} (hgd:o.guard=none) (s x:Operand)
  (ho:o.op=.call { callee:=.builtin .append,args:=#[s,x],argTypes:=#[31,31] })
  (base:Nat) (sp:Option Addr) (n c:Nat) (l:List Tg) (hs:a.eval s=.slice sp n c) (hn:l.length=n) (hown:zcm base w sp c l) (B:Nat) (ys:List Tg) (m:Nat) (hm:ys.length=m) (hx:a.eval x=.slice (some ⟨B,0,none⟩) m m)
  (hB:w.heap[B]? = some (.cells (zee ys).toArray 70 (0,0))) (hsz:(n+m)*24≤140737488355328) (hbase:base≤w.heap.size)
  (hk:∀ sp' c' w',zcm base w' sp' c' (l++ys)→Below base w w'→wpList Tryz.prog ops Q rest (a.put o.dst (.slice sp' (n+m) c')) w') :
  wpList Tryz.prog ops Q (o::rest) a w:=by
 subst hn;refine wpList_plain hgd fun K hK=>?_;obtain⟨sp',c',w',hrun,h1,h2⟩:=zmu hown B ys m hm hB hsz hbase o.type;unfold Oper.wp;simp[execOp,ho,resolve,invoke,builtin,hs,hx,hrun,Result.andThen];exact hK _ _ (hk sp' c' w' h1 h2)
theorem zcm.below {base:Nat} {w w':World} {sp:Option Addr} {c:Nat} {l:List Tg} (h:zcm base w sp c l) (hb:Below w.heap.size w w'):zcm base w' sp c l:=by
 refine⟨h.1,?_⟩;rcases h.2 with hv|⟨g,cap,cur,hv,hbg,hg,r⟩
 ·exact .inl hv
 ·exact .inr ⟨g,cap,cur,hv,hbg,(hb.block g (Array.getElem?_eq_some_iff.1 hg).1).trans hg,r⟩
section
variable {R:Nat} {w w':World} {p:Option Addr} {c:Nat} {h:List Nat} {k e:Nat}
theorem zsv (x q:Nat) (h:x<72057594037927936) (hq:q<256):bits .or .u64 ((x:Int)*256) (q:Int)=((x*256+q:Nat):Int):=by
 rw[← ztz x q hq,show(x:Int)*256=((x*256:Nat):Int) by omega];exact u64_or_nat (x*256) q (by omega) (by omega)
def zsd (R:Nat) (w:World) (p:Option Addr) (c:Nat) (h:List Nat) (r:Nat×Nat×Nat) (en:Ending) (w':World):Prop:=en=.returned (.float .f64 r.1)∧KR R w' p c h r.2.1 r.2.2∧w.grownBy w' (some R)
theorem zjv (h:List Nat) (k e n:Nat):(zh5 h k e n).1.length≤n:=by
 unfold zh5;split
 ·simp
 ·simp only[List.length_take];omega
theorem zj0 (z:KR R w p c h k e):Calls Tryz.prog 158 #[.pointer (some ⟨R,0,none⟩)] w (zsd R w p c h (wtK h k e)):=by
 have TC:=zaa (zid z 8 (by omega));unfold zn5 at TC;have EQ:=zaa (show wtK h k e=(zep (zh5 h k e 8).1,(zh5 h k e 8).2.1,(zh5 h k e 8).2.2) from rfl);have NL:=zaa (zjv h k e 8);generalize zh5 h k e 8=q at *;obtain⟨b,k1,e1⟩:=q;dsimp only at TC EQ NL;rw[show((8:Nat):Int)=8 from rfl] at TC;have hfb:=zi4;clear z;go_enter Tryz.func158,Tryz.ntmps158
 go_wp2_with fail
 go_at_call 157
 refine(za TC).mono ?_;rintro en V1 ⟨sp,m,cc,rfl,pt,z1,g1⟩;have hm8:m≤8:=by have h1:=pt.len;have h2:=za NL;omega
 have BY:=zaa pt.by_;have HL:=zaa pt.len
 have FF:=zaa (show ∀ W,Below V1.heap.size V1 W→zsd R w p c h (wtK h k e) (.returned (.float .f64 (zep b))) W from fun W u=>by
  rw[za EQ]
  exact⟨rfl,z1.later u,zaj g1 (za5 u _)⟩)
 clear pt z1 g1 TC EQ NL
 go_wp2_with fail
 go_loopw [3,5,9] (fun x d i wr=>∃ j:Nat,j≤m∧x=.int .u64 ((zep (b.take j):Nat):Int)∧i=.int .i64 (j:Int)∧Hid (Below V1.heap.size V1 wr)) (fun _ _ i _=>m - (intOf i).toNat)
 case atStart=>exact⟨0,by omega,by simp[zep],rfl,zaa (Below.refl _ _)⟩
 case round =>
  obtain⟨j,hj,rfl,rfl,B⟩:=hrel;by_cases hjm:j<m
  ·have hjl:j<b.length:=by rw[za HL];exact hjm
   obtain⟨g,off,rfl,hc⟩:=(za BY).cell j hjl;have hc2:=cell_later (za B) hc;have HT:=zaa (zor b j hjl);have hq:=(za BY).lt _ (List.getElem_mem hjl);rw[List.getD_eq_getElem?_getD,List.getElem?_eq_getElem hjl,Option.getD_some] at hc2;have hx:=zp9 (b.take j) (fun c hc=>(za BY).lt c (List.mem_of_mem_take hc)) (by rw[List.length_take];omega);have y1:(j:Int)<(m:Int):=by omega
   have hj0:(0:Int)≤(j:Int):=by omega
   generalize b[j]=q at *;generalize hxx:zep (b.take j)=x at *;have hw1:IntKind.u64.wrap ((x:Int)*256)=(x:Int)*256:=by rw[IntKind.wrap_u64];omega
   have hw2:IntKind.u64.wrap (q:Int)=(q:Int):=by rw[IntKind.wrap_u64];omega
   have hor:=zsv x q hx hq;have hj1:j+1≤m:=by omega
   clear hc hxx
   go_wp2
   exact⟨⟨j+1,hj1,by rw[za HT];simp,by go_num,B⟩,by simp[intOf];omega⟩
  ·have hjj:¬ (j:Int)<(m:Int):=by omega
   have E:b.take j=b:=List.take_of_length_le (by rw[za HL];omega);rw[E];have F:=zaa (za FF _ (za B));clear E
   go_wp2
   go_ret
   exact za F
end
section
variable {R:Nat} {w w':World} {p:Option Addr} {c:Nat} {h:List Nat} {k e:Nat}
theorem zbj {a w':World} {o:Option Nat} (g:w.grownBy a o) (b:Below w.heap.size a w'):w.grownBy w' o :=
 ⟨b.os.trans g.os,b.tape.trans g.tape,b.output.trans g.output,Nat.le_trans g.size b.size,fun j hj hne=>(b.block j hj).trans (g.block j hj hne)⟩
theorem KR.lt (z:KR R w p c h k e):R<w.heap.size:=(Array.getElem?_eq_some_iff.1 z.row).1
theorem KR.kept {w0 a:World} {k0 e0:Nat} (z0:KR R w0 p c h k0 e0) (g:w0.grownBy a (some R)) (z:KR R a p c h k e) {b:World} (u:Below w0.heap.size a b):KR R b p c h k e :=
 ⟨(u.block R z0.lt).trans z.row,z0.by_.far0 (zbj g u) (fun h0 b off e=>z0.ne h0 _ e),z.ne,z.kl,z.hl,z.hc,z.hm,z.hz⟩
theorem zcm.farK {base:Nat} {sp:Option Addr} {cc:Nat} {l:List Tg} (x:zcm base w sp cc l) (g:w.grownBy w' (some R)) (hR:R<base):zcm base w' sp cc l:=by
 refine⟨x.1,?_⟩;rcases x.2 with hv|⟨j,cap,cur,hv,hbg,hg,r⟩
 ·exact .inl hv
 ·exact .inr ⟨j,cap,cur,hv,hbg,(g.block j (Array.getElem?_eq_some_iff.1 hg).1 (fun e=>by have:=Option.some.inj e;omega)).trans hg,r⟩
theorem zcm.monoK {b b':Nat} {sp:Option Addr} {cc:Nat} {l:List Tg} (x:zcm b w sp cc l) (hb:b'≤b):zcm b' w sp cc l:=by
 refine⟨x.1,?_⟩;rcases x.2 with hv|⟨j,cap,cur,hv,hbg,r⟩
 ·exact .inl hv
 ·exact .inr ⟨j,cap,cur,hv,Nat.le_trans hb hbg,r⟩
def zs (R:Nat) (w:World) (p:Option Addr) (c:Nat) (h:List Nat) (r:List Tg×Nat×Nat) (en:Ending) (w':World):Prop:=∃ sp n cc,en=.returned (.slice sp n cc)∧r.1.length=n∧zcm w.heap.size w' sp cc r.1∧(∀ t∈r.1,t.2<18446744073709551616)∧KR R w' p c h r.2.1 r.2.2∧w.grownBy w' (some R)
theorem zgr (h:List Nat) (n k e:Nat):zlp h (n+1) k e=((tgK h k e).1::(zlp h n (tgK h k e).2.1 (tgK h k e).2.2).1,(zlp h n (tgK h k e).2.1 (tgK h k e).2.2).2):=rfl
theorem zt3 (hb:∀ c∈h,c<256) (k e:Nat):(wtK h k e).1<18446744073709551616:=by
 unfold wtK;refine zq _ (fun c hc=>?_) (zjv h k e 8);unfold zh5 at hc;split at hc
 ·cases hc
 ·exact hb c (List.mem_of_mem_drop (List.mem_of_mem_take hc))
theorem ziy (z:KR R w p c h k e):Calls Tryz.prog 102 #[.pointer (some ⟨R,0,none⟩)] w (zs R w p c h (zo8 h k e)):=by
 have NC:=zaa (zcp z 16 (by omega));unfold zen at NC;have NL:=zaa (zdr h k e 16);have EQ:=zaa (show zo8 h k e=zlp h (zcu h k e 16).1 (zcu h k e 16).2.1 (zcu h k e 16).2.2 from rfl);generalize zcu h k e 16=q at *;obtain⟨n,k1,e1⟩:=q;dsimp only at NC EQ NL;rw[show((16:Nat):Int)=16 from rfl] at NC;have Z0:=zaa z;have hR:=z.lt;have hsF:=zc5 .plain;have hn16:n≤16:=za NL;clear z;go_enter Tryz.func102,Tryz.ntmps102
 go_wp2_with fail
 go_at_call 100
 refine(za NC).mono ?_;rintro en V1 ⟨rfl,z1,g1⟩;have Z1:=zaa z1;have G1:=zaa g1;clear z1 g1 NC
 go_wp2_with fail
 go_loopw [3,4,7] (fun v s i wr=>∃ (j:Nat) (sp:Option Addr) (m cc:Nat) (acc:List Tg) (kj ej:Nat),j≤n∧v=.slice sp m cc∧i=.int .i64 (j:Int)∧Hid (acc.length=m)∧m=j∧Hid (zcm w.heap.size wr sp cc acc)∧Hid (∀ t∈acc,t.2<18446744073709551616)∧Hid (KR R wr p c h kj ej)∧Hid (w.grownBy wr (some R))∧Hid (zlp h n k1 e1=(acc++(zlp h (n - j) kj ej).1,(zlp h (n - j) kj ej).2))) (fun _ _ i _=>n - (intOf i).toNat)
 case atStart=>exact⟨0,none,0,0,[],k1,e1,by omega,rfl,rfl,zaa rfl,rfl,zaa (zcm.ofNil _ _),zaa (by simp),Z1,G1,zaa rfl⟩
 case round =>
  obtain⟨j,sp,m,cc,acc,kj,ej,hj,rfl,rfl,hl,rfl,O,LT,Z,G,E⟩:=hrel;by_cases hjm:m<n
  ·have y1:(m:Int)<(n:Int):=by omega
   have hj1:m+1≤n:=by omega
   have E2:=zaa (show zlp h n k1 e1=(acc++[(tgK h kj ej).1]++(zlp h (n - (m+1)) (tgK h kj ej).2.1 (tgK h kj ej).2.2).1,(zlp h (n - (m+1)) (tgK h kj ej).2.1 (tgK h kj ej).2.2).2) by
    rw[za E,show n - m=(n - (m+1))+1 by omega,zgr]
    simp)
   have TC:=zaa (zc8 (za Z));unfold zlz at TC;have HB:=zaa (za Z).by_.lt;have ET:=zaa (show tgK h kj ej=((zdd (zcv h kj ej).1,(wtK h (zcv h kj ej).2.1 (zcv h kj ej).2.2).1),(wtK h (zcv h kj ej).2.1 (zcv h kj ej).2.2).2.1,(wtK h (zcv h kj ej).2.1 (zcv h kj ej).2.2).2.2) from rfl);generalize zcv h kj ej=q2 at *;obtain⟨tb,k2,e2⟩:=q2;dsimp only at TC ET
   go_wp2_with fail
   go_at_call 101
   refine(za TC).mono ?_;rintro en V2 ⟨rfl,z2,g2⟩;have G2:=zaa (zaj (za G) g2);have O2:=zaa ((za O).farK g2 hR);have WC:=zaa (zj0 z2);unfold zsd at WC;have WL:=zaa (zt3 (za HB) k2 e2);generalize wtK h k2 e2=q3 at *;obtain⟨x,k3,e3⟩:=q3;dsimp only at WC ET WL;generalize tgK h kj ej=q4 at *;have e4:=za ET;subst e4;dsimp only at E2;clear z2 g2 TC O G Z E ET;generalize zdd tb=s at *
   go_wp2_with fail
   go_at_call 158
   refine(za WC).mono ?_;rintro en V3 ⟨rfl,z3,g3⟩;have G3:=zaa (zaj (za G2) g3);have O3:=zaa ((za O2).farK g3 hR);have bA:=zaa (show Below V3.heap.size V3 (V3.alloc (.cells #[.string s,.float .f64 x] 70)) from(Below.refl _ _).alloc (Nat.le_refl _) _);have XA:=zaa (show(V3.alloc (.cells #[.string s,.float .f64 x] 70)).heap[V3.heap.size]? = some (.cells (zee [(s,x)]).toArray 70 (0,0)) from zac V3 _);have OA:=zaa ((za O3).below (za bA));have G4:=zaa (zaj (za G3) (za5 (za bA) (some R)));have Z4:=zaa (z3.later (za bA));have SZ:=zaa (Nat.le_trans (za G3).size (za bA).size);clear z3 g3 WC O2 G2
   go_wp2_with (at_builtin;refine zi2 rfl (.tmp 11) (.tmp 16) rfl w.heap.size sp m cc acc rfl (za hl) (by exact za OA) V3.heap.size [(s,x)] 1 rfl rfl (by exact za XA) (by omega) (za SZ) ?_;intro sp2 c2 W2 ho2 hb2;have O5:=zaa ho2;have B5:=zaa hb2;clear ho2 hb2)
   have Z5:=zaa ((za Z0).kept (za G4) (za Z4) (za B5));have G5:=zaa (zbj (za G4) (za B5));refine⟨⟨m+1,sp2,m+1,c2,acc++[(s,x)],k3,e3,hj1,rfl,by go_num,zaa (by rw[List.length_append,za hl];rfl),rfl,O5,zaa (fun t ht=>?_),Z5,G5,E2⟩,by simp[intOf];omega⟩;rcases List.mem_append.1 ht with ht|ht
   ·exact za LT t ht
   ·rw[List.mem_singleton.1 ht];exact za WL
  ·have y1:¬ (m:Int)<(n:Int):=by omega
   have FF:=zaa (show zs R w p c h (zo8 h k e) (.returned (.slice sp m cc)) wr from by
    have h0:n - m=0:=by omega
    have e5:=za E;rw[h0] at e5;simp only[zlp,List.append_nil] at e5;rw[za EQ,e5]
    exact⟨sp,m,cc,rfl,za hl,za O,za LT,za Z,za G⟩)
   clear E O Z G
   go_wp2
   go_ret
   exact za FF
end
theorem zig:∀ (f n:Nat),n<128 ^ (f+1)→(zao n).length≤f+1
 |0,n,h=>by
  rw[zbo (show n<128 from by omega)];simp
 |f+1,n,h=>by
  by_cases h1:n<128
  ·rw[zbo h1];simp
  ·rw[zb8 h1,List.length_cons];have:=zig f (n / 128) (by rw[Nat.pow_succ] at h;omega);omega
theorem zay (n:Nat) (h:n≤1099511627776):(zao n).length≤6 :=
 zig 5 n (by have:(128:Nat) ^ (5+1)=4398046511104:=rfl;omega)
def zii (ns:List Nat):List Nat:=ns.flatMap zao
def txB (s:ByteArray):List Nat:=zao s.size++bsT s
def zs4 (ts:List ByteArray):List Nat:=ts.flatMap txB
theorem zcb {α:Type} (f:α→List Nat) (l:List α) (j:Nat) (h:j<l.length):(l.take (j+1)).flatMap f=(l.take j).flatMap f++f l[j]:=by
 rw[List.take_succ_eq_append_getElem h,List.flatMap_append];simp
theorem zca {α:Type} (f:α→List Nat) (k:Nat):∀ (l:List α),(∀ x∈l,(f x).length≤k)→(l.flatMap f).length≤k*l.length
 |[],_=>by simp
 |x::r,h=>by
  rw[List.flatMap_cons,List.length_append,List.length_cons];have h1:=h x List.mem_cons_self;have h2:=zca f k r (fun y hy=>h y (List.mem_cons_of_mem _ hy));rw[Nat.mul_add,Nat.mul_one];omega
theorem zcl (s:ByteArray) (h:s.size≤1099511627776):(txB s).length≤s.size+6:=by
 unfold txB;rw[List.length_append,zhz];have:=zay s.size h;omega
def zcj (ns:List Nat):Array Value:=(ns.map (fun (n:Nat)=>Value.int .i64 (n:Int))).toArray
theorem zrb (ns:List Nat) (j:Nat) (h:j<ns.length):(zcj ns)[j]? = some (.int .i64 (ns[j]:Int)):=by
 unfold zcj;simp[h]
theorem OwnB.ne {base:Nat} {w:World} {sp:Option Addr} {c:Nat} {l:List Nat} (h:OwnB base w sp c l) {B:Nat} {cs:Array Value} {T:TypeId} {fr:Nat×Nat} (hB:w.heap[B]? = some (.cells cs T fr)) (hT:T≠5):blk sp≠some B:=by
 intro e;rcases h.owns.2 with⟨hv,h0⟩|⟨g,cap,cur,hv,_,hg,_⟩
 ·simp only[Value.slice.injEq] at hv;rw[hv.1] at e;cases e
 ·simp only[Value.slice.injEq] at hv;rw[hv.1] at e;simp only[blk,Option.map_some,Option.some.injEq] at e;rw[e,hB] at hg;simp only[Option.some.injEq,Obj.cells.injEq] at hg;exact hT hg.2.1
theorem OwnB.cap0 {base:Nat} {w:World} {sp:Option Addr} {c:Nat} {l:List Nat} (h:OwnB base w sp c l):sp=none→c=0:=by
 intro e;rcases h.owns.2 with⟨hv,h0⟩|⟨g,cap,cur,hv,_⟩
 ·simp only[Value.slice.injEq] at hv;exact hv.2.2
 ·simp only[Value.slice.injEq] at hv;rw[hv.1] at e;cases e
theorem OwnB.some_ {base:Nat} {w:World} {sp:Option Addr} {c:Nat} {l:List Nat} (h:OwnB base w sp c l) (hl:0<l.length):sp≠none:=by
 rcases h.owns.2 with⟨hv,h0⟩|⟨g,cap,cur,hv,_⟩
 ·omega
 ·simp only[Value.slice.injEq] at hv;rw[hv.1];simp
theorem tyne:(3:TypeId)≠5∧(9:TypeId)≠5:=by decide
theorem za3 (base:Nat) {w:World} {sp:Option Addr} {n0 c:Nat} {l:List Nat} (hn0:l.length=n0) (hown:OwnB base w sp c l) (B m mc:Nat) (ns:List Nat) (hm:ns.length=m) (hB:w.heap[B]? = some (.cells (zcj ns) 3 (0,0)))
  (hns:∀ n∈ns,n≤1099511627776) (hsz:l.length+6*m≤140737488355328) (hm2:m≤1000) (hbase:base≤w.heap.size) :
  Calls Tryz.prog 49 #[.slice sp n0 c,.slice (some ⟨B,0,none⟩) m mc] w fun e w'=>∃ sp' n' c',e=.returned (.slice sp' n' c')∧Hid ((l++zii ns).length=n')∧OwnB base w' sp' c' (l++zii ns)∧Grew w sp w' sp':=by
 have HO:=zaa hown;have HN:=zaa hn0;have HM:=zaa hm;have HB:=zaa hB;have HNE:=zaa (hown.ne hB tyne.1);have HNS:=zaa hns
 have LE:=zaa (show ∀ j,((ns.take j).flatMap zao).length≤6*m from fun j=>by
  have h1:=zca zao 6 (ns.take j) (fun x hx=>zay x (hns x (List.mem_of_mem_take hx)));have h2:(ns.take j).length≤m:=by rw[← hm,List.length_take];omega
  omega)
 clear hown hn0 hm hB hns;go_enter Tryz.func49,Tryz.ntmps49
 go_wp2
 go_loopw [0,11] (fun v i wr=>∃ (j:Nat) (sp':Option Addr) (n' c':Nat),j≤m∧v=.slice sp' n' c'∧i=.int .i64 (j:Int)∧Hid ((l++(ns.take j).flatMap zao).length=n')∧Hid (OwnB base wr sp' c' (l++(ns.take j).flatMap zao))∧Hid (Grew w sp wr sp')) (fun _ i _=>m - (intOf i).toNat)
 case atStart=>exact⟨0,sp,n0,c,by omega,rfl,rfl,zaa (by simpa using za HN),zaa (by simpa using za HO),Grew.refl _ _⟩
 case round =>
  obtain⟨j,sp',n',c',hj,rfl,rfl,hl',ho',hg'⟩:=hrel;by_cases hjm:j<m
  ·have y0:(0:Int)≤(j:Int):=by omega
   have y1:(j:Int)<(m:Int):=by omega
   have hjl:j<ns.length:=by rw[za HM];exact hjm
   have hBr:=Grew.block (za hg') (za HB) (za HNE);have p0:=zag hBr j _ (zrb ns j hjl);have hx:=za HNS ns[j] (List.getElem_mem hjl);have FT:=zaa (zcb zao ns j hjl);generalize ns[j]=x at *
   have hs1:=zaa (show(l++(ns.take j).flatMap zao).length+(zao x).length≤140737488355328 by
    have:=za LE (j+1);rw[za FT,List.length_append] at this
    rw[List.length_append];omega)
   have hbr:base≤wr.heap.size:=Nat.le_trans hbase (za hg').grown.size;clear hBr
   go_wp2_with fail
   refine(zou x wr hx).mono ?_;rintro e V ⟨xp,xn,xc,rfl,hxn,hxo,hxb⟩;have ho2:=zaa ((za ho').later hxb);have HV:=zaa hxb;have XB:=zaa hxo.bytes;have X0:=zaa hxo.cap0;have hvs:base≤V.heap.size:=Nat.le_trans hbr hxb.size;have hs2:=zaa (show(l++(ns.take j).flatMap zao).length+xn≤140737488355328 by rw[← za hxn];exact za hs1);clear hxb hxo hx
   go_wp2_with (at_builtin;refine zbh rfl (.tmp 20) (.tmp 21) rfl base sp' n' c' _ rfl (za hl') (za ho2) xp xn xc rfl (zao x) (za hxn) (za XB) (za X0) (za hs2) hvs ?_;intro sp2 n2 c2 W2 hn2 ho3 hg2 hb2;rw[List.append_assoc,← za FT] at hn2 ho3;have HO3:=zaa ho3;clear ho3)
   have hbn:=zaa ((za hg').trans (Grew.aside (za HV) ⟨hg2,hb2⟩));exact⟨⟨j+1,sp2,n2,c2,by omega,rfl,by go_num,by first|exact hn2|exact zaa (by rw[List.length_append];exact za hn2),za HO3,za hbn⟩,by simp[intOf];omega⟩
  ·have hjj:¬ (j:Int)<(m:Int):=by omega
   have E:=zaa (show(ns.take j).flatMap zao=zii ns by rw[List.take_of_length_le (by rw[za HM];omega)];rfl)
   go_wp2
   go_ret
   exact⟨sp',n',c',rfl,zaa (by rw[← za E];simpa using za hl'),by rw[← za E];exact za ho',za hg'⟩
end
end Go.Proofs.YtjcjleaicjhpeaaGreatDoor
