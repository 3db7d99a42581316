/- Bytes of one's own that are changed in place or grow by one; entries with such bytes. -/
import Derived.Test.YtofllbpfajppeaaGreatDoorB38
import Derived.Test.YtofllbpfajppeaaGreatDoorB19
import Derived.Test.YtofllbpfajppeaaGreatDoorB39
import Derived.Deep.CutBlock
import Derived.Deep.CutRange
import Derived.Deep.DeepCutAuto
set_option linter.unusedVariables false
set_option maxRecDepth 20000
set_option maxHeartbeats 16000000
namespace Go.Proofs.YtofllbpfajppeaaGreatDoor
section
open Go.ChangeShapes Go.WideShapes Go.ChangeAt Go.RowKit Go.Maps
def QB (lo:Nat) (w:World) (dp:Option Addr) (n dc:Nat):Prop:=∃ l:List Nat,l.length=n∧Bx lo w dp dc l
structure BS (lo:Nat) (w w':World):Prop where
 bel:Below lo w w'
 oth:∀ (g:Nat) (o:Obj),w.heap[g]? = some o→(∀ cs:Array Value,o≠.cells cs 5 (0,0))→w'.heap[g]? = some o
 byt:∀ (g:Nat) (cur:List Value),w.heap[g]? = some (Obj.cells cur.toArray 5 (0,0))→∃ cur':List Value,w'.heap[g]? = some (Obj.cells cur'.toArray 5 (0,0))∧cur'.length=cur.length∧∀ (i b:Nat),b<256→cur[i]? = some (.int .u8 (b:Int))→∃ b':Nat,b'<256∧cur'[i]? = some (.int .u8 (b':Int))
section
variable {lo:Nat} {w w':World} {dp:Option Addr} {n dc:Nat}
theorem BS.ofGrown (h:w.grownBy w' none) (hlo:lo≤w.heap.size):BS lo w w':=by
 have k:∀ g o,w.heap[g]? = some o→w'.heap[g]? = some o:=fun g o e=>(h.block g (Array.getElem?_eq_some_iff.1 e).1 (by simp)).trans e;exact⟨⟨h.os,h.tape,h.output,h.size,fun i hi=>h.block i (by omega) (by simp)⟩,fun g o e _=>k g o e,fun g cur e=>⟨cur,k g _ e,rfl,fun i b hb q=>⟨b,hb,q⟩⟩⟩
theorem BS.one {g:Nat} {cur cur':List Value} (hg:w.heap[g]? = some (.cells cur.toArray 5 (0,0))) (h:w.grownBy w' (some g)) (hg':w'.heap[g]? = some (.cells cur'.toArray 5 (0,0))) (hl:cur'.length=cur.length) (hlo:lo≤g) (hc:∀ (i b:Nat),b<256→cur[i]? = some (.int .u8 (b:Int))→∃ b':Nat,b'<256∧cur'[i]? = some (.int .u8 (b':Int))):BS lo w w':=by
 have hlt:=(Array.getElem?_eq_some_iff.1 hg).1;have k:∀ x o,x≠g→w.heap[x]? = some o→w'.heap[x]? = some o:=fun x o hx e=>(h.block x (Array.getElem?_eq_some_iff.1 e).1 (fun q=>hx (Option.some.inj q))).trans e;refine⟨⟨h.os,h.tape,h.output,h.size,fun i hi=>h.block i (by omega) (fun q=>by have:=Option.some.inj q;omega)⟩,fun x o e ho=>k x o (fun q=>?_) e,fun x c2 e=>?_⟩
 ·rw[q,hg] at e;exact ho _ (Option.some.inj e).symm
 ·by_cases q:x=g
  ·subst q;rw[hg] at e;simp only[Option.some.injEq,Obj.cells.injEq,and_true] at e;have e2:cur=c2:=by
    have:=congrArg Array.toList e
    simpa using this
   subst e2;exact⟨cur',hg',hl,hc⟩
  ·exact⟨c2,k x _ q e,rfl,fun i b hb z=>⟨b,hb,z⟩⟩
theorem QB.step (h:QB lo w dp n dc) (s:BS lo w w'):QB lo w' dp n dc:=by
 obtain⟨l,rfl,hx⟩:=h;rcases hx.row with⟨rfl,rfl,rfl⟩|⟨g,cur,rfl,hbg,hg,hle,hcc,hmx,ht⟩
 ·exact⟨[],rfl,Bx.ofNil _ _⟩
 ·obtain⟨cur',h1,h2,h3⟩:=s.byt g cur hg;have key:∀ i:Nat,∃ b':Nat,i<l.length→b'<256∧cur'[i]? = some (.int .u8 (b':Int)):=fun i=>by
   by_cases hi:i<l.length
   ·have e:(cur.take l.length)[i]? = (l.map zbb)[i]?:=by rw[ht]
    rw[List.getElem?_take,if_pos hi,List.getElem?_map,List.getElem?_eq_getElem hi] at e;obtain⟨b',q1,q2⟩:=h3 i l[i] (hx.lt _ (List.getElem_mem hi)) e;exact⟨b',fun _=>⟨q1,q2⟩⟩
   ·exact⟨0,fun q=>absurd q hi⟩
  obtain⟨f,hf⟩:=Classical.axiomOfChoice key;refine⟨(List.range l.length).map f,by simp,fun x hx'=>?_,.inr ⟨g,cur',rfl,hbg,h1,by simpa using hle,by omega,hmx,?_⟩⟩
  ·obtain⟨i,hi,rfl⟩:=List.mem_map.1 hx';exact(hf i (List.mem_range.1 hi)).1
  ·apply List.ext_getElem?
   intro i;rw[List.length_map,List.length_range,List.getElem?_take,List.map_map,List.getElem?_map];by_cases hi:i<l.length
   ·rw[if_pos hi,(hf i hi).2,List.getElem?_range hi];rfl
   ·rw[if_neg hi,List.getElem?_eq_none (by simp;omega)];rfl
theorem QB.set (h:QB lo w dp n dc) {k:Nat} (hk:k<n):∃ g b,dp=some ⟨g,0,none⟩∧b<256∧w.cell? ⟨g,k,none⟩=some (.int .u8 ((b:Nat):Int))∧w.frozen? ⟨g,k,none⟩=false∧∀ y:Nat,y<256→BS lo w (w.setCell ⟨g,k,none⟩ (.int .u8 (y:Int))):=by
 obtain⟨l,rfl,hx⟩:=h;rcases hx.row with⟨rfl,rfl,rfl⟩|⟨g,cur,rfl,hbg,hg,hle,hcc,hmx,ht⟩
 ·simp at hk
 ·have e:(cur.take l.length)[k]? = (l.map zbb)[k]?:=by rw[ht]
  rw[List.getElem?_take,if_pos hk,List.getElem?_map,List.getElem?_eq_getElem hk] at e;refine⟨g,l[k],rfl,hx.lt _ (List.getElem_mem hk),?_,zae hg k,fun y hy=>BS.one hg (zaf w g k _) (ztz hg k _) (by simp) hbg (fun i b hb q=>?_)⟩
  ·rw[cell_of_row w g _ cur.toArray _ _ hg,← Array.getElem?_toList];exact e
  ·by_cases q2:k=i
   ·subst q2;exact⟨y,hy,by rw[List.getElem?_set_self (List.getElem?_eq_some_iff.1 q).1]⟩
   ·exact⟨b,hb,by rw[List.getElem?_set_ne q2];exact q⟩
theorem zxm (h:QB lo w dp n dc) (E x:Nat) (hx:x<256) (hE:w.heap[E]? = some (.cells #[.int .u8 (x:Int)] 5 (0,0))) (hsz:n+1≤1000000) (hlo:lo≤w.heap.size) (ty:TypeId) :
  ∃ sp' c' w',(Builtin.append_ #[62,62] ty #[.slice dp n dc,.slice (some ⟨E,0,none⟩) 1 1]).run Tryz.prog w=.ok (.slice sp' (n+1) c') w'∧BS lo w w':=by
 obtain⟨l,rfl,hX⟩:=h
 have hB:BytesAt w (some ⟨E,0,none⟩) [x]:=⟨fun c hc=>by rw[List.mem_singleton.1 hc];exact hx,fun i hi=>⟨E,0,rfl,by
  obtain rfl:i=0:=by simp at hi;omega
  exact zab hE 0 _ rfl⟩⟩
 rcases hX.row with⟨rfl,rfl,rfl⟩|⟨g,cur,rfl,hbg,hg,hle,hcc,hmx,ht⟩
 ·obtain⟨sp',c',w',h1,h2,h3,_⟩:=zfl lo none 0 [] (OwnB.ofNil w lo) (some ⟨E,0,none⟩) 1 1 [x] rfl hB (by simp) (by simp) hlo ty;exact⟨sp',c',w',h1,BS.ofGrown h3 hlo⟩
 ·obtain⟨i0,hi,hz0,hz1,hz2⟩:=info_parts zw7;have hnews:∀ j u,([x].map zbb)[j]? = some u→w.cell? ((⟨E,0,none⟩:Addr).add j)=some u:=fun j u hu=>by
   obtain⟨ad',had,hc⟩:=zbz hB (by simp);cases had
   exact hc j u hu
  by_cases hroom:l.length+1≤dc
  ·have hrun:=run_append_room (P:=Tryz.prog) w 62 ty 5 i0 Tryz.underlying62 hi g l.length dc cur.toArray hg ⟨E,0,none⟩ 1 1 ([x].map zbb) (by rw[hz1];simp) hnews (zcw [x]) hroom (by rw[hz1];simp;omega);have hnew:(List.take (l.length*i0.size) cur.toArray.toList++List.map zbb [x]++List.drop (l.length*i0.size+(List.map zbb [x]).length) cur.toArray.toList)=cur.set l.length (zbb x):=by
    rw[hz1,Nat.mul_one,List.set_eq_take_append_cons_drop,if_pos (by omega)];simp
   rw[hnew] at hrun;refine⟨some ⟨g,0,none⟩,dc,_,hrun,BS.one hg (zg1 _ _ _) (setRow_heap w g _ _ _ _ hg) (by simp) hbg (fun i b hb q=>?_)⟩;by_cases q2:l.length=i
   ·subst q2;exact⟨x,hx,by rw[List.getElem?_set_self (List.getElem?_eq_some_iff.1 q).1];rfl⟩
   ·exact⟨b,hb,by rw[List.getElem?_set_ne q2];exact q⟩
  ·obtain⟨v',w',hrun,h1,h2⟩:=run_append_arg_grows (P:=Tryz.prog) (w:=w) 62 ty 5 i0 (.int .u8 0) 1 1 Tryz.underlying62 hi hz0 hz1 hz2 rfl (by omega) ⟨g,0,none⟩ l.length dc (l.map zbb) (by simp) (by
    intro j u hu;rw[Addr.add_lit,Nat.zero_add,cell_of_row w g j _ _ _ hg];have hj:j<l.length:=by have:=(List.getElem?_eq_some_iff.1 hu).1;simpa using this
    rw[← ht,List.getElem?_take,if_pos hj] at hu
    simpa using hu) ⟨E,0,none⟩ 1 1 ([x].map zbb) (by simp) hnews (by omega) (by simp only[maxLen];omega) (by omega)
   rcases h1.2 with⟨hv,h3⟩|⟨g',cap,cur',hv,hb',_⟩
   ·omega
   ·exact⟨some ⟨g',0,none⟩,cap,w',by rw[hrun,hv],BS.ofGrown h2 hlo⟩
theorem zs3 {ops:Array Oper} {rest:List Oper} {o:Oper} {a:Act} {Q:Exit→Act→World→Prop} (hgd:o.guard=none) (s x:Operand)
  (ho:o.op=.call { callee:=.builtin .append,args:=#[s,x],argTypes:=#[62,62] }) (hs:a.eval s=.slice dp n dc) (hq:QB lo w dp n dc) (E y:Nat) (hx:a.eval x=.slice (some ⟨E,0,none⟩) 1 1) (hy:y<256) (hE:w.heap[E]? = some (.cells #[.int .u8 (y:Int)] 5 (0,0))) (hsz:n+1≤1000000) (hlo:lo≤w.heap.size)
  (h:∀ sp' c' w',BS lo w w'→wpList Tryz.prog ops Q rest (a.put o.dst (.slice sp' (n+1) c')) w'):wpList Tryz.prog ops Q (o::rest) a w:=by
 refine wpList_plain hgd fun K hK=>?_;obtain⟨sp',c',w',hrun,h1⟩:=zxm hq E y hy hE hsz hlo o.type;unfold Oper.wp;simp[execOp,ho,resolve,invoke,builtin,hs,hx,hrun,Result.andThen];exact hK _ _ (h sp' c' w' h1)
def OwE (lo:Nat) (ns:List Nat) (sp:Option Addr) (i:Nat) (w:World):Prop:=∀ j (h:j<ns.length),i≤j→∃ G dp dc,sp=some ⟨G,0,none⟩∧lo≤G∧(∃ cs:Array Value,w.heap[G]? = some (.cells cs 64 (0,0))∧ns.length*4≤cs.size)∧w.cell? ⟨G,j*4+3,none⟩=some (.slice dp ns[j] dc)∧QB lo w dp ns[j] dc
theorem OwE.step {ns:List Nat} {sp:Option Addr} {i:Nat} (h:OwE lo ns sp i w) (s:BS lo w w'):OwE lo ns sp i w':=by
 intro j hj hi;obtain⟨G,dp,dc,q1,q2,⟨cs,q3,q4⟩,q5,q6⟩:=h j hj hi;have k:=s.oth G _ q3 (fun cs' e=>by simp at e);refine⟨G,dp,dc,q1,q2,⟨cs,k,q4⟩,?_,q6.step s⟩;rw[← q5,cell_of_row w G _ cs _ _ q3,cell_of_row w' G _ cs _ _ k]
theorem OwE.start {es:List EntN} {sp:Option Addr} {c:Nat} {hs:List (Option Addr×Nat)} (h:OwnL lo w sp c es hs):OwE lo (es.map (·.2.2.2.length)) sp 0 w:=by
 intro j hj _;have hj':j<es.length:=by simpa using hj
 have hh:j<hs.length:=by rw[h.len];exact hj'
 rcases h.row.2 with⟨_,h0⟩|⟨G,cap,cur,hv,hbg,hg,hle,_,hsz,ht⟩
 ·omega
 ·simp only[Value.slice.injEq] at hv;refine⟨G,hs[j].1,hs[j].2,hv.1,hbg,⟨cur,hg,?_⟩,?_,es[j].2.2.2,by simp,h.dat j hj' hh⟩
  ·rw[List.length_map,hsz];omega
  ·have hk:=zk9 es hs j 3 hj' hh (by omega);rw[← ht,List.getElem?_take,if_pos (by omega)] at hk;rw[cell_of_row w G _ cur _ _ hg,← Array.getElem?_toList,hk];simp[zc8]
theorem OwE.next {ns:List Nat} {G i:Nat} (h:OwE lo ns (some ⟨G,0,none⟩) i w) (v3 v1:Value) (hG:lo≤G):OwE lo ns (some ⟨G,0,none⟩) (i+1) ((w.setCell ⟨G,i*4+3,none⟩ v3).setCell ⟨G,i*4+1,none⟩ v1):=by
 intro j hj hi;obtain⟨G',dp,dc,q1,q2,⟨cs,q3,q4⟩,q5,l,q6,q7⟩:=h j hj (by omega);simp only[Option.some.injEq,Addr.mk.injEq,and_true] at q1;subst q1;have e1:=heap_setCell_same w G (i*4+3) cs 64 v3 q3;have e2:=heap_setCell_same _ G (i*4+1) _ 64 v1 e1;refine⟨G,dp,dc,rfl,q2,⟨_,e2,by simpa using q4⟩,?_,l,q6,?_⟩
 ·rw[cell_of_row _ G _ _ _ _ e2];rw[cell_of_row w G _ cs _ _ q3] at q5;rw[← q5];simp only[Array.getElem?_setIfInBounds];rw[if_neg (by omega),if_neg (by omega)]
 ·exact q7.grownNe (zag (zaf w G (i*4+3) v3) (zaf _ G (i*4+1) v1)) (fun g hg e=>q7.ne_block q3 (by decide) (by rw[hg];exact e.symm))
end
theorem xor17 (x:Nat) (hx:x<256):∃ y:Nat,bits .xor .u8 (x:Int) 17=(y:Int)∧y<256:=by
 have key:∀ x:Fin 256,∃ y:Fin 256,bits .xor .u8 ((x.val:Nat):Int) 17=((y.val:Nat):Int):=by decide +kernel
 obtain⟨y,hy⟩:=key ⟨x,hx⟩;exact⟨y.val,hy,y.isLt⟩
end
end Go.Proofs.YtofllbpfajppeaaGreatDoor
section
namespace Go.Proofs.YtofllbpfajppeaaGreatDoor.walOwn
open Go.ChangeShapes Go.WideShapes Go.ChangeAt Go.RowKit Go.Maps
theorem walk0 (a0:Option Addr) (c0:Nat) (l0:List Wd) (w:World) (hx0:l0.length≤maxLen) (hb0:WdsAt w a0 l0) (hTz:Tz w) :
  Calls Tryz.prog 7 #[.slice a0 l0.length c0] w fun e w'=>e=.returned (.bool true)∧Below w.heap.size w w':=by
 have TZ:=zaa hTz;have HB0:=zaa hb0;simp only[maxLen] at hx0;generalize hq0:l0.length=m0 at *;have Q0:=zaa hq0;have NC:=zaa (zf9 w 9000 hTz);rw[show((9000:Int)).toNat=9000 from rfl] at NC;clear hTz hb0 hq0;go_enter Tryz.func7,Tryz.ntmps7
 go_wp2_with fail
 go_at_call 8
 refine(za NC).mono ?_;rintro e V1 ⟨B,d,M,R,rfl,v1,lowB,hcase⟩
 have I1:=zaa (show PlI 9000 w.heap.size w V1 B d M R 0 from by
  rcases hcase with⟨h,_⟩|⟨_,L,Lr,t⟩
  ·omega
  ·exact⟨L,Lr,2,ss1,wc0,1,_,_,t,(LS.begin (by omega)).2,by omega,by omega,by simp[wc0],v1⟩)
 have LB:=zaa lowB;clear hcase v1 lowB NC
 go_upto_block 0 with fail
 go_cut [4,5] (fun okv _ wc=>∃ (j:Nat),j≤60∧okv=.bool true∧Hid (PlI 9000 w.heap.size w wc B d M R j))
 case first =>
  as_aux_lemma =>
  go_wp2_with fail
  go_loopw [4,5] (fun okv q wr=>∃ (j:Nat),j≤m0∧j≤60∧q=.int .i64 (j:Int)∧okv=.bool true∧Hid (PlI 9000 w.heap.size w wr B d M R j)) (fun _ q _=>60 - (intOf q).toNat)
  case atStart=>exact⟨0,by omega,by omega,rfl,rfl,I1⟩
  case round =>
   obtain⟨j,hj,hj6,rfl,rfl,I3⟩:=hrel;by_cases hj1:j<m0
   ·have y1:(j:Int)<(m0:Int):=by omega
    by_cases hj2:j<60
    ·have y0:(0:Int)≤(j:Int):=by omega
     have y2:(j:Int)<60:=by omega
     have hjl:j<l0.length:=by rw[za Q0];exact hj1
     have bb3:Below w.heap.size w wr:=by obtain⟨_,_,_,_,_,_,_,_,_,_,_,_,_,q⟩:=za I3;exact q
     obtain⟨b,off,h,rfl,⟨q0,q1,q2,q3,q4,q5,q6⟩,hA⟩:=(za HB0).cell j hjl;have p0:=cell_later bb3 q0;have p1:=cell_later bb3 q1;have p2:=cell_later bb3 q2;have p3:=cell_later bb3 q3;have p4:=cell_later bb3 q4;have p5:=cell_later bb3 q5;have p6:=cell_later bb3 q6;clear q0 q1 q2 q3 q4 q5 q6;have HA:=zaa hA;have SH:=zaa (zfn _ h wr (hA.later bb3));generalize l0[j]=x at *;obtain⟨kd,es,ht,hv,mi,mt,kp⟩:=x;unfold zhy at SH;dsimp only at p0 p1 p2 p3 p4 p5 p6 SH;clear hA bb3 hjl
     go_wp2_with fail
     go_at_call 9
     refine(za SH).mono ?_;rintro e V4 ⟨b4,rfl,hb4,v4⟩;have I4:=zaa ((za I3).later v4);cases b4 with
     |false =>
      have I5:=zaa (za I4).next;clear hb4 v4 SH p0 p1 p2 p3 p4 p5 p6
      go_wp2
      exact⟨⟨j+1,by omega,by omega,by go_num,rfl,I5⟩,by simp[intOf];omega⟩
     |true =>
      have r0:=cell_later v4 p0;have r1:=cell_later v4 p1;have r2:=cell_later v4 p2;have r3:=cell_later v4 p3;have r4:=cell_later v4 p4;have r5:=cell_later v4 p5;have r6:=cell_later v4 p6;have DC:=zaa ((za I4).do_ (by omega) (za LB) rfl ⟨kd,es,ht,hv,mi,mt,kp⟩ h (za HA) (hb4 rfl).1);unfold zhy at DC;dsimp only at DC;clear hb4 v4 SH p0 p1 p2 p3 p4 p5 p6
      go_wp2_with fail
      clear r0 r1 r2 r3 r4 r5 r6;go_at_call 10
      refine(za DC).mono ?_;rintro e V5 ⟨rfl,i5⟩;have I5:=zaa i5;clear i5 DC
      go_wp2
      exact⟨⟨j+1,by omega,by omega,by go_num,rfl,I5⟩,by simp[intOf];omega⟩
    ·have y2:¬ (j:Int)<60:=by omega
     go_wp2_with fail
     go_meet
     case rel=>exact⟨j,by omega,rfl,I3⟩
   ·have y1:¬ (j:Int)<(m0:Int):=by omega
    go_wp2_with fail
    go_meet
    case rel=>exact⟨j,by omega,rfl,I3⟩
 case rest =>
  as_aux_lemma =>
  obtain⟨j,hj6,rfl,I9⟩:=hcut;obtain⟨L,Lr,N,ss,c,n,s1,s2,t9,ls9,N9,n9,e9,b9⟩:=za I9;have TT:=zaa t9;have LSH:=zaa ls9;have B9:=zaa b9;have TL9:=zaa (fun W (u:Below wc.heap.size wc W)=>t9.later u);have BX:=zaa (fun W (u:Below wc.heap.size wc W)=>(t9.later u).bx);have ZL:=zaa (fun W (u:Below wc.heap.size wc W)=>(za TZ).later ((za B9).trans (u.mono (za B9).size)));clear t9 ls9 b9 I9 I1;have IX:=zaa (za LSH).ix
  have LC:=zaa (show ∀ W,Below wc.heap.size wc W→Calls Tryz.prog 16 #[.pointer (some ⟨L,0,none⟩),.int .i64 0,.int .i64 ((c.bi+c.es.length:Nat):Int)] W (zwc W c.es) from fun W u=>by
   obtain⟨Fv,ep,ec,hs,z,rl,_⟩:=(za TL9 W u).at_;have h:=zim z 0 ((c.bi+c.es.length:Nat):Int);rw[zmq (za IX) (by omega) (Int.le_refl _)] at h
   exact h)
  have CE:=zaa (za TT).ceLe;have DL:=zaa (show ∀ e∈c.es,e.2.2.2.length≤2048 from fun e he=>((za TT).okC.es e he).2.2.2.2);generalize hla:((c.bi+c.es.length:Nat):Int)=la at *;have TLA:=zaa (show ∀ W,Below wc.heap.size wc W→Calls Tryz.prog 24 #[.pointer (some ⟨L,0,none⟩)] W fun e w'=>e=.returned (.int .i64 la)∧Below W.heap.size W w' from fun W u=>by rw[← hla];exact zdx (za TL9 W u));clear hla;have U:=zaa ((Below.refl wc.heap.size wc).drew)
  go_wp2_with fail
  refine wp_region_held_drew (S:=fun u=>u.cell? ⟨B,1,none⟩=some (.pointer (some ⟨L,0,none⟩))) (by kernel_rfl) ?_ (fun hHeld=>?_)
  ·try dsimp only
   exact(zav (za BX _ (za U))).2.1
  refine hT 0 ?_;refine hT 1 ?_;refine hT 2 ?_;refine hT 3 ?_;refine hT 4 ?_;refine hT 5 ?_;refine hT 6 ?_;refine hT 7 ?_;refine hO 8 (fun K hK=>?_);go_simp
  first
   |(go_at_call 24
     refine(za TLA _ (za U)).mono ?_;rintro e V ⟨rfl,v⟩;have U:=zaa ((za U).trans (v.mono (za U).size))
     clear v)
   |(go_at_call 16
     obtain⟨VL,hVL⟩:∃ VL,VL=V:=⟨_,rfl⟩
     subst hVL;have UL:=zaa (za U);refine(za LC _ (za U)).mono ?_;rintro e V ⟨sp,m,k,hs2,rfl,hm,o2,v⟩;have OE:=zaa (OwE.start o2);have VV:=zaa v;have HM:=zaa hm;have U:=zaa ((za U).trans (v.mono (za U).size))
     clear v o2 hm)
  go_wp2_with fail
  refine hK.out _ _ ?_ (fun hHeld=>?_)
  ·try dsimp only
   exact(zav (za BX _ (za U))).2.1
  clear hK K;refine hP ?_;refine hO 9 (fun K hK=>?_);go_simp
  first
   |(go_at_call 24
     refine(za TLA _ (za U)).mono ?_;rintro e V ⟨rfl,v⟩;have U:=zaa ((za U).trans (v.mono (za U).size))
     clear v)
   |(go_at_call 16
     obtain⟨VL,hVL⟩:∃ VL,VL=V:=⟨_,rfl⟩
     subst hVL;have UL:=zaa (za U);refine(za LC _ (za U)).mono ?_;rintro e V ⟨sp,m,k,hs2,rfl,hm,o2,v⟩;have OE:=zaa (OwE.start o2);have VV:=zaa v;have HM:=zaa hm;have U:=zaa ((za U).trans (v.mono (za U).size))
     clear v o2 hm)
  go_wp2_with fail
  refine hK.out _ _ ?_ (fun hHeld=>?_)
  ·try dsimp only
   exact(zav (za BX _ (za U))).2.1
  clear hK K;refine hP ?_;refine hT 10 ?_;refine wpAnyH_done (by kernel_rfl) ?_ _;have T3:=zaa ((za TL9 _ (za UL)).more (za VV));have B3:=zaa ((za B9).trans ((za U).mono (za B9).size));have BLO:=zaa (show B<VL.heap.size∧w.heap.size≤VL.heap.size from⟨(za TL9 _ (za UL)).ltB rfl,(za TL9 _ (za UL)).le⟩);obtain⟨ns,hns⟩:∃ ns:List Nat,ns=c.es.map (·.2.2.2.length):=⟨_,rfl⟩
  rw[← hns] at OE;have MN:=zaa (show ns.length=m by rw[hns,List.length_map];exact za HM)
  have NB:=zaa (show ∀ x∈ns,x≤2048 from fun x hx=>by
   rw[hns] at hx;obtain⟨e,he,rfl⟩:=List.mem_map.1 hx
   exact za DL e he)
  have M6:m≤1000000:=by rw[← za HM];exact za CE
  clear hns LC TLA;obtain⟨V3,hV3⟩:∃ V3,V3=V:=⟨_,rfl⟩
  subst hV3;have SL:=zaa (za VV).size;generalize VL.heap.size=lo at *
  go_wp2_with fail
  go_loopw [7,8] (fun i _ wr=>∃ (q:Nat),q≤m∧i=.int .i64 (q:Int)∧Hid (OwE lo ns sp q wr)∧Hid (Below lo V3 wr)) (fun i _ _=>m - (intOf i).toNat)
  case atStart=>exact⟨0,by omega,rfl,OE,zaa (Below.refl _ _)⟩
  case round =>
   obtain⟨q,hq,rfl,O5,B5⟩:=hrel;obtain⟨V5,hV5⟩:∃ V5,V5=wr:=⟨_,rfl⟩
   subst hV5;by_cases hqm:q<m
   ·as_aux_lemma =>
    have y0:(0:Int)≤(q:Int):=by omega
    have y1:(q:Int)<(m:Int):=by omega
    have hql:q<ns.length:=by rw[za MN];exact hqm
    obtain⟨nj,hnj⟩:∃ nj,ns[q]=nj:=⟨_,rfl⟩
    have N6:nj≤2048:=by rw[← hnj];exact za NB _ (List.getElem_mem hql)
    obtain⟨G,hsp,hG⟩:∃ G,sp=some ⟨G,0,none⟩∧lo≤G:=by
     obtain⟨G,_,_,q1,q2,_⟩:=za O5 q hql (Nat.le_refl _);exact⟨G,q1,q2⟩
    subst hsp
    have RW:=zaa (show ∀ W,OwE lo ns (some ⟨G,0,none⟩) q W→∃ dp dc,(∃ cs:Array Value,W.heap[G]? = some (.cells cs 64 (0,0))∧ns.length*4≤cs.size)∧W.cell? ⟨G,q*4+3,none⟩=some (.slice dp nj dc)∧QB lo W dp nj dc from fun W o=>by
     obtain⟨G',dp,dc,q1,_,q3,q4,q5⟩:=o q hql (Nat.le_refl _);simp only[Option.some.injEq,Addr.mk.injEq,and_true] at q1;subst q1;rw[hnj] at q4 q5
     exact⟨dp,dc,q3,q4,q5⟩)
    have HQ4:=zaa (show q*4+1<ns.length*4 by omega);have HG:=zaa hG;clear hql hnj hG
    go_wp2_with fail
    go_loopw [8] (fun k wr=>∃ (t:Nat),t≤nj∧k=.int .i64 (t:Int)∧Hid (OwE lo ns (some ⟨G,0,none⟩) q wr)∧Hid (Below lo V3 wr)) (fun k _=>nj - (intOf k).toNat)
    case atStart=>exact⟨0,by omega,rfl,O5,B5⟩
    case round =>
     obtain⟨t,ht,rfl,O6,B6⟩:=hrel;obtain⟨dp,dc,hcs,cl,hqb⟩:=za RW _ (za O6);by_cases htn:t<nj
     ·as_aux_lemma =>
      have z0:(0:Int)≤(t:Int):=by omega
      have z1:(t:Int)<(nj:Int):=by omega
      obtain⟨g,b,rfl,hb,cb,fb,hbs⟩:=hqb.set htn;obtain⟨y,hy,hy2⟩:=xor17 b hb;have O7:=zaa ((za O6).step (hbs y hy2));have B7:=zaa ((za B6).trans (hbs y hy2).bel);clear hbs hcs hqb
      go_wp2_with fail
      exact⟨⟨t+1,by omega,by go_num,O7,B7⟩,by simp[intOf];omega⟩
     ·as_aux_lemma =>
      have z1:¬ (t:Int)<(nj:Int):=by omega
      have LOW:=zaa (show lo≤wr.heap.size from Nat.le_trans (za SL) (za B6).size);have UA:=zaa (show Below wr.heap.size wr (wr.alloc (.cells #[.int .u8 ((5:Nat):Int)] 5)) from(Below.refl _ _).alloc (Nat.le_refl _) _);have XA:=zaa (zad wr (.cells #[.int .u8 ((5:Nat):Int)] 5));have QA:=zaa (show QB lo (wr.alloc (.cells #[.int .u8 ((5:Nat):Int)] 5)) dp nj dc from let ⟨l,e,x⟩:=hqb;⟨l,e,x.later (za UA)⟩)
      have OA:=zaa (show OwE lo ns (some ⟨G,0,none⟩) q (wr.alloc (.cells #[.int .u8 ((5:Nat):Int)] 5)) from fun j hj hi=>by
       obtain⟨G',dp',dc',q1,q2,⟨cs,q3,q4⟩,q5,l,q6,q7⟩:=za O6 j hj hi
       exact⟨G',dp',dc',q1,q2,⟨cs,zac (za UA) q3,q4⟩,cell_later (za UA) q5,l,q6,q7.later (za UA)⟩)
      have BA:=zaa ((za B6).trans ((za UA).mono (za LOW)));have LA:=zaa (Nat.le_trans (za LOW) (za UA).size);rw[show(((5:Nat):Int))=5 from rfl] at UA XA QA OA BA LA;clear hqb hcs
      go_wp2_with (at_builtin;refine zs3 rfl (.tmp 84) (.tmp 85) rfl rfl (za QA) wr.heap.size 5 rfl (by omega) (za XA) (by omega) (za LA) ?_;intro sp' c' V8 hbs;refine za ?_)
      refine zaa ?_;have O8:=zaa ((za OA).step hbs);have B8:=zaa ((za BA).trans hbs.bel);obtain⟨dp8,dc8,⟨cs8,hc8,hs8⟩,cl8,_⟩:=za RW _ (za O8);have f3:=zae hc8 (q*4+3);have f1:=zae hc8 (q*4+1);obtain⟨v1,c1'⟩:∃ v,V8.cell? ⟨G,q*4+1,none⟩=some v:=⟨_,by rw[cell_of_row _ G _ cs8 _ _ hc8,Array.getElem?_eq_getElem (by have:=za HQ4;omega)]⟩
      have O9:=zaa ((za O8).next (.slice sp' (nj+1) c') (.int .i64 0) (za HG));have B10:=zaa (show Below lo V3 ((V8.setCell ⟨G,q*4+3,none⟩ (.slice sp' (nj+1) c')).setCell ⟨G,q*4+1,none⟩ (.int .i64 0)) from(za B8).trans (zds (zag (zaf V8 G (q*4+3) (.slice sp' (nj+1) c')) (zaf _ G (q*4+1) (.int .i64 0))) (za HG) (Nat.le_trans (za SL) (za B8).size)));clear hbs hc8 hs8
      go_wp2_with fail
      exact⟨⟨q+1,by omega,by go_num,O9,B10⟩,by simp[intOf];omega⟩
   ·as_aux_lemma =>
    have y1:¬ (q:Int)<(m:Int):=by omega
    have T5:=zaa (((za T3).grow (w':=V5) (fun g hg hn=>(za B5).block g (by
     rcases hn with hn|hn
     ·by_cases h5:g<lo
      ·exact h5
      ·exact absurd (.inr ⟨by omega,hg⟩) hn
     ·rw[hn];exact(za BLO).1)) ((za B5).mono (za BLO).2)).sub (Cv:=fun g=>g=B) (fun g hg=>.inl hg) rfl)
    have B6:=zaa ((za B3).trans ((za B5).mono (za BLO).2));have LC:=zaa (zbv V5 ((za TZ).later (za B6)))
    go_wp2_with fail
    go_at_call 12
    refine(za LC).mono ?_;rintro e V7 ⟨rfl,v7⟩;have SC:=zaa (zkg ((za T5).later v7) (za LSH));have B7:=zaa ((za B6).trans (v7.mono (za B6).size));clear v7 LC
    go_wp2_with fail
    go_at_call 11
    refine(za SC).mono ?_;rintro e V8 ⟨rfl,v8⟩;have FE:=zaa ((za B7).trans (v8.mono (za B7).size));clear v8 SC
    go_wp2
    go_ret
    exact⟨rfl,za FE⟩
end Go.Proofs.YtofllbpfajppeaaGreatDoor.walOwn
end
