/- Conf: the document's rows: one more behind, whatever the kind; rows of Last. -/
import Derived.Test.YtjcjleaicjhpeaaGreatDoorB06
import Derived.Test.YtjcjleaicjhpeaaGreatDoorB03
import Derived.Sort.Walk0
import Derived.Test.YtjcjleaicjhpeaaGreatDoorB04
import Derived.Maps.OwnSet
import Derived.Maps.Views
import Derived.StringKeys
import Derived.ProofKit
import Derived.OpenShut
import Derived.Below
import Derived.WalkKit
import Derived.Test.YtjcjleaicjhpeaaGreatDoorB01
import Derived.DeepKeys4
import Derived.Sort.KeysCollected
import Derived.Shelf.SlSortCmp.WholeK
import Derived.Ground.SlsfProg
import Derived.Test.YtjcjleaicjhpeaaGreatDoorProg
set_option linter.unusedVariables false
set_option maxRecDepth 20000
set_option maxHeartbeats 16000000
namespace Go.Proofs.YtjcjleaicjhpeaaGreatDoor
section
open Go.ChangeShapes Go.WideShapes Go.ChangeAt Go.RowKit
theorem zb2 {w:World} {ops:Array Oper} {rest:List Oper} {o:Oper} {a:Act} {Q:Exit→Act→World→Prop} (hgd:o.guard=none) (s x:Operand) (t e:TypeId)
  (ho:o.op=.call { callee:=.builtin .append,args:=#[s,x],argTypes:=#[t,t] })
  {zv:Value} {size bytes:Nat} (hi:(Tryz.prog.info? e).map (fun i=>(i.zero,i.size,i.bytes))=some (some zv,size,bytes)) (ht:Tryz.prog.underlying t=some (.slice e)) (hzs:zv.cells.size=size) (hsz:0<size)
  (base:Nat) (sp:Option Addr) (n c:Nat) (xs:List Value) (hs:a.eval s=.slice sp n c) (hown:w.ownsRow base e size (.slice sp n c) n xs)
  (B:Nat) (row:List Value) (hx:a.eval x=.slice (some ⟨B,0,none⟩) 1 1) (hB:w.heap[B]? = some (.cells row.toArray e (0,0))) (hrl:row.length=1*size) (h1:∀ u∈row,u.oneCell'=true) (hbytes:(n+1)*bytes≤140737488355328) (hn:n≤1000000) (hbase:base≤w.heap.size)
  (hk:∀ sp' c' w',w'.ownsRow base e size (.slice sp' (n+1) c') (n+1) (xs++row)→w.grownBy w' (blk sp)→wpList Tryz.prog ops Q rest (a.put o.dst (.slice sp' (n+1) c')) w') :
  wpList Tryz.prog ops Q (o::rest) a w:=by
 obtain⟨i0,hi',hz0,hz1,hz2⟩:=info_parts hi;refine wpList_plain hgd fun K hK=>?_;obtain⟨v',w',hrun,g1,g2,g3⟩:=run_append_own (P:=Tryz.prog) w base t o.type e i0 zv size bytes ht hi' hz0 hz1 hz2 hzs hsz _ _ _ hown ⟨B,0,none⟩ 1 1 row hrl
  (fun j u hu=>by
   rw[Addr.add_lit,Nat.zero_add,cell_of_row _ _ _ _ _ _ hB]
   rw[← hu,← Array.getElem?_toList]) h1 (by simp only[maxLen];omega) hbytes hbase
 have hv:∃ sp' c',v'=.slice sp' (n+1) c':=by
  rcases g1.2 with⟨hv,h0⟩|⟨g,cap,cur,hv,_⟩
  ·omega
  ·exact⟨_,_,hv⟩
 obtain⟨sp',c',rfl⟩:=hv;unfold Oper.wp;simp[execOp,ho,resolve,invoke,builtin,hs,hx,hrun,Result.andThen];exact hK _ _ (hk sp' c' w' g1 (by rw[← zba sp n c];exact g2))
def zdo (base:Nat) (w:World) (sp:Option Addr) (c:Nat) (l:List Rt):Prop:=w.ownsRow base 56 3 (.slice sp l.length c) l.length (zfo l)
theorem zdo.ofNil (base:Nat) (w:World):zdo base w none 0 []:=w.ownsRow_nil base 56 3
theorem zgg {w:World} {base E:Nat} {T:TypeId} (k:Nat) (hE:w.heap[E]? = some (.cells #[] T (0,0))) (hb:base≤E):w.ownsRow base T k (.slice (some ⟨E,0,none⟩) 0 0) 0 [] :=
 ⟨by simp,.inr ⟨E,0,#[],rfl,hb,hE,Nat.le_refl _,by simp[maxLen],by simp,by simp⟩⟩
theorem ze1 {base:Nat} {w:World} {T:TypeId} {k n c:Nat} {sp:Option Addr} {xs:List Value} (h:w.ownsRow base T k (.slice sp n c) n xs) (hn:0<n) :
  ∃ g,sp=some ⟨g,0,none⟩∧base≤g∧(∃ cur,w.heap[g]? = some (.cells cur T (0,0)))∧n≤c∧∀ j u,xs[j]? = some u→w.cell? ⟨g,j,none⟩=some u:=by
 rcases h.2 with⟨hv,h0⟩|⟨g,cap,cur,hv,hb,hg,hle,hmx,hsz,ht⟩
 ·omega
 ·simp only[Value.slice.injEq] at hv;obtain⟨rfl,_,rfl⟩:=hv;refine⟨g,rfl,hb,⟨cur,hg⟩,hle,fun j u hu=>?_⟩;have hj:j<n*k:=by
   have:=(List.getElem?_eq_some_iff.1 hu).1;rw[h.1] at this;exact this
  rw[cell_of_row w g _ cur _ _ hg,← Array.getElem?_toList,← hu,← ht,List.getElem?_take,if_pos hj]
theorem zdo.cell {base:Nat} {w:World} {sp:Option Addr} {c:Nat} {l:List Rt} (h:zdo base w sp c l) (i:Nat) (hi:i<l.length) :
  ∃ g,sp=some ⟨g,0,none⟩∧base≤g∧w.cell? ⟨g,i*3,none⟩=some (.string l[i].h)∧w.cell? ⟨g,i*3+1,none⟩=some (.string l[i].p)∧w.cell? ⟨g,i*3+2,none⟩=some (.string l[i].l):=by
 obtain⟨g,hs,hb,_,_,hc⟩:=ze1 h (by omega);exact⟨g,hs,hb,hc _ _ (ze4 l i 0 hi (by omega)),hc _ _ (ze4 l i 1 hi (by omega)),hc _ _ (ze4 l i 2 hi (by omega))⟩
theorem za8.cell {base:Nat} {w:World} {sp:Option Addr} {c:Nat} {l:List Pr} (h:za8 base w sp c l) (i:Nat) (hi:i<l.length) :
  ∃ g,sp=some ⟨g,0,none⟩∧base≤g∧w.cell? ⟨g,i*2,none⟩=some (.string l[i].nm)∧w.cell? ⟨g,i*2+1,none⟩=some (.slice l[i].ta l[i].tn l[i].tc):=by
 obtain⟨g,hs,hb,_,_,hc⟩:=ze1 h (by omega);exact⟨g,hs,hb,hc _ _ (zfi l i 0 hi (by omega)),hc _ _ (zfi l i 1 hi (by omega))⟩
theorem zfh {base:Nat} {w w':World} {T:TypeId} {k n m c:Nat} {sp:Option Addr} {xs:List Value} (h:w.ownsRow base T k (.slice sp m c) n xs) (hg:w.grownBy w' (blk sp)) (hb:base≤w.heap.size):Below base w w':=by
 have hs:∀ r,blk sp=some r→base≤r:=by
  intro r hr;rcases h.2 with⟨hv,h0⟩|⟨g,cap,cur,hv,hbg,_⟩
  ·simp only[Value.slice.injEq] at hv;rw[hv.1] at hr;cases hr
  ·simp only[Value.slice.injEq] at hv;rw[hv.1] at hr;cases hr;exact hbg
 exact⟨hg.os,hg.tape,hg.output,hg.size,fun g hgl=>hg.block g (Nat.lt_of_lt_of_le hgl hb) (fun e=>by have:=hs g e.symm;omega)⟩
section
variable {α:Type}
theorem zbr (q:α→Bool) (l:List α) (j:Nat) (h:j<l.length):(l.take (j+1)).filter q=(l.take j).filter q++(if q l[j] then [l[j]] else []):=by
 rw[List.take_succ_eq_append_getElem h,List.filter_append];simp only[List.filter_cons,List.filter_nil]
theorem za6 (q:α→Bool) (l:List α) (j:Nat):((l.take j).filter q).length≤j:=by
 have h1:=List.length_filter_le q (l.take j);have h2:(l.take j).length≤j:=by rw[List.length_take];omega
 omega
end
theorem zj2 (a b:ByteArray):Op.bytesLess a.toList b.toList=decide (Kord.lt a b):=by
 rw[Go.Proofs.bytesLess_eq,ByteArray.toList_eq,ByteArray.toList_eq];rfl
theorem zc (a b:ByteArray):(a.toList==b.toList)=decide (a=b):=by
 rw[ByteArray.toList_eq,ByteArray.toList_eq,Bool.eq_iff_iff,beq_iff_eq,decide_eq_true_eq];exact⟨fun h=>zet h,fun h=>by rw[h]⟩
theorem zae {base:Nat} {w w':World} {T:TypeId} {k n:Nat} {v:Value} {xs:List Value} (h:w.ownsRow base T k v n xs) (hb:Below w.heap.size w w'):w'.ownsRow base T k v n xs:=by
 refine⟨h.1,?_⟩;rcases h.2 with hv|⟨g,cap,cur,hv,hbg,hg,r⟩
 ·exact .inl hv
 ·exact .inr ⟨g,cap,cur,hv,hbg,(hb.block g (Array.getElem?_eq_some_iff.1 hg).1).trans hg,r⟩
theorem zb4 {base base':Nat} {w:World} {T:TypeId} {k n:Nat} {v:Value} {xs:List Value} (h:w.ownsRow base T k v n xs) (hb:base'≤base):w.ownsRow base' T k v n xs :=
 ⟨h.1,h.2.imp id (fun ⟨g,cap,cur,h1,h2,h3⟩=>⟨g,cap,cur,h1,Nat.le_trans hb h2,h3⟩)⟩
theorem zaw {w:World} {ops:Array Oper} {rest:List Oper} {o:Oper} {a:Act} {Q:Exit→Act→World→Prop} (hgd:o.guard=none) (s x:Operand)
  (ho:o.op=.call { callee:=.builtin .append,args:=#[s,x],argTypes:=#[42,42] }) (base:Nat) (sp:Option Addr) (n c:Nat) (l:List Rt) (hs:a.eval s=.slice sp n c) (hn:l.length=n) (hown:zdo base w sp c l)
  (B:Nat) (y:Rt) (hx:a.eval x=.slice (some ⟨B,0,none⟩) 1 1) (hB:w.heap[B]? = some (.cells (ze5 y).toArray 56 (0,0))) (hsz:n≤100000) (hbase:base≤w.heap.size)
  (h:∀ sp' c' w',zdo base w' sp' c' (l++[y])→Below base w w'→wpList Tryz.prog ops Q rest (a.put o.dst (.slice sp' (n+1) c')) w') :
  wpList Tryz.prog ops Q (o::rest) a w:=by
 subst hn;refine zb2 hgd s x _ _ ho zr2 Tryz.underlying42 rfl (by omega) base sp l.length c (zfo l) hs hown B (ze5 y) hx hB rfl (fun u hu=>zjd [y] u (by simpa [zfo] using hu)) (by omega) (by omega) hbase ?_;intro sp' c' w' h1 hg;refine h sp' c' w' ?_ (zfh hown hg hbase);unfold zdo;rw[List.length_append,show zfo (l++[y])=zfo l++ze5 y from by simp[zfo]];exact h1
theorem zcf {w:World} {ops:Array Oper} {rest:List Oper} {o:Oper} {a:Act} {Q:Exit→Act→World→Prop} (hgd:o.guard=none) (s x:Operand)
  (ho:o.op=.call { callee:=.builtin .append,args:=#[s,x],argTypes:=#[43,43] }) (base:Nat) (sp:Option Addr) (n c:Nat) (l:List Pr) (hs:a.eval s=.slice sp n c) (hn:l.length=n) (hown:za8 base w sp c l)
  (B:Nat) (y:Pr) (hx:a.eval x=.slice (some ⟨B,0,none⟩) 1 1) (hB:w.heap[B]? = some (.cells (zeb y).toArray 54 (0,0))) (hsz:n≤100000) (hbase:base≤w.heap.size)
  (h:∀ sp' c' w',za8 base w' sp' c' (l++[y])→Below base w w'→wpList Tryz.prog ops Q rest (a.put o.dst (.slice sp' (n+1) c')) w') :
  wpList Tryz.prog ops Q (o::rest) a w:=by
 subst hn;refine zb2 hgd s x _ _ ho zpz Tryz.underlying43 rfl (by omega) base sp l.length c (zb9 l) hs hown B (zeb y) hx hB rfl (fun u hu=>zg6 [y] u (by simpa [zb9] using hu)) (by omega) (by omega) hbase ?_;intro sp' c' w' h1 hg;refine h sp' c' w' ?_ (zfh hown hg hbase);unfold za8;rw[List.length_append,show zb9 (l++[y])=zb9 l++zeb y from by simp[zb9]];exact h1
def zlw (h:List Nat) (k e:Nat):Rt×Nat×Nat :=
 let a:=zcv h k e
 let b:=zcv h a.2.1 a.2.2
 let d:=zcv h b.2.1 b.2.2
 (⟨zdd a.1,zdd b.1,zdd d.1⟩,d.2.1,d.2.2)
def zje (h:List Nat):Nat→Nat→Nat→List Rt×Nat×Nat
 |0,k,e=>([],k,e)
 |n+1,k,e =>
  let a:=zlw h k e
  let r:=zje h n a.2.1 a.2.2
  (a.1::r.1,r.2.1,r.2.2)
def zql (h:List Nat) (k e:Nat):List Rt×Nat×Nat :=
 let a:=zcu h k e 64
 zje h a.1 a.2.1 a.2.2
theorem zqj (h:List Nat) (k e:Nat):zlw h k e=(⟨zdd (zcv h k e).1,zdd (zcv h (zcv h k e).2.1 (zcv h k e).2.2).1,zdd (zcv h (zcv h (zcv h k e).2.1 (zcv h k e).2.2).2.1 (zcv h (zcv h k e).2.1 (zcv h k e).2.2).2.2).1⟩,(zcv h (zcv h (zcv h k e).2.1 (zcv h k e).2.2).2.1 (zcv h (zcv h k e).2.1 (zcv h k e).2.2).2.2).2.1,(zcv h (zcv h (zcv h k e).2.1 (zcv h k e).2.2).2.1 (zcv h (zcv h k e).2.1 (zcv h k e).2.2).2.2).2.2):=rfl
theorem zgo (h:List Nat) (n k e:Nat):zje h (n+1) k e=((zlw h k e).1::(zje h n (zlw h k e).2.1 (zlw h k e).2.2).1,(zje h n (zlw h k e).2.1 (zlw h k e).2.2).2):=rfl
theorem zbf {base:Nat} {w w':World} {T:TypeId} {kk n R:Nat} {v:Value} {xs:List Value} (h:w.ownsRow base T kk v n xs) (g:w.grownBy w' (some R)) (hR:R<base):w'.ownsRow base T kk v n xs:=by
 refine⟨h.1,?_⟩;rcases h.2 with hv|⟨j,cap,cur,hv,hbg,hg,r⟩
 ·exact .inl hv
 ·exact .inr ⟨j,cap,cur,hv,hbg,(g.block j (Array.getElem?_eq_some_iff.1 hg).1 (fun e=>by have:=Option.some.inj e;omega)).trans hg,r⟩
section
variable {R:Nat} {w w':World} {p:Option Addr} {c:Nat} {h:List Nat} {k e:Nat}
def zsc (R:Nat) (w:World) (p:Option Addr) (c:Nat) (h:List Nat) (r:List Rt×Nat×Nat) (en:Ending) (w':World):Prop:=∃ sp n cc,en=.returned (.slice sp n cc)∧r.1.length=n∧zdo w.heap.size w' sp cc r.1∧KR R w' p c h r.2.1 r.2.2∧w.grownBy w' (some R)
theorem zjz (z:KR R w p c h k e):Calls Tryz.prog 56 #[.pointer (some ⟨R,0,none⟩)] w (zsc R w p c h (zql h k e)):=by
 have NC:=zaa (zcp z 64 (by omega));unfold zen at NC;have NL:=zaa (zdr h k e 64);have EQ:=zaa (show zql h k e=zje h (zcu h k e 64).1 (zcu h k e 64).2.1 (zcu h k e 64).2.2 from rfl);generalize zcu h k e 64=q at *;obtain⟨n,k1,e1⟩:=q;dsimp only at NC EQ NL;rw[show((64:Nat):Int)=64 from rfl] at NC;have Z0:=zaa z;have hR:=z.lt;have hn16:n≤64:=za NL;clear z;go_enter Tryz.func56,Tryz.ntmps56
 go_wp2_with fail
 go_at_call 100
 refine(za NC).mono ?_;rintro en V1 ⟨rfl,z1,g1⟩;have Z1:=zaa z1;have G1:=zaa g1;clear z1 g1 NC
 go_wp2_with fail
 go_loopw [3,4,5,8] (fun v s s2 i wr=>∃ (j:Nat) (sp:Option Addr) (m cc:Nat) (acc:List Rt) (kj ej:Nat),j≤n∧v=.slice sp m cc∧i=.int .i64 (j:Int)∧Hid (acc.length=m)∧m=j∧Hid (zdo w.heap.size wr sp cc acc)∧Hid (KR R wr p c h kj ej)∧Hid (w.grownBy wr (some R))∧Hid (zje h n k1 e1=(acc++(zje h (n - j) kj ej).1,(zje h (n - j) kj ej).2))) (fun _ _ _ i _=>n - (intOf i).toNat)
 case atStart=>exact⟨0,none,0,0,[],k1,e1,by omega,rfl,rfl,zaa rfl,rfl,zaa (zdo.ofNil _ _),Z1,G1,zaa rfl⟩
 case round =>
  obtain⟨j,sp,m,cc,acc,kj,ej,hj,rfl,rfl,hl,rfl,O,Z,G,E⟩:=hrel;by_cases hjm:m<n
  ·as_aux_lemma =>
   have y1:(m:Int)<(n:Int):=by omega
   have hj1:m+1≤n:=by omega
   have E2:=zaa (show zje h n k1 e1=(acc++[(zlw h kj ej).1]++(zje h (n - (m+1)) (zlw h kj ej).2.1 (zlw h kj ej).2.2).1,(zje h (n - (m+1)) (zlw h kj ej).2.1 (zlw h kj ej).2.2).2) by
    rw[za E,show n - m=(n - (m+1))+1 by omega,zgo]
    simp)
   have TC:=zaa (zc8 (za Z));unfold zlz at TC;have ET:=zaa (zqj h kj ej);generalize zlw h kj ej=q5 at *;generalize zcv h kj ej=q2 at *;obtain⟨tb,k2,e2⟩:=q2;dsimp only at TC ET
   go_wp2_with fail
   go_at_call 101
   refine(za TC).mono ?_;rintro en V2 ⟨rfl,z2,g2⟩;have G2:=zaa (zaj (za G) g2);have O2:=zaa (zbf (za O) g2 hR);have WC:=zaa (zc8 z2);unfold zlz at WC;generalize zcv h k2 e2=q3 at *;obtain⟨tb3,k3,e3⟩:=q3;dsimp only at WC ET;clear z2 g2 TC O G Z E;generalize zdd tb=s at *
   go_wp2_with fail
   go_at_call 101
   refine(za WC).mono ?_;rintro en V3 ⟨rfl,z3,g3⟩;have G3:=zaa (zaj (za G2) g3);have O3:=zaa (zbf (za O2) g3 hR);have WD:=zaa (zc8 z3);unfold zlz at WD;generalize zcv h k3 e3=q4 at *;obtain⟨tb4,k4,e4⟩:=q4;dsimp only at WD ET;have e4:=za ET;subst e4;dsimp only at E2;clear z3 g3 O2 G2 WC ET;generalize zdd tb3=s3 at *
   go_wp2_with fail
   go_at_call 101
   refine(za WD).mono ?_;rintro en V4 ⟨rfl,z4,g4⟩;have G4:=zaa (zaj (za G3) g4);have O4:=zaa (zbf (za O3) g4 hR);generalize zdd tb4=s4 at *;have bA:=zaa (show Below V4.heap.size V4 (V4.alloc (.cells #[.string s,.string s3,.string s4] 56)) from(Below.refl _ _).alloc (Nat.le_refl _) _);have XA:=zaa (show(V4.alloc (.cells #[.string s,.string s3,.string s4] 56)).heap[V4.heap.size]? = some (.cells (ze5 ⟨s,s3,s4⟩).toArray 56 (0,0)) from zac V4 _);have OA:=zaa (zae (za O4) (za bA));have G5:=zaa (zaj (za G4) (za5 (za bA) (some R)));have Z5:=zaa (z4.later (za bA));have SZ:=zaa (Nat.le_trans (za G4).size (za bA).size);clear z4 g4 WD O3 G3
   go_wp2_with (at_builtin;refine zaw rfl (.tmp 14) (.tmp 20) rfl w.heap.size sp m cc acc rfl (za hl) (by exact za OA) V4.heap.size ⟨s,s3,s4⟩ rfl (by exact za XA) (by omega) (za SZ) ?_;intro sp2 c2 W2 ho2 hb2;have O6:=zaa ho2;have B6:=zaa hb2;clear ho2 hb2)
   have Z6:=zaa ((za Z0).kept (za G5) (za Z5) (za B6));have G6:=zaa (zbj (za G5) (za B6));have E3:=zaa (show zje h n k1 e1=(acc++[⟨s,s3,s4⟩]++(zje h (n - (m+1)) k4 e4).1,(zje h (n - (m+1)) k4 e4).2) from za E2);exact⟨⟨m+1,sp2,m+1,c2,acc++[⟨s,s3,s4⟩],k4,e4,hj1,rfl,by go_num,zaa (by rw[List.length_append,za hl];rfl),rfl,O6,Z6,G6,E3⟩,by simp[intOf];omega⟩
  ·as_aux_lemma =>
   have y1:¬ (m:Int)<(n:Int):=by omega
   have FF:=zaa (show zsc R w p c h (zql h k e) (.returned (.slice sp m cc)) wr from by
    have h0:n - m=0:=by omega
    have e5:=za E;rw[h0] at e5;simp only[zje,List.append_nil] at e5;rw[za EQ,e5]
    exact⟨sp,m,cc,rfl,za hl,za O,za Z,za G⟩)
   clear E O Z G
   go_wp2
   go_ret
   exact za FF
end
end
section
open Go.ChangeShapes Go.WideShapes Go.ChangeAt Go.RowKit Go.Maps
instance:Kord Int where
 lt a b:=a<b
 irr:=Int.lt_irrefl
 tr h k:=Int.lt_trans h k
 tri:=Int.lt_trichotomy
 dlt a b:=inferInstanceAs (Decidable (a<b))
 deq:=inferInstance
def zb7 (v:Value):Option (DataW Value×List MemPlace):=some (.held v,[])
theorem zei {v u:Value} {ps:List MemPlace} (h:zb7 v=some (.held u,ps)):v=u:=by
 simp only[zb7,Option.some.injEq,Prod.mk.injEq,DataW.held.injEq] at h;exact h.1
structure Kx (P:Program) (K:TypeId) (κ:Type) where
 kv:κ→Value
 kl:κ→Lit
 ok:κ→Prop
 law:Keyed P K
 key:∀ {k},ok k→keyOf P K (kv k)=some (kl k)
 vinj:∀ {a b},kv a=kv b→a=b
 inv:∀ {v l},keyOf P K v=some l→∃ k,ok k∧v=kv k∧l=kl k
theorem znj {H:Type} {P:Program} {k:TypeId} {R:Value→Option (DataW H×List MemPlace)} {w:World} {b n:Nat} {D:DataW H} (h:w.ownsMap P k R b n D):w.ownsMap P k R b (Maps.size D) D:=by
 obtain⟨es,clock,hb,F,hs,rfl⟩:=h;refine⟨es,clock,hb,F,?_,rfl⟩;simp[Maps.size,length_sorted]
theorem Kx.inj {P:Program} {K:TypeId} {κ:Type} (X:Kx P K κ) {a b:κ} (ha:X.ok a) (hb:X.ok b) (h:X.kl a=X.kl b):a=b:=X.vinj (X.law.inj (X.key ha) (h ▸ X.key hb))
section
variable {P:Program} {K:TypeId} {κ:Type} [Kord κ]
structure MapG (X:Kx P K κ) (w:World) (B:Nat) (fs:List (κ×Value)):Prop where
 map:∃ D:DataW Value,w.ownsMap P K zb7 B fs.length D∧(∀ k,X.ok k→(Maps.has D (X.kl k)=true↔k∈fs.map (·.1)))∧(∀ x∈fs,∀ zd,D.atKey (X.kl x.1) zd=.held x.2)∧Maps.size D=fs.length
 okk:∀ x∈fs,X.ok x.1
 rise:Kr fs
variable {X:Kx P K κ} {w w':World} {B:Nat} {fs:List (κ×Value)}
theorem MapG.same (h:MapG X w B fs) (hb:w'.heap[B]? = w.heap[B]?):MapG X w' B fs:=by
 obtain⟨D,⟨es,k,h1,r⟩,r2⟩:=h.map;exact⟨⟨D,⟨es,k,hb.trans h1,r⟩,r2⟩,h.okk,h.rise⟩
theorem MapG.isMap (h:MapG X w B fs):∃ es k,w.heap[B]? = some (.map es k):=by
 obtain⟨D,⟨es,k,hb,_⟩,_⟩:=h.map;exact⟨es,k,hb⟩
theorem MapG.lt (h:MapG X w B fs):B<w.heap.size:=by
 obtain⟨es,k,hb⟩:=h.isMap;exact(Array.getElem?_eq_some_iff.1 hb).1
theorem MapG.later (h:MapG X w B fs) (hb:Below w.heap.size w w'):MapG X w' B fs:=h.same (hb.block B h.lt)
theorem MapG.made (X:Kx P K κ) (w:World):MapG X (w.alloc (.map #[] 0)) w.heap.size [] :=
 ⟨⟨_,World.ownsMap_made (H:=Value) w P K zb7,fun _ _=>by simp[Maps.has],by simp,rfl⟩,by simp,List.Pairwise.nil⟩
theorem MapG.look_yes (h:MapG X w B fs) {T E:TypeId} {z:Value} (ht:P.underlying T=some (.map K E)) (hz:(zeroValue E).run P w=.ok z w) {k:κ} {v:Value} (hk:zki k fs=some v) :
  (Instr.lookup T (.map (some B)) (X.kv k) true).run P w=.ok (.tuple #[v,.bool true]) w∧(Instr.lookup T (.map (some B)) (X.kv k) false).run P w=.ok v w:=by
 obtain⟨D,hD,hH,hA,_⟩:=h.map;have hF:=zht hk;have hok:=h.okk _ hF;have hh:Maps.has D (X.kl k)=true:=(hH _ hok).2 (List.mem_map.2 ⟨_,hF,rfl⟩);obtain⟨a,ps,hrun,hv⟩:=hD.look_ok X.law ht hz (zd:=.held z) (zp:=[]) rfl (X.key hok);obtain⟨b,ps2,hrun2,hv2⟩:=hD.lookup X.law ht hz (zd:=.held z) (zp:=[]) rfl (X.key hok);rw[hA _ hF] at hv hv2;rw[zei hv,hh] at hrun;rw[zei hv2] at hrun2;exact⟨hrun,hrun2⟩
theorem MapG.look_no (h:MapG X w B fs) {T E:TypeId} {z:Value} (ht:P.underlying T=some (.map K E)) (hz:(zeroValue E).run P w=.ok z w) {k:κ} (hok:X.ok k) (hk:zki k fs=none) :
  (Instr.lookup T (.map (some B)) (X.kv k) true).run P w=.ok (.tuple #[z,.bool false]) w∧(Instr.lookup T (.map (some B)) (X.kv k) false).run P w=.ok z w:=by
 obtain⟨D,hD,hH,hA,_⟩:=h.map;have hF:=zg.1 hk;have hh:Maps.has D (X.kl k)=false:=by
  cases e:Maps.has D (X.kl k) with
  |false=>rfl
  |true=>exact absurd ((hH _ hok).1 e) hF
 obtain⟨a,ps,hrun,hv⟩:=hD.look_ok X.law ht hz (zd:=.held z) (zp:=[]) rfl (X.key hok);obtain⟨b,ps2,hrun2,hv2⟩:=hD.lookup X.law ht hz (zd:=.held z) (zp:=[]) rfl (X.key hok);rw[atKey_of_not_has hh] at hv hv2;rw[zei hv,hh] at hrun;rw[zei hv2] at hrun2;exact⟨hrun,hrun2⟩
theorem MapG.len (h:MapG X w B fs) {T E:TypeId} (ht:P.underlying T=some (.map K E)) (ty:TypeId):(Builtin.len_ #[T] ty #[.map (some B)]).run P w=.ok (.int .i64 (fs.length:Int)) w:=by
 obtain⟨D,hD,hH,hA,hS⟩:=h.map;rw[← hS];exact hD.len ht ty
theorem MapG.store (h:MapG X w B fs) {T E:TypeId} (ht:P.underlying T=some (.map K E)) {k:κ} (hok:X.ok k) (v:Value) (hn:fs.length≤1000) :
  ∃ w',(Instr.mapUpdate T (.map (some B)) (X.kv k) v).run P w=.ok () w'∧MapG X w' B (zib k v fs)∧w.grownBy w' (some B)∧w'.heap.size=w.heap.size:=by
 obtain⟨D,hD,hH,hA,hS⟩:=h.map;have hr:=h.rise;obtain⟨w',hrun,r1,r2⟩:=hD.store X.law ht (show fs.length<maxLen by simp only[maxLen];omega) (X.key hok) (show zb7 v=some (.held v,[]) from rfl);have hmap:=hD.isMap;have hkey:=X.law.key (X.key hok);have hsz:w'.heap.size=w.heap.size:=by
  obtain⟨_,_,_,_,_,rfl⟩:=r2;simp[ChangeMaps.setBlock]
 have hSZ:Maps.size (D.put (X.kl k) (.held v))=(zib k v fs).length:=by
  rw[size_put (hD.tidy X.law),zic hr,hS];by_cases e:k∈fs.map (·.1)
  ·rw[if_pos e,if_pos ((hH _ hok).2 e)]
  ·rw[if_neg e,if_neg (fun e'=>e ((hH _ hok).1 e'))]
 refine⟨w',hrun,⟨⟨_,by rw[← hSZ];exact znj r1,fun y hy=>?_,fun y hy zd=>?_,hSZ⟩,fun y hy=>?_,hr.put _ _⟩,r2.grown,hsz⟩
 ·by_cases e:y=k
  ·subst e;rw[has_put_same hmap hkey];simp only[true_iff];exact List.mem_map.2 ⟨_,(zcz hr _).2 (.inl rfl),rfl⟩
  ·rw[has_put_other (fun e'=>e (X.inj hy hok e')),hH y hy];constructor
   ·intro hm;obtain⟨z,hz,rfl⟩:=List.mem_map.1 hm;exact List.mem_map.2 ⟨z,(zcz hr _).2 (.inr ⟨hz,e⟩),rfl⟩
   ·intro hm;obtain⟨z,hz,rfl⟩:=List.mem_map.1 hm;rcases(zcz hr _).1 hz with rfl|⟨hz,_⟩
    ·exact absurd rfl e
    ·exact List.mem_map.2 ⟨z,hz,rfl⟩
 ·rcases(zcz hr _).1 hy with rfl|⟨hy,e⟩
  ·exact atKey_put_same hmap hkey _ _
  ·rw[atKey_put_other (fun e'=>e (X.inj (h.okk _ hy) hok e')),hA y hy]
 ·rcases(zcz hr _).1 hy with rfl|⟨hy,_⟩
  ·exact hok
  ·exact h.okk _ hy
theorem MapG.drop (h:MapG X w B fs) {T E:TypeId} (ht:P.underlying T=some (.map K E)) {k:κ} (hok:X.ok k) (ty:TypeId) :
  ∃ w',(Builtin.delete_ #[T,K] ty #[.map (some B),X.kv k]).run P w=.ok (.tuple #[]) w'∧MapG X w' B (zp1 k fs)∧w.grownBy w' (some B)∧w'.heap.size=w.heap.size:=by
 obtain⟨D,hD,hH,hA,hS⟩:=h.map;have hr:=h.rise;obtain⟨w',hrun,r1,r2⟩:=hD.drop X.law ht (X.key hok) ty;have hsz:w'.heap.size=w.heap.size:=by
  obtain⟨_,_,_,_,_,rfl⟩:=r2;simp[ChangeMaps.setBlock]
 have hSZ:Maps.size (D.del (X.kl k))=(zp1 k fs).length:=by
  have h1:=size_del (k:=X.kl k) (hD.tidy X.law);have h2:=zia (k:=k) hr;by_cases e:k∈fs.map (·.1)
  ·rw[if_pos e] at h2;rw[if_pos ((hH _ hok).2 e)] at h1;omega
  ·rw[if_neg e] at h2;rw[if_neg (fun e'=>e ((hH _ hok).1 e'))] at h1;omega
 refine⟨w',hrun,⟨⟨_,by rw[← hSZ];exact znj r1,fun y hy=>?_,fun y hy zd=>?_,hSZ⟩,fun y hy=>h.okk _ ((zfg y).1 hy).1,hr.del _⟩,r2.grown,hsz⟩
 ·by_cases e:y=k
  ·subst e;rw[has_del_same];simp only[Bool.false_eq_true,false_iff];intro hm;obtain⟨z,hz,e⟩:=List.mem_map.1 hm;exact((zfg z).1 hz).2 e
  ·rw[has_del_other (fun e'=>e (X.inj hy hok e')),hH y hy];constructor
   ·intro hm;obtain⟨z,hz,rfl⟩:=List.mem_map.1 hm;exact List.mem_map.2 ⟨z,(zfg z).2 ⟨hz,e⟩,rfl⟩
   ·intro hm;obtain⟨z,hz,rfl⟩:=List.mem_map.1 hm;exact List.mem_map.2 ⟨z,((zfg z).1 hz).1,rfl⟩
 ·obtain⟨hy,e⟩:=(zfg y).1 hy;rw[atKey_del_other (fun e'=>e (X.inj (h.okk _ hy) hok e')),hA y hy]
end
def kxS:Kx Tryz.prog 9 ByteArray where
 kv s:=.string s
 kl s:=.string s.data.toList
 ok s:=s.size≤maxLen
 law:=string_keyed Tryz.underlying9
 key h:=WideMaps.keyOf_string_mk Tryz.underlying9 h
 vinj h:=by simpa using h
 inv {v l} h:=by
  cases v <;> simp[keyOf,Tryz.underlying9,mapKey] at h
  rename_i s
  exact⟨s,h.1,rfl,h.2.symm⟩
def kxI:Kx Tryz.prog 3 Int where
 kv n:=.int .i64 n
 kl n:=.int .i64 n
 ok n:=(Lit.int .i64 n).wf=true
 law:=int_keyed Tryz.underlying3
 key h:=keyOf_int_mk Tryz.underlying3 h
 vinj h:=by simpa using h
 inv {v l} h:=by
  cases v <;> simp[keyOf,Tryz.underlying3,mapKey] at h
  rename_i q n
  obtain⟨⟨rfl,h1⟩,h2⟩:=h;exact⟨n,h1,rfl,h2.symm⟩
theorem zq2:laidOutB Tryz.prog=true:=by kernel_rfl
theorem zgh:Keyed Tryz.prog 89:=Keyed.of_law (deep_law_laid zq2 (m:=Tryz.prog.types.size+1) (of_decide_eq_true (by kernel_rfl)) (of_decide_eq_true (by kernel_rfl)) (by kernel_rfl) (by kernel_rfl))
def plV (p:ByteArray×ByteArray):Value:=.agg #[.string p.1,.string p.2]
def plL (p:ByteArray×ByteArray):Lit:=.string (keyBytes [.string p.1.data.toList,.string p.2.data.toList])
theorem zme (m:Nat) (v:Value):Tryz.prog.keyLits (m+1) 9 [v]=(match v with | .string s=>if s.size≤maxLen then some [.string s.data.toList] else none|_=>none):=by
 unfold Program.keyLits;cases v <;> simp[Tryz.underlying9]
theorem zi6 (a b:Value):keyOf Tryz.prog 89 (.agg #[a,b])=(match a,b with | .string s,.string t=>if s.size≤maxLen then (if t.size≤maxLen then some (plL (s,t)) else none) else none|_,_=>none):=by
 have hk:Tryz.prog.keyType 89=true:=by kernel_rfl
 have hs:Tryz.prog.types.size+1=2+(Tryz.prog.types.size - 1):=by
  have:1≤Tryz.prog.types.size:=of_decide_eq_true (by kernel_rfl);omega
 have hcell:Tryz.prog.cellsOf 89=2:=by kernel_rfl
 have hc3:Tryz.prog.cellsOf 9=1:=by kernel_rfl
 unfold keyOf;simp only[Tryz.underlying89];rw[if_pos (by simp[hk,Value.formed,Tryz.underlying89,hcell]),hs,show 2+(Tryz.prog.types.size - 1)=(Tryz.prog.types.size - 1)+1+1 by omega];generalize Tryz.prog.types.size - 1=m;have h3:Tryz.prog.keyLits (m+1+1) 89 [a,b]=(match a,b with | .string s,.string t=>if s.size≤maxLen then (if t.size≤maxLen then some [.string s.data.toList,.string t.data.toList] else none) else none|_,_=>none):=by
  unfold Program.keyLits;simp only[Tryz.underlying89];rw[if_pos ⟨by rw[hcell];rfl,by kernel_rfl⟩];simp only[List.mapM_cons,List.mapM_nil,hc3,List.drop_zero,List.drop_succ_cons,List.take_succ_cons,List.take_zero,zme];cases a <;> try (simp;done)
  rename_i s
  by_cases h1:s.size≤maxLen
  ·cases b <;> try (simp[h1];done)
   rename_i t
   by_cases h2:t.size≤maxLen <;> simp[h1,h2]
  ·cases b <;> simp[h1]
 show(Tryz.prog.keyLits (m+1+1) 89 [a,b]).map _=_
 rw[h3];cases a <;> try rfl
 cases b <;> try rfl
 rename_i s t
 by_cases h1:s.size≤maxLen
 ·by_cases h2:t.size≤maxLen
  ·simp only[h1,h2,if_true];rfl
  ·simp only[h1,h2,if_true,if_false];rfl
 ·simp only[h1,if_false];rfl
def kxP:Kx Tryz.prog 89 (ByteArray×ByteArray) where
 kv p:=plV p
 kl p:=plL p
 ok p:=p.1.size≤maxLen∧p.2.size≤maxLen
 law:=zgh
 key {k} h:=by
  unfold plV;rw[zi6];simp only[h.1,h.2,if_true]
 vinj {a b} h:=by
  simp only[plV,Value.agg.injEq,Array.mk.injEq,List.cons.injEq,Value.string.injEq,and_true] at h;exact Prod.ext h.1 h.2
 inv {v l} h:=by
  have hc:Tryz.prog.cellsOf 89=2:=by kernel_rfl
  have hf:v.formed Tryz.prog 89=true:=by
   unfold keyOf at h;simp only[Tryz.underlying89] at h;split at h
   ·rename_i h1
    simp only[Bool.and_eq_true] at h1;exact h1.2
   ·cases h
  cases v <;> simp[Value.formed,Tryz.underlying89] at hf
  rename_i cs
  rw[hc] at hf;obtain⟨l2⟩:=cs;obtain⟨a,b,rfl⟩:∃ a b,l2=[a,b]:=by
   match l2,hf with
   |[a,b],_=>exact⟨a,b,rfl⟩
  rw[zi6] at h;cases a <;> try cases h
  cases b <;> try cases h
  rename_i s t
  simp only at h;split at h
  ·split at h
   ·rename_i h1 h2
    exact⟨(s,t),⟨h1,h2⟩,rfl,(Option.some.inj h).symm⟩
   ·cases h
  ·cases h
theorem zkh (w:World):(zeroValue 54).run Tryz.prog w=.ok (.agg #[.string ⟨#[]⟩,.slice none 0 0]) w:=by kernel_rfl
theorem zit (w:World):(zeroValue 56).run Tryz.prog w=.ok (.agg #[.string ⟨#[]⟩,.string ⟨#[]⟩,.string ⟨#[]⟩]) w:=by kernel_rfl
theorem zn4 (w:World):(zeroValue 74).run Tryz.prog w=.ok (.agg #[.int .i64 0,.int .i64 0,.int .i64 0]) w:=by kernel_rfl
theorem zok:Tryz.prog.underlying 75=some (.map 9 54):=Tryz.underlying75
theorem zk9:Tryz.prog.underlying 76=some (.map 89 56):=Tryz.underlying76
theorem zst:Tryz.prog.underlying 77=some (.map 3 74):=Tryz.underlying77
end
end Go.Proofs.YtjcjleaicjhpeaaGreatDoor
section
namespace Go.Proofs
open Go.RowKit Go.Sort Go.Shelf
def Tryz.sortF87_ren:Go.Shelf.Ren:=⟨fun|6=>87|15=>144|14=>146|28=>178|29=>179|20=>180|21=>181|22=>182|23=>183|24=>184|25=>185|26=>186|27=>187|46=>209|47=>205|48=>206|49=>210|50=>211|57=>220|n=>n,fun|22=>86|24=>89|25=>93|3=>3|39=>191|0=>0|53=>218|55=>143|4=>4|46=>210|45=>209|50=>215|5=>5|9=>9|66=>237|70=>241|76=>251|77=>252|n=>n,fun|n=>n⟩
theorem Tryz.sortF87:Go.Proofs.SlLaysF0.n6 Tryz.prog Tryz.sortF87_ren:={
 mixed:=by kernel_rfl
 f6:=⟨Tryz.f87.name,by decide,Tryz.func87.trans (congrArg some (by kernel_rfl))⟩
 f14:=⟨Tryz.f146.name,by decide,Tryz.func146.trans (congrArg some (by kernel_rfl))⟩
 f15:=Tryz.func144.trans (congrArg some (by kernel_rfl))
 f20:=⟨Tryz.f180.name,by decide,Tryz.func180.trans (congrArg some (by kernel_rfl))⟩
 f21:=⟨Tryz.f181.name,by decide,Tryz.func181.trans (congrArg some (by kernel_rfl))⟩
 f22:=⟨Tryz.f182.name,by decide,Tryz.func182.trans (congrArg some (by kernel_rfl))⟩
 f23:=⟨Tryz.f183.name,by decide,Tryz.func183.trans (congrArg some (by kernel_rfl))⟩
 f24:=⟨Tryz.f184.name,by decide,Tryz.func184.trans (congrArg some (by kernel_rfl))⟩
 f25:=⟨Tryz.f185.name,by decide,Tryz.func185.trans (congrArg some (by kernel_rfl))⟩
 f26:=⟨Tryz.f186.name,by decide,Tryz.func186.trans (congrArg some (by kernel_rfl))⟩
 f27:=⟨Tryz.f187.name,by decide,Tryz.func187.trans (congrArg some (by kernel_rfl))⟩
 f28:=Tryz.func178.trans (congrArg some (by kernel_rfl))
 f29:=Tryz.func179.trans (congrArg some (by kernel_rfl))
 f46:=⟨Tryz.f209.name,by decide,Tryz.func209.trans (congrArg some (by kernel_rfl))⟩
 f47:=Tryz.func205.trans (congrArg some (by kernel_rfl))
 f48:=Tryz.func206.trans (congrArg some (by kernel_rfl))
 f49:=⟨Tryz.f210.name,by decide,Tryz.func210.trans (congrArg some (by kernel_rfl))⟩
 f50:=⟨Tryz.f211.name,by decide,Tryz.func211.trans (congrArg some (by kernel_rfl))⟩
 f57:=⟨Tryz.f220.name,by decide,Tryz.func220.trans (congrArg some (by kernel_rfl))⟩
 t0:=Tryz.underlying0
 a0:=Tryz.isAgg0
 z0:=Tryz.sizeOf0
 v0:=Tryz.zeroValue0
 t3:=Tryz.underlying3
 a3:=Tryz.isAgg3
 z3:=Tryz.sizeOf3
 v3:=Tryz.zeroValue3
 t4:=Tryz.underlying4
 a4:=Tryz.isAgg4
 z4:=Tryz.sizeOf4
 v4:=Tryz.zeroValue4
 t5:=Tryz.underlying5
 a5:=Tryz.isAgg5
 z5:=Tryz.sizeOf5
 v5:=Tryz.zeroValue5
 t9:=Tryz.underlying9
 a9:=Tryz.isAgg9
 z9:=Tryz.sizeOf9
 v9:=Tryz.zeroValue9
 t22:=Tryz.underlying86
 a22:=Tryz.isAgg86
 z22:=Tryz.sizeOf86
 v22:=Tryz.zeroValue86
 t25:=Tryz.underlying93
 a25:=Tryz.isAgg93
 z25:=Tryz.sizeOf93
 v25:=Tryz.zeroValue93
 t39:=Tryz.underlying191
 a39:=Tryz.isAgg191
 z39:=Tryz.sizeOf191
 v39:=Tryz.zeroValue191
 t45:=Tryz.underlying209
 a45:=Tryz.isAgg209
 z45:=Tryz.sizeOf209
 v45:=Tryz.zeroValue209
 t46:=Tryz.underlying210
 a46:=Tryz.isAgg210
 z46:=Tryz.sizeOf210
 v46:=Tryz.zeroValue210
 t50:=Tryz.underlying215
 a50:=Tryz.isAgg215
 z50:=Tryz.sizeOf215
 v50:=Tryz.zeroValue215
 t53:=Tryz.underlying218
 a53:=Tryz.isAgg218
 z53:=Tryz.sizeOf218
 v53:=Tryz.zeroValue218
 t55:=Tryz.underlying143
 a55:=Tryz.isAgg143
 z55:=Tryz.sizeOf143
 v55:=Tryz.zeroValue143
 t66:=Tryz.underlying237
 a66:=Tryz.isAgg237
 z66:=Tryz.sizeOf237
 v66:=Tryz.zeroValue237
 t70:=Tryz.underlying241
 a70:=Tryz.isAgg241
 z70:=Tryz.sizeOf241
 v70:=Tryz.zeroValue241
 t76:=Tryz.underlying251
 a76:=Tryz.isAgg251
 z76:=Tryz.sizeOf251
 v76:=Tryz.zeroValue251
 t77:=Tryz.underlying252
 a77:=Tryz.isAgg252
 z77:=Tryz.sizeOf252
 v77:=Tryz.zeroValue252 }
end Go.Proofs
end
