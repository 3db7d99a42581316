/- Plane: slices.Clone of routes and of targets. -/
import Derived.Test.YtjcjleaicjhpeaaGreatDoorB08
import Derived.Test.YtjcjleaicjhpeaaGreatDoorProg
import Derived.Test.YtjcjleaicjhpeaaGreatDoorB03
import Derived.Sort.Walk0
import Derived.Test.YtjcjleaicjhpeaaGreatDoorB04
import Derived.Maps.OwnSet
import Derived.Maps.Views
import Derived.StringKeys
import Derived.ProofKit
import Derived.OpenShut
import Derived.Below
import Derived.WalkKit
set_option linter.unusedVariables false
set_option maxRecDepth 20000
set_option maxHeartbeats 16000000
namespace Go.Proofs.YtjcjleaicjhpeaaGreatDoor
section
open Go.ChangeShapes Go.WideShapes Go.ChangeAt Go.RowKit
theorem zkr {w:World} {ops:Array Oper} {o:Oper} {rest:List Oper} {a:Act} {Q:Exit→Act→World→Prop} (hgd:o.guard=none) (s x:Operand) (t e:TypeId)
  (ho:o.op=.call { callee:=.builtin .append,args:=#[s,x],argTypes:=#[t,t] })
  (i:TypeInfo) (z:Value) (size bytes:Nat) (ht:Tryz.prog.underlying t=some (.slice e)) (hi:Tryz.prog.info? e=some i) (hz:i.zero=some z) (hsize:i.size=size) (hby:i.bytes=bytes) (hzs:z.cells.size=size) (hsz:0<size)
  (E:Nat) (hs:a.eval s=.slice (some ⟨E,0,none⟩) 0 0) (hE:w.heap[E]? = some (.cells #[] e (0,0))) (ad:Option Addr) (m c:Nat) (hx:a.eval x=.slice ad m c) (hn:ad=none→m=0∧c=0) (news:List Value) (hl:news.length=m*size)
  (hnews:∀ b,ad=some b→∀ j u,news[j]? = some u→w.cell? (b.add j)=some u) (h1:∀ u∈news,u.oneCell'=true) (hm:m≤1000) (hbytes:m*bytes≤140737488355328)
  (hk:∀ g c' w',w'.ownsRow E e size (.slice (some ⟨g,0,none⟩) m c') m news→w.grownBy w' (some E)→(g=E∨g=w.heap.size)→wpList Tryz.prog ops Q rest (a.put o.dst (.slice (some ⟨g,0,none⟩) m c')) w') :
  wpList Tryz.prog ops Q (o::rest) a w:=by
 refine wpList_plain hgd fun K hK=>?_;obtain⟨g,c',w',hrun,h2,h3,h4⟩:=zjx t o.type e i z size bytes ht hi hz hsize hby hzs hsz E hE ad m c hn news hl hnews h1 hm hbytes;unfold Oper.wp;simp[execOp,ho,resolve,invoke,builtin,hs,hx,hrun,Result.andThen];exact hK _ _ (hk g c' w' h2 h3 h4)
theorem zm0 (ad:Addr) (n c:Nat) (w:World):(binOp .eql 31 (.slice (some ad) n c) (.slice none 0 0)).run Tryz.prog w=.ok (.bool false) w:=by kernel_rfl
theorem zmz (n c:Nat) (w:World):(binOp .eql 31 (.slice none n c) (.slice none 0 0)).run Tryz.prog w=.ok (.bool true) w:=by kernel_rfl
theorem zey (w:World) (a:Option Addr) (c:Nat) (l:List Tg) (h:TgsAt w a l) (hm:l.length≤1000) :
  Calls Tryz.prog 85 #[.slice a l.length c] w fun e w'=>∃ a' c',e=.returned (.slice a' l.length c')∧zbq w.heap.size w' a' c' l∧Below w.heap.size w w':=by
 cases a with
 |none =>
  have h0:=h.nil;obtain rfl:=List.eq_nil_of_length_eq_zero h0;have hq:=zmz 0 c w;have H:=zaa h;clear h h0 hm;simp only[List.length_nil];go_enter Tryz.func85,Tryz.ntmps85
  go_wp2
  go_ret
  exact⟨none,0,rfl,zbq.ofNil _ _,Below.refl _ _⟩
 |some ad =>
  have hq:=zm0 ad l.length c w;have b1:=zaa (show Below w.heap.size w (w.alloc (.cells #[] 70)) from(Below.refl _ _).alloc (Nat.le_refl _) _);have H1:=zaa (h.later (za b1));have HL:=zaa hm;have HI:=ztb;obtain⟨i0,hi,hio⟩:=Option.map_eq_some_iff.1 HI;simp only[Prod.mk.injEq] at hio;obtain⟨i1,i2,i3⟩:=hio;have I0:=zaa hi;have I1:=zaa i1;have I2:=zaa i2;have I3:=zaa i3;clear h hm HI hi i1 i2 i3;go_enter Tryz.func85,Tryz.ntmps85
  go_wp2_with (at_builtin;refine za ?_)
  refine zaa ?_;refine zkr rfl (.tmp 5) (.tmp 6) 31 70 rfl i0 _ 2 24 Tryz.underlying31 (za I0) (za I1) (za I2) (za I3) rfl (by omega) w.heap.size rfl (zad w _) (some ad) l.length c rfl (fun e=>by cases e) (zcr l) (zce l) (za H1).news (zbl l) (za HL) (by have:=za HL;omega) ?_;intro g c' W2 ho hg hge;have B2:=zaa ((za b1).grown hg (za b1).size (fun g hg=>by have:=Option.some.inj hg;omega));have O2:=zaa (show zbq w.heap.size W2 (some ⟨g,0,none⟩) c' l from ho);have GE:=zaa (show w.heap.size≤g by rcases hge with e|e <;> have:=(za b1).size <;> omega);clear ho hg hge
  go_wp2
  go_ret
  exact⟨some ⟨g,0,none⟩,c',rfl,za O2,za B2⟩
structure Pr where
 nm:ByteArray
 ta:Option Addr
 tn:Nat
 tc:Nat
def zfm (x:Pr):List Value:=[.string x.nm,.slice x.ta x.tn x.tc]
def zdh (l:List Pr):List Value:=l.flatMap zfm
theorem zfh:∀ (xs:List Pr) (i f:Nat) (hi:i<xs.length) (_:f<2),(zdh xs)[i*2+f]? = (zfm xs[i])[f]?
 |[],i,_,hi,_=>by simp at hi
 |x::xs,0,f,_,hf=>by
  simp only[zdh,List.flatMap_cons,Nat.zero_mul,Nat.zero_add,List.getElem_cons_zero];rw[List.getElem?_append_left (show f<(zfm x).length from hf)]
 |x::xs,i+1,f,hi,hf=>by
  have ih:=zfh xs i f (by simpa using hi) hf;simp only[zdh,List.flatMap_cons,List.getElem_cons_succ] at ih ⊢;rw[List.getElem?_append_right (by rw[show(zfm x).length=2 from rfl];omega)];have e4:(i+1)*2+f - (zfm x).length=i*2+f:=by rw[show(zfm x).length=2 from rfl];omega
  rw[e4];exact ih
theorem zjw (l:List Pr):∀ u∈zdh l,u.oneCell'=true:=by
 intro u hu;obtain⟨x,_,hx⟩:=List.mem_flatMap.1 hu;simp only[zfm,List.mem_cons,List.not_mem_nil,or_false] at hx;rcases hx with rfl|rfl <;> rfl
def zeq (base:Nat) (w:World) (sp:Option Addr) (c:Nat) (l:List Pr):Prop:=w.ownsRow base 54 2 (.slice sp l.length c) l.length (zdh l)
theorem zeq.ofNil (base:Nat) (w:World):zeq base w none 0 []:=w.ownsRow_nil base 54 2
theorem zbq.keep {base:Nat} {w w':World} {sp:Option Addr} {c:Nat} {l:List Tg} (h:zbq base w sp c l) (hb:∀ g,sp.map (·.block)=some g→base≤g→g<w.heap.size→w'.heap[g]? = w.heap[g]?):zbq base w' sp c l:=by
 refine⟨h.1,?_⟩;rcases h.2 with hv|⟨g',cap,cur,hv,hbg,hg,r⟩
 ·exact .inl hv
 ·have hv':=hv;simp only[Value.slice.injEq] at hv';obtain⟨rfl,_⟩:=hv';exact .inr ⟨g',cap,cur,hv,hbg,(hb g' rfl hbg (Array.getElem?_eq_some_iff.1 hg).1).trans hg,r⟩
theorem zbq.cap {base:Nat} {w:World} {sp:Option Addr} {c:Nat} {l:List Tg} (h:zbq base w sp c l):l.length≤c∧(sp=none→c=0):=by
 rcases h.2 with⟨hv,h0⟩|⟨g',cap,cur,hv,hbg,hg',hle,r⟩
 ·simp only[Value.slice.injEq] at hv;exact⟨by omega,fun _=>hv.2.2⟩
 ·simp only[Value.slice.injEq] at hv;obtain⟨rfl,_,rfl⟩:=hv;exact⟨hle,fun e=>by cases e⟩
end
section
class Kord (κ:Type) where
 lt:κ→κ→Prop
 irr:∀ a,¬ lt a a
 tr:∀ {a b c},lt a b→lt b c→lt a c
 tri:∀ a b,lt a b∨a=b∨lt b a
 dlt:∀ a b,Decidable (lt a b)
 deq:DecidableEq κ
instance instDlt {κ:Type} [Kord κ] (a b:κ):Decidable (Kord.lt a b):=Kord.dlt a b
instance instDeq {κ:Type} [Kord κ]:DecidableEq κ:=Kord.deq
theorem zex {a b:ByteArray} (h:a.data.toList=b.data.toList):a=b:=by
 cases a;cases b;simp only[ByteArray.mk.injEq] at *;exact Array.toList_inj.1 h
instance:Kord ByteArray where
 lt a b:=a.data.toList<b.data.toList
 irr a:=List.lt_irrefl _
 tr h k:=List.lt_trans h k
 tri a b:=by
  by_cases h:a.data.toList<b.data.toList
  ·exact .inl h
  ·by_cases k:b.data.toList<a.data.toList
   ·exact .inr (.inr k)
   ·exact .inr (.inl (zex (List.le_antisymm (List.not_lt.1 k) (List.not_lt.1 h))))
 dlt a b:=inferInstanceAs (Decidable (a.data.toList<b.data.toList))
 deq:=inferInstance
instance:Kord Nat where
 lt a b:=a<b
 irr:=Nat.lt_irrefl
 tr h k:=Nat.lt_trans h k
 tri:=Nat.lt_trichotomy
 dlt a b:=inferInstanceAs (Decidable (a<b))
 deq:=inferInstance
instance {α β:Type} [Kord α] [Kord β]:Kord (α×β) where
 lt a b:=Kord.lt a.1 b.1∨(a.1=b.1∧Kord.lt a.2 b.2)
 irr a h:=h.elim (Kord.irr _) (fun k=>Kord.irr _ k.2)
 tr:=by
  rintro a b c (h|⟨e,h⟩) (k|⟨f,k⟩)
  ·exact .inl (Kord.tr h k)
  ·exact .inl (f ▸ h)
  ·exact .inl (by rw[e];exact k)
  ·exact .inr ⟨e.trans f,Kord.tr h k⟩
 tri a b:=by
  rcases Kord.tri a.1 b.1 with h|h|h
  ·exact .inl (.inl h)
  ·rcases Kord.tri a.2 b.2 with k|k|k
   ·exact .inl (.inr ⟨h,k⟩)
   ·exact .inr (.inl (Prod.ext h k))
   ·exact .inr (.inr (.inr ⟨h.symm,k⟩))
  ·exact .inr (.inr (.inl h))
 dlt a b:=inferInstanceAs (Decidable (Kord.lt a.1 b.1∨(a.1=b.1∧Kord.lt a.2 b.2)))
 deq:=inferInstance
section
variable {κ α β:Type} [Kord κ]
def Kr (fs:List (κ×α)):Prop:=fs.Pairwise (fun x y=>Kord.lt x.1 y.1)
def zlc (k:κ) (v:α):List (κ×α)→List (κ×α)
 |[]=>[(k,v)]
 |x::r=>if Kord.lt x.1 k then x::zlc k v r else if x.1=k then (k,v)::r else (k,v)::x::r
def zrr (k:κ) (fs:List (κ×α)):List (κ×α):=fs.filter (fun x=>decide (x.1≠k))
def zmk (k:κ):List (κ×α)→Option α
 |[]=>none
 |x::r=>if x.1=k then some x.2 else zmk k r
theorem Kr.nodup {fs:List (κ×α)} (h:Kr fs):(fs.map (·.1)).Nodup:=by
 rw[List.Nodup,List.pairwise_map];refine List.Pairwise.imp ?_ (show fs.Pairwise (fun x y=>Kord.lt x.1 y.1) from h);intro a b hab e;rw[e] at hab;exact Kord.irr _ hab
theorem Kr.one {fs:List (κ×α)} (h:Kr fs) {x y:κ×α} (hx:x∈fs) (hy:y∈fs) (e:x.1=y.1):x=y:=by
 induction fs with
 |nil=>simp at hx
 |cons z r ih =>
  have h1:=List.pairwise_cons.1 h;rcases List.mem_cons.1 hx with hx|hx <;> rcases List.mem_cons.1 hy with hy|hy
  ·rw[hx,hy]
  ·exact absurd (show Kord.lt y.1 y.1 by have:=h1.1 y hy;rw[← hx,e] at this;exact this) (Kord.irr _)
  ·exact absurd (show Kord.lt y.1 y.1 by have:=h1.1 x hx;rw[← hy,e] at this;exact this) (Kord.irr _)
  ·exact ih h1.2 hx hy
theorem zei {k:κ} {v:α} : ∀ {fs:List (κ×α)},Kr fs→∀ y,y∈zlc k v fs↔(y=(k,v)∨(y∈fs∧y.1≠k))
 |[],_,y=>by simp[zlc]
 |x::r,h,y=>by
  have h1:=List.pairwise_cons.1 h;have hr:∀ {z},z∈r→¬ Kord.lt x.1 k→z.1≠k:=fun {z} hz hn e=>hn (e ▸ h1.1 z hz);unfold zlc;by_cases h2:Kord.lt x.1 k
  ·rw[if_pos h2,List.mem_cons,zei h1.2 y,List.mem_cons];have:x.1≠k:=fun e=>Kord.irr _ (e ▸ h2);constructor
   ·rintro(rfl|h|h)
    ·exact .inr ⟨.inl rfl,this⟩
    ·exact .inl h
    ·exact .inr ⟨.inr h.1,h.2⟩
   ·rintro(h|⟨rfl|h,hk⟩)
    ·exact .inr (.inl h)
    ·exact .inl rfl
    ·exact .inr (.inr ⟨h,hk⟩)
  ·rw[if_neg h2];by_cases h3:x.1=k
   ·rw[if_pos h3,List.mem_cons,List.mem_cons];constructor
    ·rintro(h|h)
     ·exact .inl h
     ·exact .inr ⟨.inr h,hr h h2⟩
    ·rintro(h|⟨rfl|h,hk⟩)
     ·exact .inl h
     ·exact absurd h3 hk
     ·exact .inr h
   ·rw[if_neg h3,List.mem_cons,List.mem_cons];constructor
    ·rintro(h|rfl|h)
     ·exact .inl h
     ·exact .inr ⟨.inl rfl,h3⟩
     ·exact .inr ⟨.inr h,hr h h2⟩
    ·rintro(h|⟨h,hk⟩)
     ·exact .inl h
     ·exact .inr h
theorem Kr.put {fs:List (κ×α)} (h:Kr fs) (k:κ) (v:α):Kr (zlc k v fs):=by
 induction fs with
 |nil=>exact List.pairwise_singleton _ _
 |cons x r ih =>
  have h1:=List.pairwise_cons.1 h;unfold zlc;by_cases h2:Kord.lt x.1 k
  ·rw[if_pos h2];refine List.pairwise_cons.2 ⟨fun y hy=>?_,ih h1.2⟩;rcases(zei h1.2 y).1 hy with rfl|⟨hy,_⟩
   ·exact h2
   ·exact h1.1 y hy
  ·rw[if_neg h2];by_cases h3:x.1=k
   ·rw[if_pos h3];exact List.pairwise_cons.2 ⟨fun y hy=>by have:=h1.1 y hy;rw[h3] at this;exact this,h1.2⟩
   ·rw[if_neg h3];have h4:Kord.lt k x.1:=((Kord.tri x.1 k).resolve_left h2).resolve_left h3;refine List.pairwise_cons.2 ⟨fun y hy=>?_,h⟩;rcases List.mem_cons.1 hy with rfl|hy
    ·exact h4
    ·exact Kord.tr h4 (h1.1 y hy)
theorem Kr.del {fs:List (κ×α)} (h:Kr fs) (k:κ):Kr (zrr k fs):=h.sublist List.filter_sublist
theorem zgc {fs:List (κ×α)} {k:κ} (y:κ×α):y∈zrr k fs↔(y∈fs∧y.1≠k):=by simp[zrr]
theorem zik {k:κ} {v:α} : ∀ {fs:List (κ×α)},Kr fs→(zlc k v fs).length=if k∈fs.map (·.1) then fs.length else fs.length+1
 |[],_=>by simp[zlc]
 |x::r,h=>by
  have h1:=List.pairwise_cons.1 h;have ih:=zik (k:=k) (v:=v) h1.2;unfold zlc;by_cases h2:Kord.lt x.1 k
  ·have h3:k≠x.1:=fun e=>Kord.irr _ (e ▸ h2);rw[if_pos h2,List.length_cons,ih];simp only[List.map_cons,List.mem_cons,h3,false_or,List.length_cons];split <;> rfl
  ·rw[if_neg h2];by_cases h3:x.1=k
   ·rw[if_pos h3];simp[h3]
   ·rw[if_neg h3];have h4:k ∉ (x::r).map (·.1):=by
     intro hm;simp only[List.map_cons,List.mem_cons] at hm;rcases hm with e|hm
     ·exact h3 e.symm
     ·obtain⟨z,hz,e⟩:=List.mem_map.1 hm;exact h2 (e ▸ h1.1 z hz)
    rw[if_neg h4];rfl
theorem zii {k:κ} : ∀ {fs:List (κ×α)},Kr fs→(zrr k fs).length+(if k∈fs.map (·.1) then 1 else 0)=fs.length
 |[],_=>by simp[zrr]
 |x::r,h=>by
  have h1:=List.pairwise_cons.1 h;have ih:=zii (k:=k) h1.2;unfold zrr at ih ⊢;rw[List.filter_cons];by_cases h3:x.1=k
  ·have h4:k ∉ r.map (·.1):=fun hm=>by
    obtain⟨z,hz,e⟩:=List.mem_map.1 hm;have:=h1.1 z hz;rw[e,h3] at this;exact Kord.irr _ this
   rw[if_neg h4] at ih;simp[h3] at ih ⊢;exact ih
  ·have h5:(k=x.1)=False:=by simp;exact fun e=>h3 e.symm
   rw[if_pos (by simpa using h3)];simp only[List.length_cons,List.map_cons,List.mem_cons,h5,false_or];omega
theorem zij {k:κ} : ∀ {fs:List (κ×α)},zmk k fs=none↔k ∉ fs.map (·.1)
 |[]=>by simp[zmk]
 |x::r=>by
  unfold zmk;by_cases h:x.1=k
  ·simp[h]
  ·rw[if_neg h,zij];have:¬ k=x.1:=fun e=>h e.symm;simp only[List.map_cons,List.mem_cons,this,false_or]
theorem zht {k:κ} {v:α} : ∀ {fs:List (κ×α)},zmk k fs=some v→(k,v)∈fs
 |[],h=>by simp[zmk] at h
 |x::r,h=>by
  unfold zmk at h;by_cases e:x.1=k
  ·rw[if_pos e] at h;cases h
   rw[← e];exact List.mem_cons_self
  ·rw[if_neg e] at h;exact List.mem_cons_of_mem _ (zht h)
theorem Kr.get {fs:List (κ×α)} (h:Kr fs) {k:κ} {v:α} (hm:(k,v)∈fs):zmk k fs=some v:=by
 cases e:zmk k fs with
 |none=>exact absurd (List.mem_map.2 ⟨_,hm,rfl⟩) (zij.1 e)
 |some u =>
  have:=h.one hm (zht e) rfl;simp only[Prod.mk.injEq,true_and] at this;rw[this]
end
end
section
open Go.ChangeShapes Go.WideShapes Go.ChangeAt Go.RowKit
theorem zd2 {w:World} {ops:Array Oper} {rest:List Oper} {o:Oper} {a:Act} {Q:Exit→Act→World→Prop} (hgd:o.guard=none) (s x:Operand) (t e:TypeId)
  (ho:o.op=.call { callee:=.builtin .append,args:=#[s,x],argTypes:=#[t,t] })
  {zv:Value} {size bytes:Nat} (hi:(Tryz.prog.info? e).map (fun i=>(i.zero,i.size,i.bytes))=some (some zv,size,bytes)) (ht:Tryz.prog.underlying t=some (.slice e)) (hzs:zv.cells.size=size) (hsz:0<size)
  (base:Nat) (sp:Option Addr) (n c:Nat) (xs:List Value) (hs:a.eval s=.slice sp n c) (hown:w.ownsRow base e size (.slice sp n c) n xs)
  (B:Nat) (row:List Value) (hx:a.eval x=.slice (some ⟨B,0,none⟩) 1 1) (hB:w.heap[B]? = some (.cells row.toArray e (0,0))) (hrl:row.length=1*size) (h1:∀ u∈row,u.oneCell'=true) (hbytes:(n+1)*bytes≤140737488355328) (hn:n≤1000000) (hbase:base≤w.heap.size)
  (hk:∀ sp' c' w',w'.ownsRow base e size (.slice sp' (n+1) c') (n+1) (xs++row)→w.grownBy w' (blk sp)→wpList Tryz.prog ops Q rest (a.put o.dst (.slice sp' (n+1) c')) w') :
  wpList Tryz.prog ops Q (o::rest) a w:=by
 obtain⟨i0,hi',hz0,hz1,hz2⟩:=info_parts hi;refine wpList_plain hgd fun K hK=>?_;obtain⟨v',w',hrun,g1,g2,g3⟩:=run_append_own (P:=Tryz.prog) w base t o.type e i0 zv size bytes ht hi' hz0 hz1 hz2 hzs hsz _ _ _ hown ⟨B,0,none⟩ 1 1 row hrl
  (fun j u hu=>by
   rw[Addr.add_lit,Nat.zero_add,cell_of_row _ _ _ _ _ _ hB]
   rw[← hu,← Array.getElem?_toList]) h1 (by simp only[maxLen];omega) hbytes hbase
 have hv:∃ sp' c',v'=.slice sp' (n+1) c':=by
  rcases g1.2 with⟨hv,h0⟩|⟨g,cap,cur,hv,_⟩
  ·omega
  ·exact⟨_,_,hv⟩
 obtain⟨sp',c',rfl⟩:=hv;unfold Oper.wp;simp[execOp,ho,resolve,invoke,builtin,hs,hx,hrun,Result.andThen];exact hK _ _ (hk sp' c' w' g1 (by rw[← zbd sp n c];exact g2))
def zku (base:Nat) (w:World) (sp:Option Addr) (c:Nat) (l:List Rt):Prop:=w.ownsRow base 56 3 (.slice sp l.length c) l.length (zch l)
theorem zku.ofNil (base:Nat) (w:World):zku base w none 0 []:=w.ownsRow_nil base 56 3
theorem ze6 {base:Nat} {w:World} {T:TypeId} {k n c:Nat} {sp:Option Addr} {xs:List Value} (h:w.ownsRow base T k (.slice sp n c) n xs) (hn:0<n) :
  ∃ g,sp=some ⟨g,0,none⟩∧base≤g∧(∃ cur,w.heap[g]? = some (.cells cur T (0,0)))∧n≤c∧∀ j u,xs[j]? = some u→w.cell? ⟨g,j,none⟩=some u:=by
 rcases h.2 with⟨hv,h0⟩|⟨g,cap,cur,hv,hb,hg,hle,hmx,hsz,ht⟩
 ·omega
 ·simp only[Value.slice.injEq] at hv;obtain⟨rfl,_,rfl⟩:=hv;refine⟨g,rfl,hb,⟨cur,hg⟩,hle,fun j u hu=>?_⟩;have hj:j<n*k:=by
   have:=(List.getElem?_eq_some_iff.1 hu).1;rw[h.1] at this;exact this
  rw[cell_of_row w g _ cur _ _ hg,← Array.getElem?_toList,← hu,← ht,List.getElem?_take,if_pos hj]
theorem zku.cell {base:Nat} {w:World} {sp:Option Addr} {c:Nat} {l:List Rt} (h:zku base w sp c l) (i:Nat) (hi:i<l.length) :
  ∃ g,sp=some ⟨g,0,none⟩∧base≤g∧w.cell? ⟨g,i*3,none⟩=some (.string l[i].h)∧w.cell? ⟨g,i*3+1,none⟩=some (.string l[i].p)∧w.cell? ⟨g,i*3+2,none⟩=some (.string l[i].l):=by
 obtain⟨g,hs,hb,_,_,hc⟩:=ze6 h (by omega);exact⟨g,hs,hb,hc _ _ (zeb l i 0 hi (by omega)),hc _ _ (zeb l i 1 hi (by omega)),hc _ _ (zeb l i 2 hi (by omega))⟩
theorem zeq.cell {base:Nat} {w:World} {sp:Option Addr} {c:Nat} {l:List Pr} (h:zeq base w sp c l) (i:Nat) (hi:i<l.length) :
  ∃ g,sp=some ⟨g,0,none⟩∧base≤g∧w.cell? ⟨g,i*2,none⟩=some (.string l[i].nm)∧w.cell? ⟨g,i*2+1,none⟩=some (.slice l[i].ta l[i].tn l[i].tc):=by
 obtain⟨g,hs,hb,_,_,hc⟩:=ze6 h (by omega);exact⟨g,hs,hb,hc _ _ (zfh l i 0 hi (by omega)),hc _ _ (zfh l i 1 hi (by omega))⟩
theorem zbt {base:Nat} {w w':World} {T:TypeId} {k n m c:Nat} {sp:Option Addr} {xs:List Value} (h:w.ownsRow base T k (.slice sp m c) n xs) (hg:w.grownBy w' (blk sp)) (hb:base≤w.heap.size):Below base w w':=by
 have hs:∀ r,blk sp=some r→base≤r:=by
  intro r hr;rcases h.2 with⟨hv,h0⟩|⟨g,cap,cur,hv,hbg,_⟩
  ·simp only[Value.slice.injEq] at hv;rw[hv.1] at hr;cases hr
  ·simp only[Value.slice.injEq] at hv;rw[hv.1] at hr;cases hr;exact hbg
 exact⟨hg.os,hg.tape,hg.output,hg.size,fun g hgl=>hg.block g (Nat.lt_of_lt_of_le hgl hb) (fun e=>by have:=hs g e.symm;omega)⟩
section
variable {α:Type}
end
theorem zqs (a b:ByteArray):Op.bytesLess a.toList b.toList=decide (Kord.lt a b):=by
 rw[Go.Proofs.bytesLess_eq,ByteArray.toList_eq,ByteArray.toList_eq];rfl
theorem zrh (a b:ByteArray):(a.toList==b.toList)=decide (a=b):=by
 rw[ByteArray.toList_eq,ByteArray.toList_eq,Bool.eq_iff_iff,beq_iff_eq,decide_eq_true_eq];exact⟨fun h=>zex h,fun h=>by rw[h]⟩
theorem zb0 {base:Nat} {w w':World} {T:TypeId} {k n:Nat} {v:Value} {xs:List Value} (h:w.ownsRow base T k v n xs) (hb:Below w.heap.size w w'):w'.ownsRow base T k v n xs:=by
 refine⟨h.1,?_⟩;rcases h.2 with hv|⟨g,cap,cur,hv,hbg,hg,r⟩
 ·exact .inl hv
 ·exact .inr ⟨g,cap,cur,hv,hbg,(hb.block g (Array.getElem?_eq_some_iff.1 hg).1).trans hg,r⟩
theorem zhv {base base':Nat} {w:World} {T:TypeId} {k n:Nat} {v:Value} {xs:List Value} (h:w.ownsRow base T k v n xs) (hb:base'≤base):w.ownsRow base' T k v n xs :=
 ⟨h.1,h.2.imp id (fun ⟨g,cap,cur,h1,h2,h3⟩=>⟨g,cap,cur,h1,Nat.le_trans hb h2,h3⟩)⟩
theorem zjc {w:World} {ops:Array Oper} {rest:List Oper} {o:Oper} {a:Act} {Q:Exit→Act→World→Prop} (hgd:o.guard=none) (s x:Operand)
  (ho:o.op=.call { callee:=.builtin .append,args:=#[s,x],argTypes:=#[42,42] }) (base:Nat) (sp:Option Addr) (n c:Nat) (l:List Rt) (hs:a.eval s=.slice sp n c) (hn:l.length=n) (hown:zku base w sp c l)
  (B:Nat) (y:Rt) (hx:a.eval x=.slice (some ⟨B,0,none⟩) 1 1) (hB:w.heap[B]? = some (.cells (zd0 y).toArray 56 (0,0))) (hsz:n≤100000) (hbase:base≤w.heap.size)
  (h:∀ sp' c' w',zku base w' sp' c' (l++[y])→Below base w w'→wpList Tryz.prog ops Q rest (a.put o.dst (.slice sp' (n+1) c')) w') :
  wpList Tryz.prog ops Q (o::rest) a w:=by
 subst hn;refine zd2 hgd s x _ _ ho zqq Tryz.underlying42 rfl (by omega) base sp l.length c (zch l) hs hown B (zd0 y) hx hB rfl (fun u hu=>zec [y] u (by simpa [zch] using hu)) (by omega) (by omega) hbase ?_;intro sp' c' w' h1 hg;refine h sp' c' w' ?_ (zbt hown hg hbase);unfold zku;rw[List.length_append,show zch (l++[y])=zch l++zd0 y from by simp[zch]];exact h1
def zho (h:List Nat) (k e:Nat):Rt×Nat×Nat :=
 let a:=zbp h k e
 let b:=zbp h a.2.1 a.2.2
 let d:=zbp h b.2.1 b.2.2
 (⟨zaj a.1,zaj b.1,zaj d.1⟩,d.2.1,d.2.2)
def zhw (h:List Nat):Nat→Nat→Nat→List Rt×Nat×Nat
 |0,k,e=>([],k,e)
 |n+1,k,e =>
  let a:=zho h k e
  let r:=zhw h n a.2.1 a.2.2
  (a.1::r.1,r.2.1,r.2.2)
def zom (h:List Nat) (k e:Nat):List Rt×Nat×Nat :=
 let a:=zbo h k e 64
 zhw h a.1 a.2.1 a.2.2
theorem zrf (h:List Nat) (k e:Nat):zho h k e=(⟨zaj (zbp h k e).1,zaj (zbp h (zbp h k e).2.1 (zbp h k e).2.2).1,zaj (zbp h (zbp h (zbp h k e).2.1 (zbp h k e).2.2).2.1 (zbp h (zbp h k e).2.1 (zbp h k e).2.2).2.2).1⟩,(zbp h (zbp h (zbp h k e).2.1 (zbp h k e).2.2).2.1 (zbp h (zbp h k e).2.1 (zbp h k e).2.2).2.2).2.1,(zbp h (zbp h (zbp h k e).2.1 (zbp h k e).2.2).2.1 (zbp h (zbp h k e).2.1 (zbp h k e).2.2).2.2).2.2):=rfl
theorem zed (h:List Nat) (n k e:Nat):zhw h (n+1) k e=((zho h k e).1::(zhw h n (zho h k e).2.1 (zho h k e).2.2).1,(zhw h n (zho h k e).2.1 (zho h k e).2.2).2):=rfl
theorem zar {base:Nat} {w w':World} {T:TypeId} {kk n R:Nat} {v:Value} {xs:List Value} (h:w.ownsRow base T kk v n xs) (g:w.grownBy w' (some R)) (hR:R<base):w'.ownsRow base T kk v n xs:=by
 refine⟨h.1,?_⟩;rcases h.2 with hv|⟨j,cap,cur,hv,hbg,hg,r⟩
 ·exact .inl hv
 ·exact .inr ⟨j,cap,cur,hv,hbg,(g.block j (Array.getElem?_eq_some_iff.1 hg).1 (fun e=>by have:=Option.some.inj e;omega)).trans hg,r⟩
section
variable {R:Nat} {w w':World} {p:Option Addr} {c:Nat} {h:List Nat} {k e:Nat}
def zs1 (R:Nat) (w:World) (p:Option Addr) (c:Nat) (h:List Nat) (r:List Rt×Nat×Nat) (en:Ending) (w':World):Prop:=∃ sp n cc,en=.returned (.slice sp n cc)∧r.1.length=n∧zku w.heap.size w' sp cc r.1∧KR R w' p c h r.2.1 r.2.2∧w.grownBy w' (some R)
theorem zkc (z:KR R w p c h k e):Calls Tryz.prog 56 #[.pointer (some ⟨R,0,none⟩)] w (zs1 R w p c h (zom h k e)):=by
 have NC:=zaa (zcy z 64 (by omega));unfold zep at NC;have NL:=zaa (zdx h k e 64);have EQ:=zaa (show zom h k e=zhw h (zbo h k e 64).1 (zbo h k e 64).2.1 (zbo h k e 64).2.2 from rfl);generalize zbo h k e 64=q at *;obtain⟨n,k1,e1⟩:=q;dsimp only at NC EQ NL;rw[show((64:Nat):Int)=64 from rfl] at NC;have Z0:=zaa z;have hR:=z.lt;have hn16:n≤64:=za NL;clear z;go_enter Tryz.func56,Tryz.ntmps56
 go_wp2_with fail
 go_at_call 100
 refine(za NC).mono ?_;rintro en V1 ⟨rfl,z1,g1⟩;have Z1:=zaa z1;have G1:=zaa g1;clear z1 g1 NC
 go_wp2_with fail
 go_loopw [3,4,5,8] (fun v s s2 i wr=>∃ (j:Nat) (sp:Option Addr) (m cc:Nat) (acc:List Rt) (kj ej:Nat),j≤n∧v=.slice sp m cc∧i=.int .i64 (j:Int)∧Hid (acc.length=m)∧m=j∧Hid (zku w.heap.size wr sp cc acc)∧Hid (KR R wr p c h kj ej)∧Hid (w.grownBy wr (some R))∧Hid (zhw h n k1 e1=(acc++(zhw h (n - j) kj ej).1,(zhw h (n - j) kj ej).2))) (fun _ _ _ i _=>n - (intOf i).toNat)
 case atStart=>exact⟨0,none,0,0,[],k1,e1,by omega,rfl,rfl,zaa rfl,rfl,zaa (zku.ofNil _ _),Z1,G1,zaa rfl⟩
 case round =>
  obtain⟨j,sp,m,cc,acc,kj,ej,hj,rfl,rfl,hl,rfl,O,Z,G,E⟩:=hrel;by_cases hjm:m<n
  ·as_aux_lemma =>
   have y1:(m:Int)<(n:Int):=by omega
   have hj1:m+1≤n:=by omega
   have E2:=zaa (show zhw h n k1 e1=(acc++[(zho h kj ej).1]++(zhw h (n - (m+1)) (zho h kj ej).2.1 (zho h kj ej).2.2).1,(zhw h (n - (m+1)) (zho h kj ej).2.1 (zho h kj ej).2.2).2) by
    rw[za E,show n - m=(n - (m+1))+1 by omega,zed]
    simp)
   have TC:=zaa (zdc (za Z));unfold zmn at TC;have ET:=zaa (zrf h kj ej);generalize zho h kj ej=q5 at *;generalize zbp h kj ej=q2 at *;obtain⟨tb,k2,e2⟩:=q2;dsimp only at TC ET
   go_wp2_with fail
   go_at_call 101
   refine(za TC).mono ?_;rintro en V2 ⟨rfl,z2,g2⟩;have G2:=zaa (zaf (za G) g2);have O2:=zaa (zar (za O) g2 hR);have WC:=zaa (zdc z2);unfold zmn at WC;generalize zbp h k2 e2=q3 at *;obtain⟨tb3,k3,e3⟩:=q3;dsimp only at WC ET;clear z2 g2 TC O G Z E;generalize zaj tb=s at *
   go_wp2_with fail
   go_at_call 101
   refine(za WC).mono ?_;rintro en V3 ⟨rfl,z3,g3⟩;have G3:=zaa (zaf (za G2) g3);have O3:=zaa (zar (za O2) g3 hR);have WD:=zaa (zdc z3);unfold zmn at WD;generalize zbp h k3 e3=q4 at *;obtain⟨tb4,k4,e4⟩:=q4;dsimp only at WD ET;have e4:=za ET;subst e4;dsimp only at E2;clear z3 g3 O2 G2 WC ET;generalize zaj tb3=s3 at *
   go_wp2_with fail
   go_at_call 101
   refine(za WD).mono ?_;rintro en V4 ⟨rfl,z4,g4⟩;have G4:=zaa (zaf (za G3) g4);have O4:=zaa (zar (za O3) g4 hR);generalize zaj tb4=s4 at *;have bA:=zaa (show Below V4.heap.size V4 (V4.alloc (.cells #[.string s,.string s3,.string s4] 56)) from(Below.refl _ _).alloc (Nat.le_refl _) _);have XA:=zaa (show(V4.alloc (.cells #[.string s,.string s3,.string s4] 56)).heap[V4.heap.size]? = some (.cells (zd0 ⟨s,s3,s4⟩).toArray 56 (0,0)) from zad V4 _);have OA:=zaa (zb0 (za O4) (za bA));have G5:=zaa (zaf (za G4) (zao (za bA) (some R)));have Z5:=zaa (z4.later (za bA));have SZ:=zaa (Nat.le_trans (za G4).size (za bA).size);clear z4 g4 WD O3 G3
   go_wp2_with (at_builtin;refine zjc rfl (.tmp 14) (.tmp 20) rfl w.heap.size sp m cc acc rfl (za hl) (by exact za OA) V4.heap.size ⟨s,s3,s4⟩ rfl (by exact za XA) (by omega) (za SZ) ?_;intro sp2 c2 W2 ho2 hb2;have O6:=zaa ho2;have B6:=zaa hb2;clear ho2 hb2)
   have Z6:=zaa ((za Z0).kept (za G5) (za Z5) (za B6));have G6:=zaa (zam (za G5) (za B6));have E3:=zaa (show zhw h n k1 e1=(acc++[⟨s,s3,s4⟩]++(zhw h (n - (m+1)) k4 e4).1,(zhw h (n - (m+1)) k4 e4).2) from za E2);exact⟨⟨m+1,sp2,m+1,c2,acc++[⟨s,s3,s4⟩],k4,e4,hj1,rfl,by go_num,zaa (by rw[List.length_append,za hl];rfl),rfl,O6,Z6,G6,E3⟩,by simp[intOf];omega⟩
  ·as_aux_lemma =>
   have y1:¬ (m:Int)<(n:Int):=by omega
   have FF:=zaa (show zs1 R w p c h (zom h k e) (.returned (.slice sp m cc)) wr from by
    have h0:n - m=0:=by omega
    have e5:=za E;rw[h0] at e5;simp only[zhw,List.append_nil] at e5;rw[za EQ,e5]
    exact⟨sp,m,cc,rfl,za hl,za O,za Z,za G⟩)
   clear E O Z G
   go_wp2
   go_ret
   exact za FF
end
end
section
open Go.ChangeShapes Go.WideShapes Go.ChangeAt Go.RowKit Go.Maps
instance:Kord Int where
 lt a b:=a<b
 irr:=Int.lt_irrefl
 tr h k:=Int.lt_trans h k
 tri:=Int.lt_trichotomy
 dlt a b:=inferInstanceAs (Decidable (a<b))
 deq:=inferInstance
def zca (v:Value):Option (DataW Value×List MemPlace):=some (.held v,[])
theorem zel {v u:Value} {ps:List MemPlace} (h:zca v=some (.held u,ps)):v=u:=by
 simp only[zca,Option.some.injEq,Prod.mk.injEq,DataW.held.injEq] at h;exact h.1
structure Kx (P:Program) (K:TypeId) (κ:Type) where
 kv:κ→Value
 kl:κ→Lit
 ok:κ→Prop
 law:Keyed P K
 key:∀ {k},ok k→keyOf P K (kv k)=some (kl k)
 vinj:∀ {a b},kv a=kv b→a=b
 inv:∀ {v l},keyOf P K v=some l→∃ k,ok k∧v=kv k∧l=kl k
theorem zob {H:Type} {P:Program} {k:TypeId} {R:Value→Option (DataW H×List MemPlace)} {w:World} {b n:Nat} {D:DataW H} (h:w.ownsMap P k R b n D):w.ownsMap P k R b (Maps.size D) D:=by
 obtain⟨es,clock,hb,F,hs,rfl⟩:=h;refine⟨es,clock,hb,F,?_,rfl⟩;simp[Maps.size,length_sorted]
theorem Kx.inj {P:Program} {K:TypeId} {κ:Type} (X:Kx P K κ) {a b:κ} (ha:X.ok a) (hb:X.ok b) (h:X.kl a=X.kl b):a=b:=X.vinj (X.law.inj (X.key ha) (h ▸ X.key hb))
section
variable {P:Program} {K:TypeId} {κ:Type} [Kord κ]
structure MapG (X:Kx P K κ) (w:World) (B:Nat) (fs:List (κ×Value)):Prop where
 map:∃ D:DataW Value,w.ownsMap P K zca B fs.length D∧(∀ k,X.ok k→(Maps.has D (X.kl k)=true↔k∈fs.map (·.1)))∧(∀ x∈fs,∀ zd,D.atKey (X.kl x.1) zd=.held x.2)∧Maps.size D=fs.length
 okk:∀ x∈fs,X.ok x.1
 rise:Kr fs
variable {X:Kx P K κ} {w w':World} {B:Nat} {fs:List (κ×Value)}
theorem MapG.same (h:MapG X w B fs) (hb:w'.heap[B]? = w.heap[B]?):MapG X w' B fs:=by
 obtain⟨D,⟨es,k,h1,r⟩,r2⟩:=h.map;exact⟨⟨D,⟨es,k,hb.trans h1,r⟩,r2⟩,h.okk,h.rise⟩
theorem MapG.isMap (h:MapG X w B fs):∃ es k,w.heap[B]? = some (.map es k):=by
 obtain⟨D,⟨es,k,hb,_⟩,_⟩:=h.map;exact⟨es,k,hb⟩
theorem MapG.lt (h:MapG X w B fs):B<w.heap.size:=by
 obtain⟨es,k,hb⟩:=h.isMap;exact(Array.getElem?_eq_some_iff.1 hb).1
theorem MapG.later (h:MapG X w B fs) (hb:Below w.heap.size w w'):MapG X w' B fs:=h.same (hb.block B h.lt)
theorem MapG.made (X:Kx P K κ) (w:World):MapG X (w.alloc (.map #[] 0)) w.heap.size [] :=
 ⟨⟨_,World.ownsMap_made (H:=Value) w P K zca,fun _ _=>by simp[Maps.has],by simp,rfl⟩,by simp,List.Pairwise.nil⟩
theorem MapG.look_yes (h:MapG X w B fs) {T E:TypeId} {z:Value} (ht:P.underlying T=some (.map K E)) (hz:(zeroValue E).run P w=.ok z w) {k:κ} {v:Value} (hk:zmk k fs=some v) :
  (Instr.lookup T (.map (some B)) (X.kv k) true).run P w=.ok (.tuple #[v,.bool true]) w∧(Instr.lookup T (.map (some B)) (X.kv k) false).run P w=.ok v w:=by
 obtain⟨D,hD,hH,hA,_⟩:=h.map;have hF:=zht hk;have hok:=h.okk _ hF;have hh:Maps.has D (X.kl k)=true:=(hH _ hok).2 (List.mem_map.2 ⟨_,hF,rfl⟩);obtain⟨a,ps,hrun,hv⟩:=hD.look_ok X.law ht hz (zd:=.held z) (zp:=[]) rfl (X.key hok);obtain⟨b,ps2,hrun2,hv2⟩:=hD.lookup X.law ht hz (zd:=.held z) (zp:=[]) rfl (X.key hok);rw[hA _ hF] at hv hv2;rw[zel hv,hh] at hrun;rw[zel hv2] at hrun2;exact⟨hrun,hrun2⟩
theorem MapG.look_no (h:MapG X w B fs) {T E:TypeId} {z:Value} (ht:P.underlying T=some (.map K E)) (hz:(zeroValue E).run P w=.ok z w) {k:κ} (hok:X.ok k) (hk:zmk k fs=none) :
  (Instr.lookup T (.map (some B)) (X.kv k) true).run P w=.ok (.tuple #[z,.bool false]) w∧(Instr.lookup T (.map (some B)) (X.kv k) false).run P w=.ok z w:=by
 obtain⟨D,hD,hH,hA,_⟩:=h.map;have hF:=zij.1 hk;have hh:Maps.has D (X.kl k)=false:=by
  cases e:Maps.has D (X.kl k) with
  |false=>rfl
  |true=>exact absurd ((hH _ hok).1 e) hF
 obtain⟨a,ps,hrun,hv⟩:=hD.look_ok X.law ht hz (zd:=.held z) (zp:=[]) rfl (X.key hok);obtain⟨b,ps2,hrun2,hv2⟩:=hD.lookup X.law ht hz (zd:=.held z) (zp:=[]) rfl (X.key hok);rw[atKey_of_not_has hh] at hv hv2;rw[zel hv,hh] at hrun;rw[zel hv2] at hrun2;exact⟨hrun,hrun2⟩
theorem MapG.len (h:MapG X w B fs) {T E:TypeId} (ht:P.underlying T=some (.map K E)) (ty:TypeId):(Builtin.len_ #[T] ty #[.map (some B)]).run P w=.ok (.int .i64 (fs.length:Int)) w:=by
 obtain⟨D,hD,hH,hA,hS⟩:=h.map;rw[← hS];exact hD.len ht ty
theorem MapG.store (h:MapG X w B fs) {T E:TypeId} (ht:P.underlying T=some (.map K E)) {k:κ} (hok:X.ok k) (v:Value) (hn:fs.length≤1000) :
  ∃ w',(Instr.mapUpdate T (.map (some B)) (X.kv k) v).run P w=.ok () w'∧MapG X w' B (zlc k v fs)∧w.grownBy w' (some B)∧w'.heap.size=w.heap.size:=by
 obtain⟨D,hD,hH,hA,hS⟩:=h.map;have hr:=h.rise;obtain⟨w',hrun,r1,r2⟩:=hD.store X.law ht (show fs.length<maxLen by simp only[maxLen];omega) (X.key hok) (show zca v=some (.held v,[]) from rfl);have hmap:=hD.isMap;have hkey:=X.law.key (X.key hok);have hsz:w'.heap.size=w.heap.size:=by
  obtain⟨_,_,_,_,_,rfl⟩:=r2;simp[ChangeMaps.setBlock]
 have hSZ:Maps.size (D.put (X.kl k) (.held v))=(zlc k v fs).length:=by
  rw[size_put (hD.tidy X.law),zik hr,hS];by_cases e:k∈fs.map (·.1)
  ·rw[if_pos e,if_pos ((hH _ hok).2 e)]
  ·rw[if_neg e,if_neg (fun e'=>e ((hH _ hok).1 e'))]
 refine⟨w',hrun,⟨⟨_,by rw[← hSZ];exact zob r1,fun y hy=>?_,fun y hy zd=>?_,hSZ⟩,fun y hy=>?_,hr.put _ _⟩,r2.grown,hsz⟩
 ·by_cases e:y=k
  ·subst e;rw[has_put_same hmap hkey];simp only[true_iff];exact List.mem_map.2 ⟨_,(zei hr _).2 (.inl rfl),rfl⟩
  ·rw[has_put_other (fun e'=>e (X.inj hy hok e')),hH y hy];constructor
   ·intro hm;obtain⟨z,hz,rfl⟩:=List.mem_map.1 hm;exact List.mem_map.2 ⟨z,(zei hr _).2 (.inr ⟨hz,e⟩),rfl⟩
   ·intro hm;obtain⟨z,hz,rfl⟩:=List.mem_map.1 hm;rcases(zei hr _).1 hz with rfl|⟨hz,_⟩
    ·exact absurd rfl e
    ·exact List.mem_map.2 ⟨z,hz,rfl⟩
 ·rcases(zei hr _).1 hy with rfl|⟨hy,e⟩
  ·exact atKey_put_same hmap hkey _ _
  ·rw[atKey_put_other (fun e'=>e (X.inj (h.okk _ hy) hok e')),hA y hy]
 ·rcases(zei hr _).1 hy with rfl|⟨hy,_⟩
  ·exact hok
  ·exact h.okk _ hy
theorem MapG.drop (h:MapG X w B fs) {T E:TypeId} (ht:P.underlying T=some (.map K E)) {k:κ} (hok:X.ok k) (ty:TypeId) :
  ∃ w',(Builtin.delete_ #[T,K] ty #[.map (some B),X.kv k]).run P w=.ok (.tuple #[]) w'∧MapG X w' B (zrr k fs)∧w.grownBy w' (some B)∧w'.heap.size=w.heap.size:=by
 obtain⟨D,hD,hH,hA,hS⟩:=h.map;have hr:=h.rise;obtain⟨w',hrun,r1,r2⟩:=hD.drop X.law ht (X.key hok) ty;have hsz:w'.heap.size=w.heap.size:=by
  obtain⟨_,_,_,_,_,rfl⟩:=r2;simp[ChangeMaps.setBlock]
 have hSZ:Maps.size (D.del (X.kl k))=(zrr k fs).length:=by
  have h1:=size_del (k:=X.kl k) (hD.tidy X.law);have h2:=zii (k:=k) hr;by_cases e:k∈fs.map (·.1)
  ·rw[if_pos e] at h2;rw[if_pos ((hH _ hok).2 e)] at h1;omega
  ·rw[if_neg e] at h2;rw[if_neg (fun e'=>e ((hH _ hok).1 e'))] at h1;omega
 refine⟨w',hrun,⟨⟨_,by rw[← hSZ];exact zob r1,fun y hy=>?_,fun y hy zd=>?_,hSZ⟩,fun y hy=>h.okk _ ((zgc y).1 hy).1,hr.del _⟩,r2.grown,hsz⟩
 ·by_cases e:y=k
  ·subst e;rw[has_del_same];simp only[Bool.false_eq_true,false_iff];intro hm;obtain⟨z,hz,e⟩:=List.mem_map.1 hm;exact((zgc z).1 hz).2 e
  ·rw[has_del_other (fun e'=>e (X.inj hy hok e')),hH y hy];constructor
   ·intro hm;obtain⟨z,hz,rfl⟩:=List.mem_map.1 hm;exact List.mem_map.2 ⟨z,(zgc z).2 ⟨hz,e⟩,rfl⟩
   ·intro hm;obtain⟨z,hz,rfl⟩:=List.mem_map.1 hm;exact List.mem_map.2 ⟨z,((zgc z).1 hz).1,rfl⟩
 ·obtain⟨hy,e⟩:=(zgc y).1 hy;rw[atKey_del_other (fun e'=>e (X.inj (h.okk _ hy) hok e')),hA y hy]
end
end
end Go.Proofs.YtjcjleaicjhpeaaGreatDoor
