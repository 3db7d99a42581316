/- Conf: weights, targets, pools, routes appended to bytes of one's own. -/
import Derived.Test.YtjcjleaicjhpeaaGreatDoorB05
import Derived.Test.YtjcjleaicjhpeaaGreatDoorB04
import Derived.Test.YtjcjleaicjhpeaaGreatDoorB03
import Derived.Test.YtjcjleaicjhpeaaGreatDoorB01
import Derived.Deep.RegionHeld3
import Derived.Laws.OwnMore
import Derived.Test.YtjcjleaicjhpeaaGreatDoorProg
set_option linter.unusedVariables false
set_option maxRecDepth 20000
set_option maxHeartbeats 16000000
namespace Go.Proofs.YtjcjleaicjhpeaaGreatDoor
section
open Go.ChangeShapes Go.WideShapes Go.ChangeAt Go.RowKit
def zgt (x:Nat):List Nat:=(List.range 8).map (fun k=>x / 2 ^ (56 - 8*k) % 256)
theorem zej (x:Nat):(zgt x).length=8:=by simp[zgt]
theorem zlu (x j:Nat) (h:j<8):(zgt x).take (j+1)=(zgt x).take j++[x / 2 ^ (56 - 8*j) % 256]:=by
 rw[List.take_succ_eq_append_getElem (by rw[zej];exact h)];simp[zgt]
theorem znz (x s:Nat):((x:Int) / 2 ^ s) % 256=((x / 2 ^ s % 256:Nat):Int):=by
 have:((x / 2 ^ s:Nat):Int)=(x:Int) / 2 ^ s:=by simp
 rw[← this];omega
theorem zes (base:Nat) {w:World} {sp:Option Addr} {n0 c:Nat} {l:List Nat} (hn0:l.length=n0) (hown:OwnB base w sp c l) (x:Nat) (hx:x<18446744073709551616) (hsz:l.length+8≤140737488355328) (hbase:base≤w.heap.size) :
  Calls Tryz.prog 188 #[.slice sp n0 c,.float .f64 x] w fun e w'=>∃ sp' n' c',e=.returned (.slice sp' n' c')∧Hid ((l++zgt x).length=n')∧OwnB base w' sp' c' (l++zgt x)∧Grew w sp w' sp':=by
 have HO:=zaa hown;have HN:=zaa hn0;have hbits:=zdu x;have LE:=zaa (show ∀ j,((zgt x).take j).length≤8 from fun j=>by have:=zej x;rw[List.length_take];omega);clear hown hn0;go_enter Tryz.func188,Tryz.ntmps188
 go_wp2_with fail
 go_loopw [0,6] (fun v i wr=>∃ (j:Nat) (sp':Option Addr) (n' c':Nat),j≤8∧v=.slice sp' n' c'∧i=.int .i64 (56 - 8*(j:Int))∧Hid ((l++(zgt x).take j).length=n')∧Hid (OwnB base wr sp' c' (l++(zgt x).take j))∧Hid (Grew w sp wr sp')) (fun _ i _=>(intOf i+8).toNat)
 case atStart=>exact⟨0,sp,n0,c,by omega,rfl,rfl,zaa (by simpa using za HN),zaa (by simpa using za HO),Grew.refl _ _⟩
 case round =>
  obtain⟨j,sp',n',c',hj,rfl,rfl,hl',ho',hg'⟩:=hrel;by_cases hjm:j<8
  ·obtain⟨s,hs⟩:∃ s:Nat,s=56 - 8*j:=⟨_,rfl⟩
   have hsi:56 - 8*(j:Int)=(s:Int):=by omega
   have hnx:=zaa (show(s:Int) - 8=56 - 8*((j+1:Nat):Int) by omega);have y0:(0:Int)≤(s:Int):=by omega
   have y1:(s:Int)≤56:=by omega
   have y2:s≤64:=by omega
   have hmin:min s 64=s:=by omega
   have hby:=znz x s;have HB:=zaa hby;have FT:=zaa (zlu x j hjm);rw[← hs] at FT;have hw8:IntKind.u8.wrap ((x:Int) / 2 ^ s)=((x / 2 ^ s % 256:Nat):Int):=by rw[← hby,IntKind.wrap_u8]
   rw[hsi];have hq2:x / 2 ^ s % 256<256:=Nat.mod_lt _ (by decide);generalize hq:x / 2 ^ s % 256=q at *;have hlit:=zaa (zbu (l:=[q]) (zac wr (.cells #[.int .u8 (q:Int)] 5)) (by intro c hc;simp only[List.mem_cons,List.not_mem_nil,or_false] at hc;omega));have bA:=zaa (show Below wr.heap.size wr (wr.alloc (.cells #[.int .u8 (q:Int)] 5)) from(Below.refl _ _).alloc (Nat.le_refl _) _);have hbr:base≤wr.heap.size:=Nat.le_trans hbase (za hg').grown.size
   have hs2:=zaa (show(l++(zgt x).take j).length+1≤140737488355328 by
    rw[List.length_append];have:((zgt x).take j).length≤7:=by rw[List.length_take];omega
    omega)
   have hj1:j+1≤8:=by omega
   clear hs hsi hq hjm
   go_wp2_with (at_builtin;refine zbh rfl (.tmp 13) (.tmp 18) rfl base sp' n' c' _ rfl (za hl') (by exact(za ho').later (za bA)) (some ⟨wr.heap.size,0,none⟩) 1 1 rfl [q] rfl (by exact za hlit) (fun h=>by cases h) (za hs2) (Nat.le_trans hbr (za bA).size) ?_;intro sp2 n2 c2 W2 hn2 ho2 hg2 hb2;rw[List.append_assoc,← za FT] at hn2 ho2;have HO2:=zaa ho2;clear ho2)
   have hbn:=zaa ((za hg').trans (Grew.aside (za bA) ⟨hg2,hb2⟩));refine⟨⟨j+1,sp2,n2,c2,hj1,rfl,?_,by first|exact hn2|exact zaa (by rw[List.length_append];exact za hn2),za HO2,za hbn⟩,?_⟩
   ·first|(rw[za hnx])|(rw[← za hnx];go_num)
   ·have hh:=za hnx;simp[intOf];omega
  ·have hj8:j=8:=by omega
   have E:=zaa (show(zgt x).take j=zgt x from List.take_of_length_le (by rw[zej];omega));have y0:¬ (0:Int)≤56 - 8*(j:Int):=by omega
   clear hj8
   go_wp2
   go_ret
   exact⟨sp',n',c',rfl,zaa (by rw[← za E];simpa using za hl'),by rw[← za E];exact za ho',za hg'⟩
def tgB (t:Tgt):List Nat:=txB t.1++zgt t.2
def zlx (ts:List Tgt):List Nat:=zao ts.length++ts.flatMap tgB
def zas (p:Po):List Nat:=txB p.nm++zlx p.ts
def zan (r:Rt):List Nat:=txB r.h++(txB r.p++txB r.l)
def zaq (e:Cf):List Nat:=zao e.ps.length++(e.ps.flatMap zas++(zao e.rs.length++e.rs.flatMap zan))
def zdf (l:List Nat) (k:Nat) (r:List Nat):Prop:=k≤l.length∧l.drop k=r
section
variable {l r:List Nat} {k:Nat}
theorem zdf.split {m:List Nat} (h:zdf l k (m++r)):l=l.take k++(m++r)∧k=(l.take k).length:=by
 obtain⟨h1,h2⟩:=h;refine⟨?_,by rw[List.length_take];omega⟩;rw[← h2,List.take_append_drop]
theorem zdf.next {m:List Nat} (h:zdf l k (m++r)):zdf l (k+m.length) r:=by
 obtain⟨h1,h2⟩:=h;have hl:l.length - k=m.length+r.length:=by
  have:=congrArg List.length h2
  simpa using this
 refine⟨by omega,?_⟩;rw[← List.drop_drop,h2,List.drop_left]
theorem zdf.len {m:List Nat} (h:zdf l k (m++r)):m.length≤l.length - k:=by
 have:=congrArg List.length h.2;simp only[List.length_drop,List.length_append] at this;omega
theorem zcq {n:Nat} (h:zdf l k (zao n++r)) (hn:n≤1099511627776):∃ k',zem l k 0=(n,k',0)∧zdf l k' r:=by
 obtain⟨h1,h2⟩:=h.split;have ht:=zrs (a:=l.take k) (b:=r) h1 h2 hn;exact⟨_,zp8 ht,h.next⟩
theorem zko {m:List Nat} (h:zdf l k (m++r)):zh5 l k 0 m.length=(m,k+m.length,0):=by
 have hl:=h.len;have hx:zsl l k 0 m.length=0:=by unfold zsl;rw[if_neg (by omega)]
 unfold zh5;rw[if_neg (by simp[hx]),h.2,List.take_left]
theorem ze9 {s:ByteArray} (h:zdf l k (txB s++r)) (hs:s.size≤128):∃ k',zcv l k 0=(bsT s,k',0)∧zdf l k' r:=by
 unfold txB at h;rw[List.append_assoc] at h;obtain⟨k1,e1,s1⟩:=zcq h (by omega);refine⟨k1+(bsT s).length,?_,s1.next⟩;have e2:zcu l k 0 128=(s.size,k1,0):=by unfold zcu;dsimp only;rw[e1];dsimp only;rw[if_neg (by omega)]
 unfold zcv;dsimp only;rw[e2];dsimp only;rw[← zhz s];exact zko s1
theorem zih (x:Nat):∀ n,n≤8→zep ((List.range n).map (fun k=>x / 2 ^ (56 - 8*k) % 256))=x / 2 ^ (64 - 8*n) % 2 ^ (8*n)
 |0,_=>by simp[zep,Nat.mod_one]
 |n+1,h=>by
  rw[List.range_succ,List.map_append,List.map_cons,List.map_nil,zja,zih x n (by omega)];have e1:64 - 8*n=(56 - 8*n)+8:=by omega
  have e2:64 - 8*(n+1)=56 - 8*n:=by omega
  rw[e1,e2,Nat.pow_add,← Nat.div_div_eq_div_mul];generalize x / 2 ^ (56 - 8*n)=y;have e3:2 ^ (8*(n+1))=256*2 ^ (8*n):=by
   rw[Nat.mul_add,Nat.pow_add,Nat.mul_comm]
  rw[e3,show(2:Nat) ^ 8=256 from rfl,Nat.mod_mul,Nat.mul_comm];omega
theorem zos (x:Nat) (h:x<18446744073709551616):zep (zgt x)=x:=by
 unfold zgt;rw[zih x 8 (Nat.le_refl _)];rw[show 64 - 8*8=0 from rfl,Nat.pow_zero,Nat.div_one];exact Nat.mod_eq_of_lt (by rw[show(2:Nat) ^ (8*8)=18446744073709551616 from rfl];exact h)
theorem zr0 {x:Nat} (h:zdf l k (zgt x++r)) (hx:x<18446744073709551616):∃ k',wtK l k 0=(x,k',0)∧zdf l k' r:=by
 refine⟨k+(zgt x).length,?_,h.next⟩;unfold wtK;dsimp only;have:=zko h;rw[zej] at this;rw[this];dsimp only;rw[zos x hx,zej]
theorem zrv {t:Tgt} (h:zdf l k (tgB t++r)) (hs:t.1.size≤128) (hx:t.2<18446744073709551616):∃ k',tgK l k 0=(t,k',0)∧zdf l k' r:=by
 unfold tgB at h;rw[List.append_assoc] at h;obtain⟨k1,e1,s1⟩:=ze9 h hs;obtain⟨k2,e2,s2⟩:=zr0 s1 hx;refine⟨k2,?_,s2⟩;unfold tgK;dsimp only;rw[e1];dsimp only;rw[e2,ziq]
theorem zlq:∀ (ts:List Tgt) (k:Nat),zdf l k (ts.flatMap tgB++r)→(∀ t∈ts,t.1.size≤128)→(∀ t∈ts,t.2<18446744073709551616)→∃ k',zlp l ts.length k 0=(ts,k',0)∧zdf l k' r
 |[],k,h,_,_=>⟨k,rfl,by simpa using h⟩
 |t::ts,k,h,h1,h2=>by
  rw[List.flatMap_cons,List.append_assoc] at h;obtain⟨k1,e1,s1⟩:=zrv h (h1 t (by simp)) (h2 t (by simp));obtain⟨k2,e2,s2⟩:=zlq ts k1 s1 (fun x hx=>h1 x (by simp[hx])) (fun x hx=>h2 x (by simp[hx]));refine⟨k2,?_,s2⟩;rw[List.length_cons,zgr,e1];dsimp only;rw[e2]
theorem zqs {ts:List Tgt} (h:zdf l k (zlx ts++r)) (hn:ts.length≤16) (h1:∀ t∈ts,t.1.size≤128) (h2:∀ t∈ts,t.2<18446744073709551616):∃ k',zo8 l k 0=(ts,k',0)∧zdf l k' r:=by
 unfold zlx at h;rw[List.append_assoc] at h;obtain⟨k1,e1,s1⟩:=zcq h (by omega);obtain⟨k2,e2,s2⟩:=zlq ts k1 s1 h1 h2;refine⟨k2,?_,s2⟩;have e3:zcu l k 0 16=(ts.length,k1,0):=by unfold zcu;dsimp only;rw[e1];dsimp only;rw[if_neg (by omega)]
 unfold zo8;dsimp only;rw[e3];exact e2
end
theorem zdj (w:World) (j k:Nat) (v:Value):w.grownBy (w.setCell ⟨j,k,none⟩ v) (some j) :=
 ⟨rfl,rfl,rfl,by simp[World.setCell],fun i _ hne=>heap_setCell_other w ⟨j,k,none⟩ i v (fun e=>hne (by rw[e]))⟩
theorem zjf {w:World} (t ty e:TypeId) (i:TypeInfo) (z:Value) (size bytes:Nat) (ht:Tryz.prog.underlying t=some (.slice e)) (hi:Tryz.prog.info? e=some i) (hz:i.zero=some z) (hsize:i.size=size) (hby:i.bytes=bytes) (hzs:z.cells.size=size) (hsz:0<size)
  (E:Nat) (hE:w.heap[E]? = some (.cells #[] e (0,0))) (ad:Option Addr) (m c:Nat) (hn:ad=none→m=0∧c=0) (news:List Value) (hl:news.length=m*size)
  (hnews:∀ b,ad=some b→∀ j u,news[j]? = some u→w.cell? (b.add j)=some u) (h1:∀ u∈news,u.oneCell'=true) (hm:m≤1000) (hbytes:m*bytes≤140737488355328) :
  ∃ g c' w',(Builtin.append_ #[t,t] ty #[.slice (some ⟨E,0,none⟩) 0 0,.slice ad m c]).run Tryz.prog w=.ok (.slice (some ⟨g,0,none⟩) m c') w'∧w'.ownsRow E e size (.slice (some ⟨g,0,none⟩) m c') m news∧w.grownBy w' (some E)∧(g=E∨g=w.heap.size):=by
 have he:w.ownsRow E e size (.slice (some ⟨E,0,none⟩) 0 0) 0 []:=⟨by simp,.inr ⟨E,0,#[],rfl,Nat.le_refl _,hE,Nat.le_refl _,by simp[maxLen],by simp,by simp⟩⟩
 have hEl:E<w.heap.size:=(Array.getElem?_eq_some_iff.1 hE).1;cases ad with
 |none =>
  obtain⟨rfl,rfl⟩:=hn rfl;have hz:news=[]:=List.eq_nil_of_length_eq_zero (by simpa using hl);subst hz;have hrun:=run_append_owned_none (P:=Tryz.prog) (w:=w) E t ty e i size ht hi _ _ _ he;exact⟨E,0,w,hrun,he,za7 _ _,.inl rfl⟩
 |some b =>
  obtain⟨v',w',hrun,h2,h3,h4,h5⟩:=run_append_own_at (P:=Tryz.prog) w E t ty e i z size bytes ht hi hz hsize hby hzs hsz _ _ _ he b m c news hl (hnews b rfl) h1 (by simp only[maxLen];omega) (by rw[Nat.zero_add];exact hbytes) (by omega);rcases h2.2 with⟨hv,h0⟩|⟨g,cap,cur,hv,r⟩
  ·have:=(h4.1 hv).1;cases this
  ·subst hv;rw[Nat.zero_add,List.nil_append] at h2;exact⟨g,cap,w',by rw[hrun,Nat.zero_add],h2,h3,h5.imp (fun e=>Option.some.inj e) (fun e=>Option.some.inj e)⟩
theorem zin {w:World} {ops:Array Oper} {o:Oper} {a:Act} {K:Act→World→Prop} {Q:Exit→Act→World→Prop} {E0:Prop} (hgd:o.guard=none) (s x:Operand) (t e:TypeId)
  (ho:o.op=.call { callee:=.builtin .append,args:=#[s,x],argTypes:=#[t,t] })
  (i:TypeInfo) (z:Value) (size bytes:Nat) (ht:Tryz.prog.underlying t=some (.slice e)) (hi:Tryz.prog.info? e=some i) (hz:i.zero=some z) (hsize:i.size=size) (hby:i.bytes=bytes) (hzs:z.cells.size=size) (hsz:0<size)
  (E:Nat) (hs:a.eval s=.slice (some ⟨E,0,none⟩) 0 0) (hE:w.heap[E]? = some (.cells #[] e (0,0))) (ad:Option Addr) (m c:Nat) (hx:a.eval x=.slice ad m c) (hn:ad=none→m=0∧c=0) (news:List Value) (hl:news.length=m*size)
  (hnews:∀ b,ad=some b→∀ j u,news[j]? = some u→w.cell? (b.add j)=some u) (h1:∀ u∈news,u.oneCell'=true) (hm:m≤1000) (hbytes:m*bytes≤140737488355328)
  (hk:∀ g c' w',w'.ownsRow E e size (.slice (some ⟨g,0,none⟩) m c') m news→w.grownBy w' (some E)→(g=E∨g=w.heap.size)→K (a.put o.dst (.slice (some ⟨g,0,none⟩) m c')) w') :
  if Region.wanted o (yielded ops a.tmps)=true then Oper.wp Tryz.prog o a w K Q else E0:=by
 have hw:Region.wanted o (yielded ops a.tmps)=true:=by simp[Region.wanted,hgd]
 rw[if_pos hw];obtain⟨g,c',w',hrun,h2,h3,h4⟩:=zjf t o.type e i z size bytes ht hi hz hsize hby hzs hsz E hE ad m c hn news hl hnews h1 hm hbytes;unfold Oper.wp;simp[execOp,ho,resolve,invoke,builtin,hs,hx,hrun,Result.andThen];exact hk g c' w' h2 h3 h4
theorem zll {w:World} {ops:Array Oper} {o:Oper} {a:Act} {K:Act→World→Prop} {Q:Exit→Act→World→Prop} {E0:Prop} (hgd:o.guard=none) (ho:o.op=.buildSlice 31 0 #[])
  (h:∀ E w',w.heap.size=E→w'.heap[E]? = some (.cells #[] 70 (0,0))→Below w.heap.size w w'→K (a.put o.dst (.slice (some ⟨E,0,none⟩) 0 0)) w') :
  if Region.wanted o (yielded ops a.tmps)=true then Oper.wp Tryz.prog o a w K Q else E0:=by
 have hw:Region.wanted o (yielded ops a.tmps)=true:=by simp[Region.wanted,hgd]
 rw[if_pos hw];have h1:=h w.heap.size (w.alloc (.cells #[] 70)) rfl (zac w _) ((Below.refl _ _).alloc (Nat.le_refl _) _);unfold Oper.wp;simp[execOp,ho,go_sem];exact h1
theorem zio {w:World} {ops:Array Oper} {o:Oper} {a:Act} {K:Act→World→Prop} {Q:Exit→Act→World→Prop} {E0:Prop} (hgd:o.guard=none) (k:Nat) (ho:o.op=.buildSlice 43 1 #[(0,.tmp k)]) (nm:ByteArray) (sp:Option Addr) (n c:Nat) (hs:a.eval (.tmp k)=.agg #[.string nm,.slice sp n c])
  (h:∀ B w',w.heap.size=B→w'.heap[B]? = some (.cells #[.string nm,.slice sp n c] 54 (0,0))→Below w.heap.size w w'→K (a.put o.dst (.slice (some ⟨B,0,none⟩) 1 1)) w') :
  if Region.wanted o (yielded ops a.tmps)=true then Oper.wp Tryz.prog o a w K Q else E0:=by
 have hw:Region.wanted o (yielded ops a.tmps)=true:=by simp[Region.wanted,hgd]
 rw[if_pos hw];have h1:=h w.heap.size (w.alloc (.cells #[.string nm,.slice sp n c] 54)) rfl (zac w _) ((Below.refl _ _).alloc (Nat.le_refl _) _);have hs':a.tmps[k]?.getD undef=.agg #[.string nm,.slice sp n c]:=by simpa [go_sem] using hs
 unfold Oper.wp;simp[execOp,ho,go_sem,hs'];exact h1
def ze5 (r:Rt):List Value:=[.string r.h,.string r.p,.string r.l]
def zfo (l:List Rt):List Value:=l.flatMap ze5
theorem ze4:∀ (xs:List Rt) (i f:Nat) (hi:i<xs.length) (_:f<3),(zfo xs)[i*3+f]? = (ze5 xs[i])[f]?
 |[],i,_,hi,_=>by simp at hi
 |x::xs,0,f,_,hf=>by
  simp only[zfo,List.flatMap_cons,Nat.zero_mul,Nat.zero_add,List.getElem_cons_zero];rw[List.getElem?_append_left (show f<(ze5 x).length from hf)]
 |x::xs,i+1,f,hi,hf=>by
  have ih:=ze4 xs i f (by simpa using hi) hf;simp only[zfo,List.flatMap_cons,List.getElem_cons_succ] at ih ⊢;rw[List.getElem?_append_right (by rw[show(ze5 x).length=3 from rfl];omega)];have e4:(i+1)*3+f - (ze5 x).length=i*3+f:=by rw[show(ze5 x).length=3 from rfl];omega
  rw[e4];exact ih
theorem zjd (l:List Rt):∀ u∈zfo l,u.oneCell'=true:=by
 intro u hu;obtain⟨t,_,ht⟩:=List.mem_flatMap.1 hu;simp only[ze5,List.mem_cons,List.not_mem_nil,or_false] at ht;rcases ht with rfl|rfl|rfl <;> rfl
theorem zr2:(Tryz.prog.info? 56).map (fun i=>(i.zero,i.size,i.bytes))=some (some (.agg #[.string ByteArray.empty,.string ByteArray.empty,.string ByteArray.empty]),3,48):=by kernel_rfl
theorem zte {j k n:Nat} (hk:0<k) (h:j<n*k):∃ i f,i<n∧f<k∧j=i*k+f :=
 ⟨j / k,j % k,(Nat.div_lt_iff_lt_mul hk).2 h,Nat.mod_lt _ hk,by rw[Nat.mul_comm];exact(Nat.div_add_mod j k).symm⟩
theorem zjb {E:Nat} {w:World} {g c:Nat} {l:List Rt} (h:w.ownsRow E 56 3 (.slice (some ⟨g,0,none⟩) l.length c) l.length (zfo l)) (hs:∀ r∈l,r.h.size≤maxLen∧r.p.size≤maxLen∧r.l.size≤maxLen):RtsAt w (some ⟨g,0,none⟩) l∧l.length≤c:=by
 rcases h.2 with⟨hv,h0⟩|⟨g',cap,cur,hv,hb,hg,hle,hmx,hsz,ht⟩
 ·cases hv
 ·simp only[Value.slice.injEq,Option.some.injEq,Addr.mk.injEq,and_true,true_and] at hv;obtain⟨rfl,rfl⟩:=hv;have one:∀ i (hi:i<l.length) f,f<3→w.cell? ⟨g,0+i*3+f,none⟩=(ze5 l[i])[f]?:=fun i hi f hf=>by
   have hk:=ze4 l i f hi hf;rw[Nat.zero_add,cell_of_row w g _ cur _ _ hg,← Array.getElem?_toList];have hj:i*3+f<l.length*3:=by omega
   rw[← ht,List.getElem?_take,if_pos hj] at hk;exact hk
  exact⟨⟨hs,fun i hi=>⟨g,0,rfl,one i hi 0 (by omega),one i hi 1 (by omega),one i hi 2 (by omega)⟩⟩,hle⟩
theorem TgsAt.news {w:World} {a:Option Addr} {l:List Tg} (h:TgsAt w a l) (b:Addr) (hb:a=some b):∀ j u,(zee l)[j]? = some u→w.cell? (b.add j)=some u:=by
 intro j u hu;have hj:j<l.length*2:=by rw[← zcs];exact(List.getElem?_eq_some_iff.1 hu).1
 obtain⟨i,f,hi,hf,rfl⟩:=zte (by omega) hj;rw[zgn l i f hi hf] at hu;obtain⟨b',off,e,h0,h1⟩:=h.cell i hi;rw[hb] at e;cases e
 have hf':f=0∨f=1:=by omega
 rw[Addr.add_lit,← Nat.add_assoc];rcases hf' with rfl|rfl
 ·rw[show u=.string l[i].1 from by simpa [zi1] using hu.symm];exact h0
 ·rw[show u=.float .f64 l[i].2 from by simpa [zi1] using hu.symm];exact h1
theorem TgsAt.nil {w:World} {l:List Tg} (h:TgsAt w none l):l.length=0:=by
 rcases Nat.eq_zero_or_pos l.length with h0|h0
 ·exact h0
 ·obtain⟨b,off,e,_⟩:=h.cell 0 h0;cases e
theorem zcm.is {base:Nat} {w:World} {g c:Nat} {l:List Tg} (h:zcm base w (some ⟨g,0,none⟩) c l):base≤g∧g<w.heap.size∧l.length≤c:=by
 rcases h.2 with⟨hv,h0⟩|⟨g',cap,cur,hv,hbg,hg,hle,r⟩
 ·cases hv
 ·simp only[Value.slice.injEq,Option.some.injEq,Addr.mk.injEq,and_true,true_and] at hv;obtain⟨rfl,rfl⟩:=hv;exact⟨hbg,(Array.getElem?_eq_some_iff.1 hg).1,hle⟩
theorem zcm.low {base base':Nat} {w:World} {sp:Option Addr} {c:Nat} {l:List Tg} (h:zcm base w sp c l) (hb:base'≤base):zcm base' w sp c l:=⟨h.1,h.2.imp id (fun ⟨g,cap,cur,h1,h2,h3⟩=>⟨g,cap,cur,h1,Nat.le_trans hb h2,h3⟩)⟩
theorem zpz:(Tryz.prog.info? 54).map (fun i=>(i.zero,i.size,i.bytes))=some (some (.agg #[.string ByteArray.empty,.slice none 0 0]),2,40):=by kernel_rfl
theorem zai {V W U:World} {C:Nat} (h:V.grownBy W (some C)) (hb:Below V.heap.size W U):V.grownBy U (some C) :=
 ⟨hb.os.trans h.os,hb.tape.trans h.tape,hb.output.trans h.output,Nat.le_trans h.size hb.size,fun k hk hne=>(hb.block k hk).trans (h.block k hk hne)⟩
theorem zah {V W U:World} {C:Nat} (h:V.grownBy W (some C)) (k:W.grownBy U (some C)):V.grownBy U (some C) :=
 ⟨k.os.trans h.os,k.tape.trans h.tape,k.output.trans h.output,Nat.le_trans h.size k.size,fun i hi hne=>(k.block i (Nat.lt_of_lt_of_le hi h.size) hne).trans (h.block i hi hne)⟩
theorem zkf {w:World} {ops:Array Oper} {o:Oper} {rest:List Oper} {a:Act} {Q:Exit→Act→World→Prop} (hgd:o.guard=none) (s x:Operand) (t e:TypeId)
  (ho:o.op=.call { callee:=.builtin .append,args:=#[s,x],argTypes:=#[t,t] })
  (i:TypeInfo) (z:Value) (size bytes:Nat) (ht:Tryz.prog.underlying t=some (.slice e)) (hi:Tryz.prog.info? e=some i) (hz:i.zero=some z) (hsize:i.size=size) (hby:i.bytes=bytes) (hzs:z.cells.size=size) (hsz:0<size)
  (E:Nat) (hs:a.eval s=.slice (some ⟨E,0,none⟩) 0 0) (hE:w.heap[E]? = some (.cells #[] e (0,0))) (ad:Option Addr) (m c:Nat) (hx:a.eval x=.slice ad m c) (hn:ad=none→m=0∧c=0) (news:List Value) (hl:news.length=m*size)
  (hnews:∀ b,ad=some b→∀ j u,news[j]? = some u→w.cell? (b.add j)=some u) (h1:∀ u∈news,u.oneCell'=true) (hm:m≤1000) (hbytes:m*bytes≤140737488355328)
  (hk:∀ g c' w',w'.ownsRow E e size (.slice (some ⟨g,0,none⟩) m c') m news→w.grownBy w' (some E)→(g=E∨g=w.heap.size)→wpList Tryz.prog ops Q rest (a.put o.dst (.slice (some ⟨g,0,none⟩) m c')) w') :
  wpList Tryz.prog ops Q (o::rest) a w:=by
 refine wpList_plain hgd fun K hK=>?_;obtain⟨g,c',w',hrun,h2,h3,h4⟩:=zjf t o.type e i z size bytes ht hi hz hsize hby hzs hsz E hE ad m c hn news hl hnews h1 hm hbytes;unfold Oper.wp;simp[execOp,ho,resolve,invoke,builtin,hs,hx,hrun,Result.andThen];exact hK _ _ (hk g c' w' h2 h3 h4)
theorem zmb (ad:Addr) (n c:Nat) (w:World):(binOp .eql 31 (.slice (some ad) n c) (.slice none 0 0)).run Tryz.prog w=.ok (.bool false) w:=by kernel_rfl
theorem zma (n c:Nat) (w:World):(binOp .eql 31 (.slice none n c) (.slice none 0 0)).run Tryz.prog w=.ok (.bool true) w:=by kernel_rfl
theorem zev (w:World) (a:Option Addr) (c:Nat) (l:List Tg) (h:TgsAt w a l) (hm:l.length≤1000) :
  Calls Tryz.prog 85 #[.slice a l.length c] w fun e w'=>∃ a' c',e=.returned (.slice a' l.length c')∧zcm w.heap.size w' a' c' l∧Below w.heap.size w w':=by
 cases a with
 |none =>
  have h0:=h.nil;obtain rfl:=List.eq_nil_of_length_eq_zero h0;have hq:=zma 0 c w;have H:=zaa h;clear h h0 hm;simp only[List.length_nil];go_enter Tryz.func85,Tryz.ntmps85
  go_wp2
  go_ret
  exact⟨none,0,rfl,zcm.ofNil _ _,Below.refl _ _⟩
 |some ad =>
  have hq:=zmb ad l.length c w;have b1:=zaa (show Below w.heap.size w (w.alloc (.cells #[] 70)) from(Below.refl _ _).alloc (Nat.le_refl _) _);have H1:=zaa (h.later (za b1));have HL:=zaa hm;have HI:=zq7;obtain⟨i0,hi,hio⟩:=Option.map_eq_some_iff.1 HI;simp only[Prod.mk.injEq] at hio;obtain⟨i1,i2,i3⟩:=hio;have I0:=zaa hi;have I1:=zaa i1;have I2:=zaa i2;have I3:=zaa i3;clear h hm HI hi i1 i2 i3;go_enter Tryz.func85,Tryz.ntmps85
  go_wp2_with (at_builtin;refine za ?_)
  refine zaa ?_;refine zkf rfl (.tmp 5) (.tmp 6) 31 70 rfl i0 _ 2 24 Tryz.underlying31 (za I0) (za I1) (za I2) (za I3) rfl (by omega) w.heap.size rfl (zac w _) (some ad) l.length c rfl (fun e=>by cases e) (zee l) (zcs l) (za H1).news (zfk l) (za HL) (by have:=za HL;omega) ?_;intro g c' W2 ho hg hge;have B2:=zaa ((za b1).grown hg (za b1).size (fun g hg=>by have:=Option.some.inj hg;omega));have O2:=zaa (show zcm w.heap.size W2 (some ⟨g,0,none⟩) c' l from ho);have GE:=zaa (show w.heap.size≤g by rcases hge with e|e <;> have:=(za b1).size <;> omega);clear ho hg hge
  go_wp2
  go_ret
  exact⟨some ⟨g,0,none⟩,c',rfl,za O2,za B2⟩
structure Pr where
 nm:ByteArray
 ta:Option Addr
 tn:Nat
 tc:Nat
def zeb (x:Pr):List Value:=[.string x.nm,.slice x.ta x.tn x.tc]
def zb9 (l:List Pr):List Value:=l.flatMap zeb
theorem zfi:∀ (xs:List Pr) (i f:Nat) (hi:i<xs.length) (_:f<2),(zb9 xs)[i*2+f]? = (zeb xs[i])[f]?
 |[],i,_,hi,_=>by simp at hi
 |x::xs,0,f,_,hf=>by
  simp only[zb9,List.flatMap_cons,Nat.zero_mul,Nat.zero_add,List.getElem_cons_zero];rw[List.getElem?_append_left (show f<(zeb x).length from hf)]
 |x::xs,i+1,f,hi,hf=>by
  have ih:=zfi xs i f (by simpa using hi) hf;simp only[zb9,List.flatMap_cons,List.getElem_cons_succ] at ih ⊢;rw[List.getElem?_append_right (by rw[show(zeb x).length=2 from rfl];omega)];have e4:(i+1)*2+f - (zeb x).length=i*2+f:=by rw[show(zeb x).length=2 from rfl];omega
  rw[e4];exact ih
theorem zg6 (l:List Pr):∀ u∈zb9 l,u.oneCell'=true:=by
 intro u hu;obtain⟨x,_,hx⟩:=List.mem_flatMap.1 hu;simp only[zeb,List.mem_cons,List.not_mem_nil,or_false] at hx;rcases hx with rfl|rfl <;> rfl
def za8 (base:Nat) (w:World) (sp:Option Addr) (c:Nat) (l:List Pr):Prop:=w.ownsRow base 54 2 (.slice sp l.length c) l.length (zb9 l)
theorem za8.ofNil (base:Nat) (w:World):za8 base w none 0 []:=w.ownsRow_nil base 54 2
theorem zcm.keep {base:Nat} {w w':World} {sp:Option Addr} {c:Nat} {l:List Tg} (h:zcm base w sp c l) (hb:∀ g,sp.map (·.block)=some g→base≤g→g<w.heap.size→w'.heap[g]? = w.heap[g]?):zcm base w' sp c l:=by
 refine⟨h.1,?_⟩;rcases h.2 with hv|⟨g',cap,cur,hv,hbg,hg,r⟩
 ·exact .inl hv
 ·have hv':=hv;simp only[Value.slice.injEq] at hv';obtain⟨rfl,_⟩:=hv';exact .inr ⟨g',cap,cur,hv,hbg,(hb g' rfl hbg (Array.getElem?_eq_some_iff.1 hg).1).trans hg,r⟩
theorem zcm.cap {base:Nat} {w:World} {sp:Option Addr} {c:Nat} {l:List Tg} (h:zcm base w sp c l):l.length≤c∧(sp=none→c=0):=by
 rcases h.2 with⟨hv,h0⟩|⟨g',cap,cur,hv,hbg,hg',hle,r⟩
 ·simp only[Value.slice.injEq] at hv;exact⟨by omega,fun _=>hv.2.2⟩
 ·simp only[Value.slice.injEq] at hv;obtain⟨rfl,_,rfl⟩:=hv;exact⟨hle,fun e=>by cases e⟩
end
section
class Kord (κ:Type) where
 lt:κ→κ→Prop
 irr:∀ a,¬ lt a a
 tr:∀ {a b c},lt a b→lt b c→lt a c
 tri:∀ a b,lt a b∨a=b∨lt b a
 dlt:∀ a b,Decidable (lt a b)
 deq:DecidableEq κ
instance instDlt {κ:Type} [Kord κ] (a b:κ):Decidable (Kord.lt a b):=Kord.dlt a b
instance instDeq {κ:Type} [Kord κ]:DecidableEq κ:=Kord.deq
theorem zet {a b:ByteArray} (h:a.data.toList=b.data.toList):a=b:=by
 cases a;cases b;simp only[ByteArray.mk.injEq] at *;exact Array.toList_inj.1 h
instance:Kord ByteArray where
 lt a b:=a.data.toList<b.data.toList
 irr a:=List.lt_irrefl _
 tr h k:=List.lt_trans h k
 tri a b:=by
  by_cases h:a.data.toList<b.data.toList
  ·exact .inl h
  ·by_cases k:b.data.toList<a.data.toList
   ·exact .inr (.inr k)
   ·exact .inr (.inl (zet (List.le_antisymm (List.not_lt.1 k) (List.not_lt.1 h))))
 dlt a b:=inferInstanceAs (Decidable (a.data.toList<b.data.toList))
 deq:=inferInstance
instance:Kord Nat where
 lt a b:=a<b
 irr:=Nat.lt_irrefl
 tr h k:=Nat.lt_trans h k
 tri:=Nat.lt_trichotomy
 dlt a b:=inferInstanceAs (Decidable (a<b))
 deq:=inferInstance
instance {α β:Type} [Kord α] [Kord β]:Kord (α×β) where
 lt a b:=Kord.lt a.1 b.1∨(a.1=b.1∧Kord.lt a.2 b.2)
 irr a h:=h.elim (Kord.irr _) (fun k=>Kord.irr _ k.2)
 tr:=by
  rintro a b c (h|⟨e,h⟩) (k|⟨f,k⟩)
  ·exact .inl (Kord.tr h k)
  ·exact .inl (f ▸ h)
  ·exact .inl (by rw[e];exact k)
  ·exact .inr ⟨e.trans f,Kord.tr h k⟩
 tri a b:=by
  rcases Kord.tri a.1 b.1 with h|h|h
  ·exact .inl (.inl h)
  ·rcases Kord.tri a.2 b.2 with k|k|k
   ·exact .inl (.inr ⟨h,k⟩)
   ·exact .inr (.inl (Prod.ext h k))
   ·exact .inr (.inr (.inr ⟨h.symm,k⟩))
  ·exact .inr (.inr (.inl h))
 dlt a b:=inferInstanceAs (Decidable (Kord.lt a.1 b.1∨(a.1=b.1∧Kord.lt a.2 b.2)))
 deq:=inferInstance
section
variable {κ α β:Type} [Kord κ]
def Kr (fs:List (κ×α)):Prop:=fs.Pairwise (fun x y=>Kord.lt x.1 y.1)
def zib (k:κ) (v:α):List (κ×α)→List (κ×α)
 |[]=>[(k,v)]
 |x::r=>if Kord.lt x.1 k then x::zib k v r else if x.1=k then (k,v)::r else (k,v)::x::r
def zp1 (k:κ) (fs:List (κ×α)):List (κ×α):=fs.filter (fun x=>decide (x.1≠k))
def zki (k:κ):List (κ×α)→Option α
 |[]=>none
 |x::r=>if x.1=k then some x.2 else zki k r
theorem Kr.nodup {fs:List (κ×α)} (h:Kr fs):(fs.map (·.1)).Nodup:=by
 rw[List.Nodup,List.pairwise_map];refine List.Pairwise.imp ?_ (show fs.Pairwise (fun x y=>Kord.lt x.1 y.1) from h);intro a b hab e;rw[e] at hab;exact Kord.irr _ hab
theorem Kr.one {fs:List (κ×α)} (h:Kr fs) {x y:κ×α} (hx:x∈fs) (hy:y∈fs) (e:x.1=y.1):x=y:=by
 induction fs with
 |nil=>simp at hx
 |cons z r ih =>
  have h1:=List.pairwise_cons.1 h;rcases List.mem_cons.1 hx with hx|hx <;> rcases List.mem_cons.1 hy with hy|hy
  ·rw[hx,hy]
  ·exact absurd (show Kord.lt y.1 y.1 by have:=h1.1 y hy;rw[← hx,e] at this;exact this) (Kord.irr _)
  ·exact absurd (show Kord.lt y.1 y.1 by have:=h1.1 x hx;rw[← hy,e] at this;exact this) (Kord.irr _)
  ·exact ih h1.2 hx hy
theorem zcz {k:κ} {v:α} : ∀ {fs:List (κ×α)},Kr fs→∀ y,y∈zib k v fs↔(y=(k,v)∨(y∈fs∧y.1≠k))
 |[],_,y=>by simp[zib]
 |x::r,h,y=>by
  have h1:=List.pairwise_cons.1 h;have hr:∀ {z},z∈r→¬ Kord.lt x.1 k→z.1≠k:=fun {z} hz hn e=>hn (e ▸ h1.1 z hz);unfold zib;by_cases h2:Kord.lt x.1 k
  ·rw[if_pos h2,List.mem_cons,zcz h1.2 y,List.mem_cons];have:x.1≠k:=fun e=>Kord.irr _ (e ▸ h2);constructor
   ·rintro(rfl|h|h)
    ·exact .inr ⟨.inl rfl,this⟩
    ·exact .inl h
    ·exact .inr ⟨.inr h.1,h.2⟩
   ·rintro(h|⟨rfl|h,hk⟩)
    ·exact .inr (.inl h)
    ·exact .inl rfl
    ·exact .inr (.inr ⟨h,hk⟩)
  ·rw[if_neg h2];by_cases h3:x.1=k
   ·rw[if_pos h3,List.mem_cons,List.mem_cons];constructor
    ·rintro(h|h)
     ·exact .inl h
     ·exact .inr ⟨.inr h,hr h h2⟩
    ·rintro(h|⟨rfl|h,hk⟩)
     ·exact .inl h
     ·exact absurd h3 hk
     ·exact .inr h
   ·rw[if_neg h3,List.mem_cons,List.mem_cons];constructor
    ·rintro(h|rfl|h)
     ·exact .inl h
     ·exact .inr ⟨.inl rfl,h3⟩
     ·exact .inr ⟨.inr h,hr h h2⟩
    ·rintro(h|⟨h,hk⟩)
     ·exact .inl h
     ·exact .inr h
theorem Kr.put {fs:List (κ×α)} (h:Kr fs) (k:κ) (v:α):Kr (zib k v fs):=by
 induction fs with
 |nil=>exact List.pairwise_singleton _ _
 |cons x r ih =>
  have h1:=List.pairwise_cons.1 h;unfold zib;by_cases h2:Kord.lt x.1 k
  ·rw[if_pos h2];refine List.pairwise_cons.2 ⟨fun y hy=>?_,ih h1.2⟩;rcases(zcz h1.2 y).1 hy with rfl|⟨hy,_⟩
   ·exact h2
   ·exact h1.1 y hy
  ·rw[if_neg h2];by_cases h3:x.1=k
   ·rw[if_pos h3];exact List.pairwise_cons.2 ⟨fun y hy=>by have:=h1.1 y hy;rw[h3] at this;exact this,h1.2⟩
   ·rw[if_neg h3];have h4:Kord.lt k x.1:=((Kord.tri x.1 k).resolve_left h2).resolve_left h3;refine List.pairwise_cons.2 ⟨fun y hy=>?_,h⟩;rcases List.mem_cons.1 hy with rfl|hy
    ·exact h4
    ·exact Kord.tr h4 (h1.1 y hy)
theorem Kr.del {fs:List (κ×α)} (h:Kr fs) (k:κ):Kr (zp1 k fs):=h.sublist List.filter_sublist
theorem zfg {fs:List (κ×α)} {k:κ} (y:κ×α):y∈zp1 k fs↔(y∈fs∧y.1≠k):=by simp[zp1]
theorem zic {k:κ} {v:α} : ∀ {fs:List (κ×α)},Kr fs→(zib k v fs).length=if k∈fs.map (·.1) then fs.length else fs.length+1
 |[],_=>by simp[zib]
 |x::r,h=>by
  have h1:=List.pairwise_cons.1 h;have ih:=zic (k:=k) (v:=v) h1.2;unfold zib;by_cases h2:Kord.lt x.1 k
  ·have h3:k≠x.1:=fun e=>Kord.irr _ (e ▸ h2);rw[if_pos h2,List.length_cons,ih];simp only[List.map_cons,List.mem_cons,h3,false_or,List.length_cons];split <;> rfl
  ·rw[if_neg h2];by_cases h3:x.1=k
   ·rw[if_pos h3];simp[h3]
   ·rw[if_neg h3];have h4:k ∉ (x::r).map (·.1):=by
     intro hm;simp only[List.map_cons,List.mem_cons] at hm;rcases hm with e|hm
     ·exact h3 e.symm
     ·obtain⟨z,hz,e⟩:=List.mem_map.1 hm;exact h2 (e ▸ h1.1 z hz)
    rw[if_neg h4];rfl
theorem zia {k:κ} : ∀ {fs:List (κ×α)},Kr fs→(zp1 k fs).length+(if k∈fs.map (·.1) then 1 else 0)=fs.length
 |[],_=>by simp[zp1]
 |x::r,h=>by
  have h1:=List.pairwise_cons.1 h;have ih:=zia (k:=k) h1.2;unfold zp1 at ih ⊢;rw[List.filter_cons];by_cases h3:x.1=k
  ·have h4:k ∉ r.map (·.1):=fun hm=>by
    obtain⟨z,hz,e⟩:=List.mem_map.1 hm;have:=h1.1 z hz;rw[e,h3] at this;exact Kord.irr _ this
   rw[if_neg h4] at ih;simp[h3] at ih ⊢;exact ih
  ·have h5:(k=x.1)=False:=by simp;exact fun e=>h3 e.symm
   rw[if_pos (by simpa using h3)];simp only[List.length_cons,List.map_cons,List.mem_cons,h5,false_or];omega
theorem zg {k:κ} : ∀ {fs:List (κ×α)},zki k fs=none↔k ∉ fs.map (·.1)
 |[]=>by simp[zki]
 |x::r=>by
  unfold zki;by_cases h:x.1=k
  ·simp[h]
  ·rw[if_neg h,zg];have:¬ k=x.1:=fun e=>h e.symm;simp only[List.map_cons,List.mem_cons,this,false_or]
theorem zht {k:κ} {v:α} : ∀ {fs:List (κ×α)},zki k fs=some v→(k,v)∈fs
 |[],h=>by simp[zki] at h
 |x::r,h=>by
  unfold zki at h;by_cases e:x.1=k
  ·rw[if_pos e] at h;cases h
   rw[← e];exact List.mem_cons_self
  ·rw[if_neg e] at h;exact List.mem_cons_of_mem _ (zht h)
theorem Kr.get {fs:List (κ×α)} (h:Kr fs) {k:κ} {v:α} (hm:(k,v)∈fs):zki k fs=some v:=by
 cases e:zki k fs with
 |none=>exact absurd (List.mem_map.2 ⟨_,hm,rfl⟩) (zg.1 e)
 |some u =>
  have:=h.one hm (zht e) rfl;simp only[Prod.mk.injEq,true_and] at this;rw[this]
theorem Kr.ext:∀ {fs gs:List (κ×α)},Kr fs→Kr gs→(∀ y,y∈fs↔y∈gs)→fs=gs
 |[],[],_,_,_=>rfl
 |[],y::r,_,_,h=>by have:=(h y).2 List.mem_cons_self;simp at this
 |x::r,[],_,_,h=>by have:=(h x).1 List.mem_cons_self;simp at this
 |x::r,y::s,h1,h2,h=>by
  have a1:=List.pairwise_cons.1 h1;have a2:=List.pairwise_cons.1 h2;have hxy:x=y:=by
   rcases List.mem_cons.1 ((h x).1 List.mem_cons_self) with e|e
   ·exact e
   ·rcases List.mem_cons.1 ((h y).2 List.mem_cons_self) with f|f
    ·exact f.symm
    ·exact absurd (Kord.tr (a2.1 _ e) (a1.1 _ f)) (Kord.irr _)
  subst hxy;rw[Kr.ext a1.2 a2.2 (fun z=>?_)];constructor
  ·intro hz;rcases List.mem_cons.1 ((h z).1 (List.mem_cons_of_mem _ hz)) with e|e
   ·subst e;exact absurd (a1.1 _ hz) (Kord.irr _)
   ·exact e
  ·intro hz;rcases List.mem_cons.1 ((h z).2 (List.mem_cons_of_mem _ hz)) with e|e
   ·subst e;exact absurd (a2.1 _ hz) (Kord.irr _)
   ·exact e
theorem zi7 {k:κ} {v:α} : ∀ {fs:List (κ×α)},Kr fs→zib k v fs=fs.filter (fun x=>decide (Kord.lt x.1 k))++(k,v)::fs.filter (fun x=>decide (Kord.lt k x.1))
 |[],_=>rfl
 |x::r,h=>by
  have h1:=List.pairwise_cons.1 h;unfold zib;by_cases h2:Kord.lt x.1 k
  ·have h3:¬ Kord.lt k x.1:=fun e=>Kord.irr _ (Kord.tr h2 e);rw[if_pos h2,zi7 h1.2,List.filter_cons_of_pos (by simpa using h2),List.filter_cons_of_neg (by simpa using h3)];rfl
  ·have h4:∀ y∈r,¬ Kord.lt y.1 k:=fun y hy e=>h2 (Kord.tr (h1.1 y hy) e);have h5:r.filter (fun x=>decide (Kord.lt x.1 k))=[]:=by
    rw[List.filter_eq_nil_iff];intro y hy;simpa using h4 y hy
   rw[if_neg h2,List.filter_cons_of_neg (by simpa using h2),h5,List.nil_append];by_cases h3:x.1=k
   ·have h6:∀ y∈r,Kord.lt k y.1:=fun y hy=>h3 ▸ h1.1 y hy;have h7:r.filter (fun x=>decide (Kord.lt k x.1))=r:=by
     rw[List.filter_eq_self];intro y hy;simpa using h6 y hy
    rw[if_pos h3,List.filter_cons_of_neg (by rw[h3];simpa using Kord.irr k),h7]
   ·have h8:Kord.lt k x.1:=((Kord.tri x.1 k).resolve_left h2).resolve_left h3;have h7:r.filter (fun x=>decide (Kord.lt k x.1))=r:=by
     rw[List.filter_eq_self];intro y hy;simpa using Kord.tr h8 (h1.1 y hy)
    rw[if_neg h3,List.filter_cons_of_pos (by simpa using h8),h7]
theorem zp3 {k:κ} {v:α} {fs:List (κ×α)} (h:Kr fs):zib k v (zp1 k fs)=zib k v fs:=by
 refine Kr.ext ((h.del k).put k v) (h.put k v) (fun y=>?_);rw[zcz (h.del k),zcz h,zfg];constructor
 ·rintro(e|⟨⟨a,b⟩,_⟩)
  ·exact .inl e
  ·exact .inr ⟨a,b⟩
 ·rintro(e|⟨a,b⟩)
  ·exact .inl e
  ·exact .inr ⟨⟨a,b⟩,b⟩
end
end
end Go.Proofs.YtjcjleaicjhpeaaGreatDoor
