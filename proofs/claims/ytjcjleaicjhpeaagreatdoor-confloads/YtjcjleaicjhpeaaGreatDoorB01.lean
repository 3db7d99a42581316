/- Slices of bytes: what lies in memory, what the walks ask of it. -/
import Derived.Test.YtjcjleaicjhpeaaGreatDoorChecked
import Derived.WalkKit
import Derived.ProofKit
import Derived.OpenShut
import Derived.Below
import Derived.WalkLawsBesides
import Derived.WalkSpells
import Derived.Outline
import Derived.Laws.CopyOwn
import Derived.Laws.IdiomStrings
import Derived.Deep.QuietTactic
import Derived.BigQuiet
import Derived.Deep.AppendLies
import Derived.Laws.BitsAllLaws
import Derived.Laws.AppendOwnNone
import Derived.Maps.AppendAt
import Derived.WalkSmall
import Derived.Lib.AppendStr
import Derived.Lib.ConvBytes
import Derived.Lib.Split
import Derived.Laws.AppendOwn
import Derived.ArgAppend
import Derived.Laws.Tables
import Derived.Laws.Rows
set_option linter.unusedVariables false
set_option maxRecDepth 20000
set_option maxHeartbeats 16000000
namespace Go.Proofs.YtjcjleaicjhpeaaGreatDoor
section
open Go.ChangeShapes Go.WideShapes Go.ChangeAt Go.RowKit
structure BytesAt (w:World) (a:Option Addr) (l:List Nat):Prop where
 lt:∀ c∈l,c<256
 cell:∀ i,i<l.length→∃ b off,a=some ⟨b,off,none⟩∧w.cell? ⟨b,off+i,none⟩=some (.int .u8 ((l.getD i 0:Nat):Int))
theorem zaa {p:Prop} (h:p):Hid p:=h
theorem za {p:Prop} (h:Hid p):p:=h
theorem zm1 {l:List Nat} (h:∀ c∈l,c<256) (k:Nat):l.getD k 0<256:=by
 rw[List.getD_eq_getElem?_getD];by_cases hk:k<l.length
 ·rw[List.getElem?_eq_getElem hk];exact h _ (List.getElem_mem hk)
 ·rw[List.getElem?_eq_none (by omega)];decide
def zdw (c:Nat):Value:=.int .u8 (c:Int)
theorem zkw {w:World} {a:Option Addr} {l:List Nat} (hb:BytesAt w a l) (h:0<l.length) :
  ∃ b off,a=some ⟨b,off,none⟩∧∀ i,i<l.length→w.cell? ⟨b,off+i,none⟩=some (.int .u8 ((l.getD i 0:Nat):Int)):=by
 obtain⟨b,off,rfl,_⟩:=hb.cell 0 h;refine⟨b,off,rfl,fun i hi=>?_⟩;obtain⟨b',off',he,hc⟩:=hb.cell i hi;simp only[Option.some.injEq,Addr.mk.injEq,and_true] at he;obtain⟨rfl,rfl⟩:=he;exact hc
theorem BytesAt.later {w w':World} {a:Option Addr} {l:List Nat} (hb:BytesAt w a l) (h:Below w.heap.size w w'):BytesAt w' a l :=
 ⟨hb.lt,fun i hi=>by obtain⟨b,off,rfl,hc⟩:=hb.cell i hi;exact⟨b,off,rfl,cell_later h hc⟩⟩
theorem zbx {w:World} {g:Nat} {l:List Nat} {t:TypeId} {fr:Nat×Nat} (h:w.heap[g]? = some (.cells (l.map zdw).toArray t fr)) (hl:∀ c∈l,c<256):BytesAt w (some ⟨g,0,none⟩) l:=by
 refine⟨hl,fun i hi=>⟨g,0,rfl,?_⟩⟩;rw[cell_of_row w g (0+i) _ t fr h];simp only[Nat.zero_add,List.getElem?_toArray,List.getElem?_map,List.getElem?_eq_getElem hi,Option.map_some,List.getD_eq_getElem?_getD,Option.getD_some,zdw]
theorem zad (w:World) (o:Obj):(w.alloc o).heap[w.heap.size]? = some o:=by
 show(w.heap.push o)[w.heap.size]? = _
 simp
theorem zta:(Tryz.prog.info? 5).map (fun i=>(i.zero,i.size,i.bytes))=some (some (.int .u8 0),1,1):=by kernel_rfl
theorem zgf (l:List Nat):∀ v∈l.map zdw,v.oneCell'=true:=by
 intro v hv;obtain⟨c,_,rfl⟩:=List.mem_map.1 hv;rfl
theorem zen {w:World} {a:Option Addr} {l:List Nat} (hb:BytesAt w a l) (h:0<(l.map zdw).length):∃ ad,a=some ad∧∀ j v,(l.map zdw)[j]? = some v→w.cell? (ad.add j)=some v:=by
 obtain⟨b,off,rfl,hc⟩:=zkw hb (by simpa using h);refine⟨_,rfl,fun j v hv=>?_⟩;rw[List.getElem?_map] at hv;obtain⟨x,hx,rfl⟩:=Option.map_eq_some_iff.1 hv;have hj:j<l.length:=(List.getElem?_eq_some_iff.1 hx).1;have:=hc j hj;rw[List.getD_eq_getElem?_getD,hx] at this;rw[Addr.add_lit];exact this
def slp (a:Option Addr) (lo cap:Nat):Option Addr:=if cap=lo then a else a.map (·.add lo)
theorem elem8:Tryz.prog.underlying 50=some (.slice (Tryz.prog.elem 50)):=by kernel_rfl
theorem ztv (u:World):(sizeOf (Tryz.prog.elem 50)).run Tryz.prog u=.ok 1 u:=by kernel_rfl
theorem zgo (a:Option Addr) (len cap lo hi:Nat) (h1:lo≤hi) (h2:hi≤cap) (u:World) :
  (Instr.slice 50 (.slice a len cap) (some (.int .i64 (lo:Int))) (some (.int .i64 (hi:Int))) none).run Tryz.prog u=.ok (.slice (slp a lo cap) (hi - lo) (cap - lo)) u:=by
 rw[run_slice_lh (w:=u) 50 a len cap elem8 .i64 .i64 (lo:Int) (hi:Int) (by omega) (by omega) (by omega),ztv];simp[Result.andThen,sliced,slp]
theorem zqj (l:List Nat) (lo i:Nat):(l.drop lo).getD i 0=l.getD (lo+i) 0:=by
 simp[List.getD_eq_getElem?_getD]
theorem zqk (l:List Nat) (k i:Nat) (h:i<k):(l.take k).getD i 0=l.getD i 0:=by
 rw[List.getD_eq_getElem?_getD,List.getD_eq_getElem?_getD,List.getElem?_take,if_pos h]
theorem BytesAt.drop {w:World} {a:Option Addr} {l:List Nat} (hb:BytesAt w a l) (lo cap:Nat) (hc:l.length≤cap):BytesAt w (slp a lo cap) (l.drop lo):=by
 refine⟨fun c hc=>hb.lt c (List.mem_of_mem_drop hc),fun i hi=>?_⟩;rw[List.length_drop] at hi;obtain⟨b,off,rfl,h⟩:=hb.cell (lo+i) (by omega);refine⟨b,off+lo,?_,?_⟩
 ·unfold slp;rw[if_neg (by omega)];simp[Addr.add_lit]
 ·rw[zqj,Nat.add_assoc];exact h
theorem BytesAt.take {w:World} {a:Option Addr} {l:List Nat} (hb:BytesAt w a l) (k:Nat):BytesAt w a (l.take k):=by
 refine⟨fun c hc=>hb.lt c (List.mem_of_mem_take hc),fun i hi=>?_⟩;rw[List.length_take] at hi;obtain⟨b,off,rfl,h⟩:=hb.cell i (by omega);exact⟨b,off,rfl,by rw[zqk _ _ _ (by omega)];exact h⟩
def zaj (l:List Nat):ByteArray:=⟨(l.map UInt8.ofNat).toArray⟩
theorem zsw:Tryz.prog.underlying 5=some (.int .u8):=Tryz.underlying5
theorem za3 {w:World} {a:Option Addr} {l:List Nat} (n c:Nat) (hn:l.length=n) (hb:BytesAt w a l):(convert 50 9 (.slice a n c)).run Tryz.prog w=.ok (.string (zaj l)) w:=by
 subst hn;cases a with
 |none =>
  have hl:l=[]:=by
   cases l with
   |nil=>rfl
   |cons x r=>obtain⟨b,off,h,_⟩:=hb.cell 0 (by simp);cases h
  subst hl;rw[run_convert_bytes_string w 50 9 5 none _ c Tryz.underlying50 zsw Tryz.underlying9];rfl
 |some x =>
  have hlen:(l.map UInt8.ofNat).length=l.length:=by simp
  rw[← hlen];apply run_convert_bytes_back w 50 9 5 x c (l.map UInt8.ofNat) Tryz.underlying50 zsw Tryz.underlying9
  intro j hj;rw[hlen] at hj;obtain⟨b,off,h,hc⟩:=hb.cell j hj;cases h
  rw[Addr.add_lit,hc];have hlt:=zm1 hb.lt j;have e:l.getD j 0=l[j]:=by rw[List.getD_eq_getElem?_getD,List.getElem?_eq_getElem hj];rfl
  rw[e] at hlt ⊢;simp only[List.getElem_map,UInt8.toNat_ofNat'];rw[Nat.mod_eq_of_lt (by simpa using hlt)]
theorem zbk (w:World) (row:Option Nat):w.grownBy w row:=⟨rfl,rfl,rfl,Nat.le_refl _,fun _ _ _=>rfl⟩
theorem zaf {a b c:World} {row:Option Nat} (h:a.grownBy b row) (k:b.grownBy c row):a.grownBy c row :=
 ⟨k.os.trans h.os,k.tape.trans h.tape,k.output.trans h.output,Nat.le_trans h.size k.size,fun i hi hne=>(k.block i (Nat.lt_of_lt_of_le hi h.size) hne).trans (h.block i hi hne)⟩
theorem zm2 {a b:World} (row:Option Nat) (h:Below a.heap.size a b):a.grownBy b row:=⟨h.os,h.tape,h.output,h.size,fun i hi _=>h.block i hi⟩
theorem zax (w:World) (j k:Nat) (v:Value):w.grownBy (w.setCell ⟨j,k,none⟩ v) (some j) :=
 ⟨rfl,rfl,rfl,by simp[World.setCell],fun i _ hne=>heap_setCell_other w ⟨j,k,none⟩ i v (fun e=>hne (by rw[e]))⟩
theorem BytesAt.far {w w':World} {a:Option Addr} {l:List Nat} {j:Nat} (hb:BytesAt w a l) (hg:w.grownBy w' (some j)) (hne:∀ b off,a=some ⟨b,off,none⟩→b≠j):BytesAt w' a l:=by
 refine⟨hb.lt,fun i hi=>?_⟩;obtain⟨b,off,h1,h2⟩:=hb.cell i hi;refine⟨b,off,h1,?_⟩;rw[hg.cell_far ⟨b,off+i,none⟩ (World.block_lt_of_cell? _ _ h2) (by simpa using hne b off h1)];exact h2
theorem zry {w:World} {a:Option Addr} {l:List Nat} (hb:BytesAt w a l) (h0:0<l.length):∀ b off,a=some ⟨b,off,none⟩→b<w.heap.size:=by
 intro b off e;obtain⟨b',off',h1,h2⟩:=hb.cell 0 h0;rw[e] at h1;simp only[Option.some.injEq,Addr.mk.injEq,and_true] at h1;have:=World.block_lt_of_cell? _ _ h2;simp only at this;omega
structure OwnB (base:Nat) (w:World) (sp:Option Addr) (c:Nat) (l:List Nat):Prop where
 owns:w.ownsRow base 5 1 (.slice sp l.length c) l.length (l.map zdw)
 lt:∀ c∈l,c<256
theorem OwnB.bytes {base:Nat} {w:World} {sp:Option Addr} {c:Nat} {l:List Nat} (h:OwnB base w sp c l):BytesAt w sp l:=by
 refine⟨h.lt,fun i hi=>?_⟩;rcases h.owns.2 with⟨hv,h0⟩|⟨g,cap,cur,hv,_,hg,_,_,_,ht⟩
 ·omega
 ·cases hv
  refine⟨g,0,rfl,?_⟩;rw[cell_of_row w g (0+i) cur _ _ hg,Nat.zero_add];have e:(l.map zdw)[i]? = some (zdw (l.getD i 0)):=by
   rw[List.getElem?_map,List.getElem?_eq_getElem hi,List.getD_eq_getElem?_getD,List.getElem?_eq_getElem hi];rfl
  rw[← ht,List.getElem?_take,if_pos (by omega)] at e;rw[← Array.getElem?_toList];exact e
theorem OwnB.empty (w:World) (base:Nat) (hb:base≤w.heap.size):OwnB base (w.alloc (.cells #[] 5)) (some ⟨w.heap.size,0,none⟩) 0 [] :=
 ⟨⟨rfl,.inr ⟨w.heap.size,0,#[],rfl,hb,zad _ _,Nat.le_refl _,by simp[maxLen],rfl,rfl⟩⟩,by simp⟩
theorem OwnB.ofNil (w:World) (base:Nat):OwnB base w none 0 []:=⟨w.ownsRow_nil base 5 1,by simp⟩
theorem OwnB.later {base:Nat} {w w':World} {sp:Option Addr} {c:Nat} {l:List Nat} (h:OwnB base w sp c l) (hb:Below w.heap.size w w'):OwnB base w' sp c l:=by
 refine⟨⟨h.owns.1,?_⟩,h.lt⟩;rcases h.owns.2 with hv|⟨g,cap,cur,hv,hbg,hg,r⟩
 ·exact .inl hv
 ·exact .inr ⟨g,cap,cur,hv,hbg,(hb.block g (Array.getElem?_eq_some_iff.1 hg).1).trans hg,r⟩
theorem zi3 {w:World} (base:Nat) (sp:Option Addr) (c:Nat) (l:List Nat) (hown:OwnB base w sp c l) (xp:Option Addr) (m xc:Nat) (k:List Nat) (hk:k.length=m) (hB:BytesAt w xp k) (hx0:xp=none→xc=0)
  (hsz:l.length+m≤140737488355328) (hbase:base≤w.heap.size) (ty:TypeId) :
  ∃ sp' c' w',(Builtin.append_ #[50,50] ty #[.slice sp l.length c,.slice xp m xc]).run Tryz.prog w=.ok (.slice sp' (l++k).length c') w'∧OwnB base w' sp' c' (l++k)∧w.grownBy w' (Value.slice sp l.length c).ownBlock∧Below base w w':=by
 subst hk;obtain⟨i0,hi,hz0,hz1,hz2⟩:=info_parts zta;have hlt:∀ c∈l++k,c<256:=fun c hc=>(List.mem_append.1 hc).elim (hown.lt c) (hB.lt c);have hbel:∀ w',w.grownBy w' (Value.slice sp l.length c).ownBlock→Below base w w':=fun w' hg=>(Below.refl base w).grown hg hbase (fun j hj=>(hown.owns.lt j hj).1);cases xp with
 |none =>
  have hk0:k=[]:=by
   cases k with
   |nil=>rfl
   |cons x r=>obtain⟨b,off,h,_⟩:=hB.cell 0 (by simp);cases h
  subst hk0;rw[hx0 rfl];have hrun:=run_append_owned_none (P:=Tryz.prog) (w:=w) base 50 ty 5 i0 1 Tryz.underlying50 hi _ _ _ hown.owns;refine⟨sp,c,w,?_,?_,⟨rfl,rfl,rfl,Nat.le_refl _,fun _ _ _=>rfl⟩,Below.refl _ _⟩
  ·rw[List.append_nil];exact hrun
  ·rw[List.append_nil];exact hown
 |some x =>
  obtain⟨v',w',hrun,h1,h2,_⟩:=run_append_own (P:=Tryz.prog) (w:=w) base 50 ty 5 i0 (.int .u8 0) 1 1 Tryz.underlying50 hi hz0 hz1 hz2 rfl (by omega) _ _ _ hown.owns x k.length xc (k.map zdw) (by simp)
   (fun j u hu=>by
    have h0:0<(k.map zdw).length:=by
     rcases Nat.eq_zero_or_pos (k.map zdw).length with h|h
     ·rw[List.getElem?_eq_none (by omega)] at hu;cases hu
     ·exact h
    obtain⟨ad,had,hc⟩:=zen hB h0;cases had
    exact hc j u hu) (zgf k) (by simp only[maxLen];omega) (by omega) hbase
  rw[← List.map_append,← List.length_append] at h1;have hv:∃ sp' c',v'=.slice sp' (l++k).length c':=by
   rcases h1.2 with⟨hv,h0⟩|⟨g,cap,cur,hv,_⟩
   ·exact⟨none,0,by rw[hv,h0]⟩
   ·exact⟨_,_,hv⟩
  obtain⟨sp',c',rfl⟩:=hv;exact⟨sp',c',w',hrun,⟨h1,hlt⟩,h2,hbel w' h2⟩
theorem zfv {w:World} {ops:Array Oper} {rest:List Oper} {o:Oper} {a:Act} {Q:Exit→Act→World→Prop} (hgd:o.guard=none) (s x:Operand)
  (ho:o.op=.call { callee:=.builtin .append,args:=#[s,x],argTypes:=#[50,50] })
  (base:Nat) (sp:Option Addr) (n c:Nat) (l:List Nat) (hs:a.eval s=.slice sp n c) (hn:l.length=n) (hown:OwnB base w sp c l)
  (xp:Option Addr) (m xc:Nat) (hx:a.eval x=.slice xp m xc) (k:List Nat) (hk:k.length=m) (hB:BytesAt w xp k) (hx0:xp=none→xc=0)
  (hsz:l.length+m≤140737488355328) (hbase:base≤w.heap.size)
  (h:∀ sp' n' c' w',Hid ((l++k).length=n')→OwnB base w' sp' c' (l++k)→w.grownBy w' (Value.slice sp l.length c).ownBlock→Below base w w'→wpList Tryz.prog ops Q rest (a.put o.dst (.slice sp' n' c')) w') :
  wpList Tryz.prog ops Q (o::rest) a w:=by
 subst hn;refine wpList_plain hgd fun K hK=>?_;obtain⟨sp',c',w',hrun,h1,h2,h3⟩:=zi3 (w:=w) base sp c l hown xp m xc k hk hB hx0 hsz hbase o.type;unfold Oper.wp;simp[execOp,ho,resolve,invoke,builtin,hs,hx,hrun,Result.andThen];have:=hK _ _ (h sp' (l++k).length c' w' rfl h1 h2 h3);rw[List.length_append] at this;exact this
def blk (sp:Option Addr):Option Nat:=sp.map (·.block)
theorem zbd (sp:Option Addr) (n c:Nat):(Value.slice sp n c).ownBlock=blk sp:=by cases sp <;> rfl
theorem OwnB.blk_lt {base:Nat} {w:World} {sp:Option Addr} {c:Nat} {l:List Nat} (h:OwnB base w sp c l):∀ g,blk sp=some g→base≤g∧g<w.heap.size:=by
 intro g hg;have:=h.owns.lt g (by rw[zbd];exact hg);exact this
theorem zlz {w:World} (base:Nat) (sp:Option Addr) (c:Nat) (l:List Nat) (hown:OwnB base w sp c l) (xp:Option Addr) (m xc:Nat) (k:List Nat) (hk:k.length=m) (hB:BytesAt w xp k) (hx0:xp=none→xc=0)
  (hsz:l.length+m≤140737488355328) (hbase:base≤w.heap.size) (ty:TypeId) :
  ∃ sp' c' w',(Builtin.append_ #[50,50] ty #[.slice sp l.length c,.slice xp m xc]).run Tryz.prog w=.ok (.slice sp' (l++k).length c') w'∧OwnB base w' sp' c' (l++k)∧w.grownBy w' (blk sp)∧∀ g,blk sp'=some g→blk sp=some g∨w.heap.size≤g:=by
 subst hk;obtain⟨i0,hi,hz0,hz1,hz2⟩:=info_parts zta;have hlt:∀ c∈l++k,c<256:=fun c hc=>(List.mem_append.1 hc).elim (hown.lt c) (hB.lt c);cases xp with
 |none =>
  have hk0:k=[]:=by
   cases k with
   |nil=>rfl
   |cons x r=>obtain⟨b,off,h,_⟩:=hB.cell 0 (by simp);cases h
  subst hk0;rw[hx0 rfl];have hrun:=run_append_owned_none (P:=Tryz.prog) (w:=w) base 50 ty 5 i0 1 Tryz.underlying50 hi _ _ _ hown.owns;refine⟨sp,c,w,?_,?_,⟨rfl,rfl,rfl,Nat.le_refl _,fun _ _ _=>rfl⟩,fun g hg=>.inl hg⟩
  ·rw[List.append_nil];exact hrun
  ·rw[List.append_nil];exact hown
 |some x =>
  obtain⟨v',w',hrun,h1,h2,_,h5⟩:=run_append_own_at (P:=Tryz.prog) w base 50 ty 5 i0 (.int .u8 0) 1 1 Tryz.underlying50 hi hz0 hz1 hz2 rfl (by omega) _ _ _ hown.owns x k.length xc (k.map zdw) (by simp)
   (fun j u hu=>by
    have h0:0<(k.map zdw).length:=by
     rcases Nat.eq_zero_or_pos (k.map zdw).length with h|h
     ·rw[List.getElem?_eq_none (by omega)] at hu;cases hu
     ·exact h
    obtain⟨ad,had,hc⟩:=zen hB h0;cases had
    exact hc j u hu) (zgf k) (by simp only[maxLen];omega) (by omega) hbase
  rw[← List.map_append,← List.length_append] at h1;have hv:∃ sp' c',v'=.slice sp' (l++k).length c':=by
   rcases h1.2 with⟨hv,h0⟩|⟨g,cap,cur,hv,_⟩
   ·exact⟨none,0,by rw[hv,h0]⟩
   ·exact⟨_,_,hv⟩
  obtain⟨sp',c',rfl⟩:=hv;rw[zbd,zbd] at h5;rw[zbd] at h2;refine⟨sp',c',w',hrun,⟨h1,hlt⟩,h2,fun g hg=>?_⟩;rcases h5 with h5|h5
  ·exact .inl (h5.symm.trans hg)
  ·rw[h5] at hg;exact .inr (Nat.le_of_eq (Option.some.inj hg))
theorem zbm {w:World} {ops:Array Oper} {rest:List Oper} {o:Oper} {a:Act} {Q:Exit→Act→World→Prop} (hgd:o.guard=none) (s x:Operand)
  (ho:o.op=.call { callee:=.builtin .append,args:=#[s,x],argTypes:=#[50,50] })
  (base:Nat) (sp:Option Addr) (n c:Nat) (l:List Nat) (hs:a.eval s=.slice sp n c) (hn:l.length=n) (hown:OwnB base w sp c l)
  (xp:Option Addr) (m xc:Nat) (hx:a.eval x=.slice xp m xc) (k:List Nat) (hk:k.length=m) (hB:BytesAt w xp k) (hx0:xp=none→xc=0)
  (hsz:l.length+m≤140737488355328) (hbase:base≤w.heap.size)
  (h:∀ sp' n' c' w',Hid ((l++k).length=n')→OwnB base w' sp' c' (l++k)→w.grownBy w' (blk sp)→(∀ g,blk sp'=some g→blk sp=some g∨w.heap.size≤g)→wpList Tryz.prog ops Q rest (a.put o.dst (.slice sp' n' c')) w') :
  wpList Tryz.prog ops Q (o::rest) a w:=by
 subst hn;refine wpList_plain hgd fun K hK=>?_;obtain⟨sp',c',w',hrun,h1,h2,h3⟩:=zlz (w:=w) base sp c l hown xp m xc k hk hB hx0 hsz hbase o.type;unfold Oper.wp;simp[execOp,ho,resolve,invoke,builtin,hs,hx,hrun,Result.andThen];have:=hK _ _ (h sp' (l++k).length c' w' rfl h1 h2 h3);rw[List.length_append] at this;exact this
structure Grew (w:World) (sp:Option Addr) (w':World) (sp':Option Addr):Prop where
 grown:w.grownBy w' (blk sp)
 lies:∀ g,blk sp'=some g→blk sp=some g∨w.heap.size≤g
theorem Grew.refl (w:World) (sp:Option Addr):Grew w sp w sp:=⟨⟨rfl,rfl,rfl,Nat.le_refl _,fun _ _ _=>rfl⟩,fun _ h=>.inl h⟩
theorem Grew.trans {w w1 w2:World} {s s1 s2:Option Addr} (h:Grew w s w1 s1) (k:Grew w1 s1 w2 s2):Grew w s w2 s2:=by
 refine⟨⟨k.grown.os.trans h.grown.os,k.grown.tape.trans h.grown.tape,k.grown.output.trans h.grown.output,Nat.le_trans h.grown.size k.grown.size,fun j hj hne=>?_⟩,fun g hg=>?_⟩
 ·refine(k.grown.block j (Nat.lt_of_lt_of_le hj h.grown.size) (fun e=>?_)).trans (h.grown.block j hj hne);rcases h.lies j e.symm with h1|h1
  ·exact hne h1.symm
  ·omega
 ·rcases k.lies g hg with h1|h1
  ·exact h.lies g h1
  ·exact .inr (Nat.le_trans h.grown.size h1)
theorem Grew.below {base:Nat} {w w':World} {sp sp':Option Addr} {c:Nat} {l:List Nat} (h:Grew w sp w' sp') (ho:OwnB base w sp c l) (hb:base≤w.heap.size):Below base w w' :=
 (Below.refl base w).grown h.grown hb (fun j hj=>(ho.blk_lt j hj).1)
theorem Grew.aside {w w1 w':World} {sp sp':Option Addr} (hb:Below w.heap.size w w1) (h:Grew w1 sp w' sp'):Grew w sp w' sp' :=
 ⟨⟨h.grown.os.trans hb.os,h.grown.tape.trans hb.tape,h.grown.output.trans hb.output,Nat.le_trans hb.size h.grown.size,fun j hj hne=>(h.grown.block j (Nat.lt_of_lt_of_le hj hb.size) hne).trans (hb.block j hj)⟩,
  fun g hg=>(h.lies g hg).imp id (fun h1=>Nat.le_trans hb.size h1)⟩
theorem Grew.block {w w':World} {sp sp':Option Addr} (h:Grew w sp w' sp') {j:Nat} {o:Obj} (hj:w.heap[j]? = some o) (hne:blk sp≠some j):w'.heap[j]? = some o :=
 (h.grown.block j (Array.getElem?_eq_some_iff.1 hj).1 (fun e=>hne e.symm)).trans hj
def bsT (s:ByteArray):List Nat:=s.data.toList.map UInt8.toNat
theorem zj6 (s:ByteArray):(bsT s).length=s.size:=by unfold bsT;simp
theorem zt6 (s:ByteArray):∀ c∈bsT s,c<256:=fun c hc=>by
 obtain⟨x,_,rfl⟩:=List.mem_map.1 hc;exact x.toNat_lt
theorem zp8 (l:List Nat) (h:∀ c∈l,c<256):bsT (zaj l)=l:=by
 unfold bsT zaj;simp only[List.map_map]
 conv=>rhs;rw[← List.map_id l]
 exact List.map_congr_left fun x hx=>by have:=h x hx;simp;omega
theorem zi6 (s:ByteArray):Lib.strCells s=(bsT s).map zdw:=by
 unfold Lib.strCells bsT;rw[List.map_map];rfl
theorem zs8 (w:World) (s:ByteArray):∃ c W,(convert 9 50 (.string s)).run Tryz.prog w=.ok (.slice (some ⟨w.heap.size,0,none⟩) s.size c) W∧s.size≤c∧BytesAt W (some ⟨w.heap.size,0,none⟩) (bsT s)∧Below w.heap.size w W:=by
 refine⟨_,_,run_bytes_of_string w 9 50 5 s Tryz.underlying9 Tryz.underlying50 Tryz.underlying5,grownCap_ge _ _ _ _,⟨fun c hc=>?_,fun i hi=>⟨w.heap.size,0,rfl,?_⟩⟩,((Below.refl _ _).drew).alloc (Nat.le_refl _) _⟩
 ·obtain⟨x,_,rfl⟩:=List.mem_map.1 hc;exact x.toNat_lt
 ·rw[zj6] at hi;have hr:(w.drew.alloc (.cells (bytesRow s (grownCap w s.size 0 5)) 5 ((bytesRow s (grownCap w s.size 0 5)).size,(bytesRow s (grownCap w s.size 0 5)).size+1))).heap[w.heap.size]? = some _:=zad w.drew _;rw[cell_of_row _ _ _ _ _ _ hr];unfold bytesRow;rw[Array.getElem?_append_left (by simpa using hi)];have h2:i<s.data.size:=hi;rw[Array.getElem?_map,Nat.zero_add,Array.getElem?_eq_getElem h2];simp[bsT];rw[Array.getElem?_eq_getElem h2];rfl
theorem zjy (g o:Nat) (t:TypeId):∀ (vs:List Value) (i:Nat) (cur:Array Value) (w:World),w.heap[g]? = some (.cells cur t (0,0))→o+i+vs.length≤cur.size→(∀ v∈vs,v.oneCell'=true) →
  (storeCells ⟨g,o,none⟩ vs i).run Tryz.prog w=.ok () (w.setRow g (cur.toList.take (o+i)++vs++cur.toList.drop (o+i+vs.length)).toArray)
 |[],i,cur,w,hg,_,_=>by
  have e:(cur.toList.take (o+i)++[]++cur.toList.drop (o+i+([]:List Value).length)).toArray=cur:=by simp
  rw[e,setRow_self w g cur t (0,0) hg];rfl
 |v::rest,i,cur,w,hg,hl,h1=>by
  have hl':o+i+(rest.length+1)≤cur.size:=hl;have hi:o+i<cur.size:=by omega
  have hfro:w.frozen? ⟨g,o+i,none⟩=false:=by simp[World.frozen?,hg]
  have hst:(store ((⟨g,o,none⟩:Addr).add i) v).run Tryz.prog w=.ok () (w.setRow g (cur.setIfInBounds (o+i) v)):=by
   rw[Addr.add_lit,run_store Tryz.prog w _ v _ (h1 v (by simp)),show w.cell? ⟨g,o+i,none⟩=some cur[o+i] by simp[World.cell?,hg,hi]];simp[hfro,setCell_eq_setRow w g (o+i) cur t (0,0) v hg]
  have ih:=zjy g o t rest (i+1) (cur.setIfInBounds (o+i) v) (w.setRow g (cur.setIfInBounds (o+i) v)) (setRow_heap w g cur _ t _ hg) (by rw[Array.size_setIfInBounds];omega) (fun x hx=>h1 x (List.mem_cons_of_mem _ hx));simp only[storeCells,Sem.run_bind,hst,Result.andThen_ok,ih,setRow_setRow]
  congr 3
  have e:=list_seg_step cur.toList (o+i) v rest (by rw[Array.length_toList];exact hl')
  simpa [Array.toList_setIfInBounds,Nat.add_assoc] using e
theorem zl0 {base:Nat} {w:World} {sp:Option Addr} {c:Nat} {l:List Nat} (h:OwnB base w sp c l) (hn:sp≠none) (s:ByteArray) (hsz:l.length+s.size≤140737488355328) (hbase:base≤w.heap.size) (ty:TypeId) :
  ∃ sp' c' w',(Builtin.append_ #[50,9] ty #[.slice sp l.length c,.string s]).run Tryz.prog w=.ok (.slice sp' (l++bsT s).length c') w'∧OwnB base w' sp' c' (l++bsT s)∧w.grownBy w' (blk sp)∧(∀ g,blk sp'=some g→blk sp=some g∨w.heap.size≤g)∧sp'≠none:=by
 obtain⟨i0,hi,hz0,hz1,hz2⟩:=info_parts zta;have hlt:∀ x∈l++bsT s,x<256:=fun x hx=>(List.mem_append.1 hx).elim (h.lt x) (zt6 s x);have hlen:(l++bsT s).length=l.length+s.size:=by rw[List.length_append,zj6]
 have hll:(l.map zdw).length=l.length:=List.length_map _;rcases h.owns.2 with⟨hv,h0⟩|⟨g,cap,cur,hv,hbg,hg,hle,hmx,hsz2,ht⟩
 ·simp only[Value.slice.injEq] at hv;exact absurd hv.1 hn
 simp only[Value.slice.injEq] at hv;obtain⟨rfl,_,rfl⟩:=hv;rw[Nat.mul_one] at hsz2 ht;by_cases hroom:l.length+s.size≤c
 ·have hf:=Lib.run_firstCells_string (P:=Tryz.prog) w 1 s;have hst:=zjy g l.length 5 (Lib.strCells s) 0 cur w hg (by rw[Lib.strCells_length];omega) (Lib.strCells_oneCell s);simp only[Nat.add_zero,Lib.strCells_length] at hst;have hcs:(cur.toList.take l.length++Lib.strCells s++cur.toList.drop (l.length+s.size)).toArray.size=cur.size:=by
   simp only[List.size_toArray,List.length_append,List.length_take,List.length_drop,Array.length_toList,Lib.strCells_length];omega
  refine⟨some ⟨g,0,none⟩,c,w.setRow g (cur.toList.take l.length++Lib.strCells s++cur.toList.drop (l.length+s.size)).toArray,?_,⟨⟨by simp,.inr ⟨g,c,_,by rw[hlen],hbg,setRow_heap w g cur _ _ _ hg,by omega,hmx,by rw[hcs];omega,?_⟩⟩,hlt⟩,⟨rfl,rfl,rfl,by simp,fun k _ hk=>setRow_other w g k _ (fun e=>hk (by rw[e];rfl))⟩,fun x hx=>.inl hx,by simp⟩
  ·rw[hlen];simp[Builtin.append_,run_underlying Tryz.underlying50,run_underlying Tryz.underlying9,sizeOf,typeInfo,hi,hz1,Builtin.lenOf,hroom,hf,Addr.add_lit,hst]
  ·rw[ht,zi6,← List.map_append,Nat.mul_one];show((l++bsT s).map zdw++_).take _=_
   rw[show(l++bsT s).length=((l++bsT s).map zdw).length from(List.length_map _).symm,List.take_left]
 ·have holds:∀ j u,(l.map zdw)[j]? = some u→w.cell? ((⟨g,0,none⟩:Addr).add j)=some u:=fun j u hu=>by
   rw[Addr.add_lit,cell_of_row w g (0+j) cur _ _ hg,Nat.zero_add];rw[← ht,List.getElem?_take] at hu;split at hu
   ·rw[← Array.getElem?_toList];exact hu
   ·cases hu
  have hr:=Lib.run_append_grow_string (P:=Tryz.prog) w 50 9 ty 5 i0 (.int .u8 0) Tryz.underlying50 Tryz.underlying9 hi hz0 ⟨g,0,none⟩ l.length c (l.map zdw) (by rw[hz1,hll,Nat.mul_one]) holds s (by omega) (by omega) (by rw[hz2];exact growslice_fits (by omega) (by omega));have hge:=grownCap_ge w (l.length+s.size) c 5;refine⟨some ⟨w.heap.size,0,none⟩,grownCap w (l.length+s.size) c 5,_,by rw[hlen];exact hr,⟨⟨by simp,.inr ⟨w.heap.size,grownCap w (l.length+s.size) c 5,_,by rw[hlen],hbase,heap_alloc_new w.drew _,by omega,grownCap_le_maxLen w _ c 5 (by simp only[maxLen];omega),?_,?_⟩⟩,hlt⟩,⟨rfl,rfl,rfl,by simp,fun k hk _=>Below.heap_alloc w.drew _ k hk⟩,fun x hx=>.inr (by simp only[blk,Option.map_some,Option.some.injEq] at hx;omega),by simp⟩
  ·have hz1:(Value.int IntKind.u8 0).cells.size=1:=rfl;simp only[Array.size_append,List.size_toArray,size_zeroCells,hz1,hll,Lib.strCells_length];omega
  ·rw[Nat.mul_one];simp only[Array.toList_append,zi6];rw[← List.map_append,show(l++bsT s).length=((l++bsT s).map zdw).length from(List.length_map _).symm,List.take_left]
theorem zfd {base:Nat} {w:World} {ops:Array Oper} {rest:List Oper} {o:Oper} {a:Act} {Q:Exit→Act→World→Prop} (hgd:o.guard=none) (s x:Operand)
  (ho:o.op=.call { callee:=.builtin .append,args:=#[s,x],argTypes:=#[50,9] })
  (sp:Option Addr) (n c:Nat) (l:List Nat) (hs:a.eval s=.slice sp n c) (hn:l.length=n) (hown:OwnB base w sp c l) (hne:sp≠none)
  (t:ByteArray) (hx:a.eval x=.string t) (hsz:n+t.size≤140737488355328) (hbase:base≤w.heap.size)
  (h:∀ sp' n' c' w',Hid ((l++bsT t).length=n')→OwnB base w' sp' c' (l++bsT t)→Grew w sp w' sp'→sp'≠none→wpList Tryz.prog ops Q rest (a.put o.dst (.slice sp' n' c')) w') :
  wpList Tryz.prog ops Q (o::rest) a w:=by
 subst hn;refine wpList_plain hgd fun K hK=>?_;obtain⟨sp',c',w',hrun,h1,h3,h5,h4⟩:=zl0 hown hne t hsz hbase o.type;unfold Oper.wp;simp[execOp,ho,resolve,invoke,builtin,hs,hx,hrun,Result.andThen];have:=hK _ _ (h sp' (l++bsT t).length c' w' rfl h1 ⟨h3,h5⟩ h4);rw[List.length_append] at this;exact this
def zfk (c:UInt8):Bool:=(decide (97≤c.toNat)&&decide (c.toNat≤122))||((decide (48≤c.toNat)&&decide (c.toNat≤57))||decide (c.toNat=45))
def zcv (c:UInt8):Bool:=decide (33≤c.toNat)&&decide (c.toNat≤126)
def znh (c:UInt8):Bool:=zcv c&&(!decide (c.toNat=63) && !decide (c.toNat=35))
def ze3 (s:ByteArray) (most:Nat) (f:UInt8→Bool):Bool:=decide (1≤s.size)&&decide (s.size≤most)&&s.data.toList.all f
def zdy (s:ByteArray):Bool:=ze3 s 64 zfk
def zcf (s:ByteArray):Bool:=ze3 s 64 zcv
def zc5 (s:ByteArray):Bool:=ze3 s 128 znh&&(s.data.toList.head? == some 47)
def zg:Bool→List UInt8→Bool
 |b,[]=>b
 |b,c::r=>if c=46 then b&&zg false r else zfk c&&zg true r
def zbw (s:ByteArray):Bool:=decide (s.size≤64)&&zg false s.data.toList
def wtB (n:Nat):Bool:=decide (n<9218868437227405312)
abbrev Tgt:=ByteArray×Nat
structure Cmd where
 act:Int
 cli:Int
 seq:Int
 exp:Int
 host:ByteArray
 pre:ByteArray
 pool:ByteArray
 ts:List Tgt
def zhh (c:Cmd):Bool:=decide (1≤c.act∧c.act≤4)&&decide (0≤c.cli∧c.cli≤32)&&(if c.cli=0 then decide (c.seq=0) else decide (1≤c.seq∧c.seq≤1099511627776))&&decide (-1≤c.exp∧c.exp≤1099511627775)
def zeg (a:Int):Bool:=decide (a=3)||decide (a=4)
def zdt (c:Cmd):Bool:=(zeg c.act||(decide (c.host.size=0)&&decide (c.pre.size=0)))&&(!decide (c.act=4)||decide (c.pool.size=0))&&(decide (c.act=1)||decide (c.ts.length=0))
def ze4 (c:Cmd):Bool:=(!zeg c.act||(zbw c.host&&zc5 c.pre))&&(decide (c.act=4)||zdy c.pool)&&c.ts.all (fun t=>zcf t.1)
def zdk (l:List Tgt):Bool:=l.all (fun t=>wtB t.2)
def zc3 (c:Cmd):Nat:=if zhh c&&zdt c then (if ze4 c then (if zdk c.ts then (if 16<c.ts.length then 6 else 0) else 15) else 14) else 2
theorem ztu (s:ByteArray):s.size=0↔s.data.toList=[]:=by
 rw[← List.length_eq_zero_iff,Array.length_toList];rfl
theorem zk0:∀ (l:List UInt8),(Lib.index l [46]=-1∧(46:UInt8) ∉ l)∨(∃ i:Nat,Lib.index l [46]=i∧i<l.length∧l=l.take i++46::l.drop (i+1)∧(46:UInt8) ∉ l.take i)
 |[]=>.inl ⟨rfl,by simp⟩
 |b::t=>by
  have hp:[46].isPrefixOf (b::t)=(b==46):=by
   rw[List.isPrefixOf,List.isPrefixOf,Bool.and_true,Bool.eq_iff_iff,beq_iff_eq,beq_iff_eq,eq_comm]
  by_cases hb:b=46
  ·subst hb;refine .inr ⟨0,?_,by simp,by simp,by simp⟩;unfold Lib.index;rw[hp,if_pos (by simp)];rfl
  ·have hb2:¬ (b==46)=true:=by simpa using hb
   rcases zk0 t with⟨h1,h2⟩|⟨i,h1,h2,h3,h4⟩
   ·refine .inl ⟨?_,?_⟩
    ·unfold Lib.index;rw[hp,if_neg hb2,h1];rfl
    ·intro hm;rcases List.mem_cons.1 hm with e|e
     ·exact hb e.symm
     ·exact h2 e
   ·refine .inr ⟨i+1,?_,by simp;omega,?_,?_⟩
    ·unfold Lib.index;rw[hp,if_neg hb2,if_neg (by rw[beq_iff_eq,h1];omega),h1];omega
    ·rw[List.take_succ_cons,List.drop_succ_cons,List.cons_append,← h3]
    ·rw[List.take_succ_cons];intro hm;rcases List.mem_cons.1 hm with e|e
     ·exact hb e.symm
     ·exact h4 e
theorem zk5:∀ (a:List UInt8) (b:Bool),(46:UInt8) ∉ a→zg b a=(a.all zfk&&(b || !a.isEmpty))
 |[],b,_=>by simp[zg]
 |c::r,b,h=>by
  have hc:c≠46:=fun e=>h (e ▸ List.mem_cons_self);unfold zg;rw[if_neg hc,zk5 r true (fun e=>h (List.mem_cons_of_mem _ e))];simp
theorem zk6:∀ (a:List UInt8) (b:Bool) (r:List UInt8),(46:UInt8) ∉ a→zg b (a++46::r)=((a.all zfk&&(b || !a.isEmpty))&&zg false r)
 |[],b,r,_=>by simp[zg]
 |c::t,b,r,h=>by
  have hc:c≠46:=fun e=>h (e ▸ List.mem_cons_self);rw[List.cons_append]
  conv=>lhs;unfold zg
  rw[if_neg hc,zk6 t true r (fun e=>h (List.mem_cons_of_mem _ e))];simp[Bool.and_assoc]
theorem zod (s:ByteArray) (h:s.size≤64):zdy s=(s.data.toList.all zfk && !s.data.toList.isEmpty):=by
 unfold zdy ze3;rw[decide_eq_true h,Bool.and_true];have:decide (1≤s.size) = !s.data.toList.isEmpty:=by
  rw[Bool.eq_iff_iff,decide_eq_true_eq];simp only[Bool.not_eq_true',List.isEmpty_eq_false_iff];have:=ztu s;constructor
  ·intro h1 h2;have:=this.2 h2;omega
  ·intro h1;have:s.size≠0:=fun e=>h1 (this.1 e);omega
 rw[this,Bool.and_comm]
def zhe:ByteArray:=⟨#[46]⟩
theorem zpt:∀ (n:Nat) (s:ByteArray),s.size=n→s.size≤64→(Lib.splitB zhe 0 (Lib.countB s zhe) s).all zdy=zg false s.data.toList:=by
 intro n;induction n using Nat.strongRecOn with
 |ind n ih =>
  intro s hn h64;rcases zk0 s.data.toList with⟨h1,h2⟩|⟨i,h1,h2,h3,h4⟩
  ·rw[Lib.splitB_miss _ _ _ _ h1,zk5 _ _ h2];simp[zod s h64]
  ·have hc:Lib.countB s zhe=1+Lib.countB (s.extract (i+1) s.size) zhe:=by
    have:=Lib.count_hit (s:=s.data.toList) (sub:=[46]) (by simp) h1;have e:(s.extract (i+1) s.size).data.toList=s.data.toList.drop (i+1):=Lib.extract_to_end s (i+1);show Lib.count _ _=1+Lib.count _ _
    rw[e];exact this
   have hi:i<s.size:=by simpa using h2
   have hs:(s.extract (i+1) s.size).size=s.size - (i+1):=by simp
   rw[hc,Nat.add_comm,Lib.splitB_hit zhe 0 _ s i h1,List.all_cons,show zhe.size=1 from rfl,ih (s.size - (i+1)) (by omega) _ hs (by omega)];have e0:(s.extract 0 (i+0)).data.toList=s.data.toList.take i:=Lib.extract_from_zero s i;have e1:(s.extract (i+1) s.size).data.toList=s.data.toList.drop (i+1):=Lib.extract_to_end s (i+1);rw[zod _ (by simp;omega),e0,e1]
   conv=>rhs;rw[h3,zk6 _ _ _ h4]
   simp
theorem zsh (k:Nat):∀ (s p:ByteArray),p∈Lib.splitB zhe 0 k s→p.size≤s.size:=by
 induction k with
 |zero=>intro s p hp;rw[Lib.splitB_zero] at hp;simp at hp;rw[hp];exact Nat.le_refl _
 |succ k ih =>
  intro s p hp;unfold Lib.splitB at hp;split at hp
  ·simp at hp;rw[hp];exact Nat.le_refl _
  ·rcases List.mem_cons.1 hp with rfl|hp
   ·simp;omega
   ·refine Nat.le_trans (ih _ _ hp) ?_;simp
theorem zae {w:World} {j:Nat} {cs:Array Value} {T:TypeId} (h:w.heap[j]? = some (.cells cs T (0,0))) (f:Nat) (v:Value) (hv:cs[f]? = some v):w.cell? ⟨j,f,none⟩=some v:=by
 rw[cell_of_row _ _ _ _ _ _ h,hv]
theorem zac {w w':World} {j:Nat} {o:Obj} (hb:Below w.heap.size w w') (h:w.heap[j]? = some o):w'.heap[j]? = some o:=(hb.block j (Array.getElem?_eq_some_iff.1 h).1).trans h
theorem zbf {W:World} {E:Nat} {cs:Array Value} {t:Nat} (h:W.heap[E]? = some (.cells cs t (0,0))) (i:Nat):W.frozen? ⟨E,i,none⟩=false:=by simp[World.frozen?,h]
theorem zc7 (W:World) {A B i k:Nat} (v:Value) (h:B≠A):(W.setCell ⟨A,i,none⟩ v).cell? ⟨B,k,none⟩=W.cell? ⟨B,k,none⟩ :=
 World.cell?_of_block (heap_setCell_other W ⟨A,i,none⟩ B v (fun e=>h (by simpa using e)))
end
end Go.Proofs.YtjcjleaicjhpeaaGreatDoor
