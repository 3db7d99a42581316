/- Slices of bytes: what lies in memory, what the walks ask of it. -/
import Derived.Test.YtjcjleaicjhpeaaGreatDoorChecked
import Derived.WalkKit
import Derived.ProofKit
import Derived.OpenShut
import Derived.Below
import Derived.WalkLawsBesides
import Derived.WalkSpells
import Derived.Outline
import Derived.Laws.CopyOwn
import Derived.Laws.IdiomStrings
import Derived.Deep.QuietTactic
import Derived.BigQuiet
import Derived.Deep.AppendLies
import Derived.Laws.BitsAllLaws
import Derived.Laws.AppendOwnNone
import Derived.Maps.AppendAt
import Derived.WalkSmall
import Derived.Laws.AppendOwn
import Derived.ArgAppend
import Derived.Laws.Tables
import Derived.Laws.Rows
import Derived.Deep.RegionLaw
import Derived.Test.YtjcjleaicjhpeaaGreatDoorRows
import Derived.ShutString
import Derived.ChangeOld
import Derived.SizedLaws
import Derived.ChangeMaps5
import Derived.Deep.Slices
import Derived.Lib.SmallJoins
import Derived.Deep.RegionHeld3
set_option linter.unusedVariables false
set_option maxRecDepth 20000
set_option maxHeartbeats 16000000
namespace Go.Proofs.YtjcjleaicjhpeaaGreatDoor
section
open Go.ChangeShapes Go.WideShapes Go.ChangeAt Go.RowKit
structure BytesAt (w:World) (a:Option Addr) (l:List Nat):Prop where
 lt:∀ c∈l,c<256
 cell:∀ i,i<l.length→∃ b off,a=some ⟨b,off,none⟩∧w.cell? ⟨b,off+i,none⟩=some (.int .u8 ((l.getD i 0:Nat):Int))
theorem zaa {p:Prop} (h:p):Hid p:=h
theorem za {p:Prop} (h:Hid p):p:=h
theorem znq {l:List Nat} (h:∀ c∈l,c<256) (k:Nat):l.getD k 0<256:=by
 rw[List.getD_eq_getElem?_getD];by_cases hk:k<l.length
 ·rw[List.getElem?_eq_getElem hk];exact h _ (List.getElem_mem hk)
 ·rw[List.getElem?_eq_none (by omega)];decide
def zcz (c:Nat):Value:=.int .u8 (c:Int)
theorem zil {w:World} {a:Option Addr} {l:List Nat} (hb:BytesAt w a l) (h:0<l.length) :
  ∃ b off,a=some ⟨b,off,none⟩∧∀ i,i<l.length→w.cell? ⟨b,off+i,none⟩=some (.int .u8 ((l.getD i 0:Nat):Int)):=by
 obtain⟨b,off,rfl,_⟩:=hb.cell 0 h;refine⟨b,off,rfl,fun i hi=>?_⟩;obtain⟨b',off',he,hc⟩:=hb.cell i hi;simp only[Option.some.injEq,Addr.mk.injEq,and_true] at he;obtain⟨rfl,rfl⟩:=he;exact hc
theorem BytesAt.later {w w':World} {a:Option Addr} {l:List Nat} (hb:BytesAt w a l) (h:Below w.heap.size w w'):BytesAt w' a l :=
 ⟨hb.lt,fun i hi=>by obtain⟨b,off,rfl,hc⟩:=hb.cell i hi;exact⟨b,off,rfl,cell_later h hc⟩⟩
theorem zbr {w:World} {g:Nat} {l:List Nat} {t:TypeId} {fr:Nat×Nat} (h:w.heap[g]? = some (.cells (l.map zcz).toArray t fr)) (hl:∀ c∈l,c<256):BytesAt w (some ⟨g,0,none⟩) l:=by
 refine⟨hl,fun i hi=>⟨g,0,rfl,?_⟩⟩;rw[cell_of_row w g (0+i) _ t fr h];simp only[Nat.zero_add,List.getElem?_toArray,List.getElem?_map,List.getElem?_eq_getElem hi,Option.map_some,List.getD_eq_getElem?_getD,Option.getD_some,zcz]
theorem zad (w:World) (o:Obj):(w.alloc o).heap[w.heap.size]? = some o:=by
 show(w.heap.push o)[w.heap.size]? = _
 simp
theorem zns:(Tryz.prog.info? 5).map (fun i=>(i.zero,i.size,i.bytes))=some (some (.int .u8 0),1,1):=by kernel_rfl
theorem zfm (l:List Nat):∀ v∈l.map zcz,v.oneCell'=true:=by
 intro v hv;obtain⟨c,_,rfl⟩:=List.mem_map.1 hv;rfl
theorem zdw {w:World} {a:Option Addr} {l:List Nat} (hb:BytesAt w a l) (h:0<(l.map zcz).length):∃ ad,a=some ad∧∀ j v,(l.map zcz)[j]? = some v→w.cell? (ad.add j)=some v:=by
 obtain⟨b,off,rfl,hc⟩:=zil hb (by simpa using h);refine⟨_,rfl,fun j v hv=>?_⟩;rw[List.getElem?_map] at hv;obtain⟨x,hx,rfl⟩:=Option.map_eq_some_iff.1 hv;have hj:j<l.length:=(List.getElem?_eq_some_iff.1 hx).1;have:=hc j hj;rw[List.getD_eq_getElem?_getD,hx] at this;rw[Addr.add_lit];exact this
def strOf (l:List Nat):ByteArray:=⟨(l.map UInt8.ofNat).toArray⟩
theorem zne:Tryz.prog.underlying 5=some (.int .u8):=Tryz.underlying5
theorem zcd {w:World} {a:Option Addr} {l:List Nat} (n c:Nat) (hn:l.length=n) (hb:BytesAt w a l):(convert 50 9 (.slice a n c)).run Tryz.prog w=.ok (.string (strOf l)) w:=by
 subst hn;cases a with
 |none =>
  have hl:l=[]:=by
   cases l with
   |nil=>rfl
   |cons x r=>obtain⟨b,off,h,_⟩:=hb.cell 0 (by simp);cases h
  subst hl;rw[run_convert_bytes_string w 50 9 5 none _ c Tryz.underlying50 zne Tryz.underlying9];rfl
 |some x =>
  have hlen:(l.map UInt8.ofNat).length=l.length:=by simp
  rw[← hlen];apply run_convert_bytes_back w 50 9 5 x c (l.map UInt8.ofNat) Tryz.underlying50 zne Tryz.underlying9
  intro j hj;rw[hlen] at hj;obtain⟨b,off,h,hc⟩:=hb.cell j hj;cases h
  rw[Addr.add_lit,hc];have hlt:=znq hb.lt j;have e:l.getD j 0=l[j]:=by rw[List.getD_eq_getElem?_getD,List.getElem?_eq_getElem hj];rfl
  rw[e] at hlt ⊢;simp only[List.getElem_map,UInt8.toNat_ofNat'];rw[Nat.mod_eq_of_lt (by simpa using hlt)]
theorem zaw (w:World) (row:Option Nat):w.grownBy w row:=⟨rfl,rfl,rfl,Nat.le_refl _,fun _ _ _=>rfl⟩
theorem zgu {a b c:World} {row:Option Nat} (h:a.grownBy b row) (k:b.grownBy c row):a.grownBy c row :=
 ⟨k.os.trans h.os,k.tape.trans h.tape,k.output.trans h.output,Nat.le_trans h.size k.size,fun i hi hne=>(k.block i (Nat.lt_of_lt_of_le hi h.size) hne).trans (h.block i hi hne)⟩
theorem zfd (w:World) (j k:Nat) (v:Value):w.grownBy (w.setCell ⟨j,k,none⟩ v) (some j) :=
 ⟨rfl,rfl,rfl,by simp[World.setCell],fun i _ hne=>heap_setCell_other w ⟨j,k,none⟩ i v (fun e=>hne (by rw[e]))⟩
structure OwnB (base:Nat) (w:World) (sp:Option Addr) (c:Nat) (l:List Nat):Prop where
 owns:w.ownsRow base 5 1 (.slice sp l.length c) l.length (l.map zcz)
 lt:∀ c∈l,c<256
theorem OwnB.bytes {base:Nat} {w:World} {sp:Option Addr} {c:Nat} {l:List Nat} (h:OwnB base w sp c l):BytesAt w sp l:=by
 refine⟨h.lt,fun i hi=>?_⟩;rcases h.owns.2 with⟨hv,h0⟩|⟨g,cap,cur,hv,_,hg,_,_,_,ht⟩
 ·omega
 ·cases hv
  refine⟨g,0,rfl,?_⟩;rw[cell_of_row w g (0+i) cur _ _ hg,Nat.zero_add];have e:(l.map zcz)[i]? = some (zcz (l.getD i 0)):=by
   rw[List.getElem?_map,List.getElem?_eq_getElem hi,List.getD_eq_getElem?_getD,List.getElem?_eq_getElem hi];rfl
  rw[← ht,List.getElem?_take,if_pos (by omega)] at e;rw[← Array.getElem?_toList];exact e
theorem OwnB.cap {base:Nat} {w:World} {sp:Option Addr} {c:Nat} {l:List Nat} (h:OwnB base w sp c l):l.length≤c∧c≤maxLen:=by
 rcases h.owns.2 with⟨hv,h0⟩|⟨g,cap,cur,hv,_,hg,h1,h2,_,ht⟩
 ·simp only[Value.slice.injEq] at hv;obtain⟨_,_,rfl⟩:=hv;exact⟨by omega,by simp[maxLen]⟩
 ·simp only[Value.slice.injEq] at hv;obtain⟨_,_,rfl⟩:=hv;exact⟨h1,h2⟩
theorem OwnB.empty (w:World) (base:Nat) (hb:base≤w.heap.size):OwnB base (w.alloc (.cells #[] 5)) (some ⟨w.heap.size,0,none⟩) 0 [] :=
 ⟨⟨rfl,.inr ⟨w.heap.size,0,#[],rfl,hb,zad _ _,Nat.le_refl _,by simp[maxLen],rfl,rfl⟩⟩,by simp⟩
theorem OwnB.ofNil (w:World) (base:Nat):OwnB base w none 0 []:=⟨w.ownsRow_nil base 5 1,by simp⟩
theorem OwnB.later {base:Nat} {w w':World} {sp:Option Addr} {c:Nat} {l:List Nat} (h:OwnB base w sp c l) (hb:Below w.heap.size w w'):OwnB base w' sp c l:=by
 refine⟨⟨h.owns.1,?_⟩,h.lt⟩;rcases h.owns.2 with hv|⟨g,cap,cur,hv,hbg,hg,r⟩
 ·exact .inl hv
 ·exact .inr ⟨g,cap,cur,hv,hbg,(hb.block g (Array.getElem?_eq_some_iff.1 hg).1).trans hg,r⟩
theorem zg3 {w:World} (base:Nat) (sp:Option Addr) (c:Nat) (l:List Nat) (hown:OwnB base w sp c l) (xp:Option Addr) (m xc:Nat) (k:List Nat) (hk:k.length=m) (hB:BytesAt w xp k) (hx0:xp=none→xc=0)
  (hsz:l.length+m≤140737488355328) (hbase:base≤w.heap.size) (ty:TypeId) :
  ∃ sp' c' w',(Builtin.append_ #[50,50] ty #[.slice sp l.length c,.slice xp m xc]).run Tryz.prog w=.ok (.slice sp' (l++k).length c') w'∧OwnB base w' sp' c' (l++k)∧w.grownBy w' (Value.slice sp l.length c).ownBlock∧Below base w w':=by
 subst hk;obtain⟨i0,hi,hz0,hz1,hz2⟩:=info_parts zns;have hlt:∀ c∈l++k,c<256:=fun c hc=>(List.mem_append.1 hc).elim (hown.lt c) (hB.lt c);have hbel:∀ w',w.grownBy w' (Value.slice sp l.length c).ownBlock→Below base w w':=fun w' hg=>(Below.refl base w).grown hg hbase (fun j hj=>(hown.owns.lt j hj).1);cases xp with
 |none =>
  have hk0:k=[]:=by
   cases k with
   |nil=>rfl
   |cons x r=>obtain⟨b,off,h,_⟩:=hB.cell 0 (by simp);cases h
  subst hk0;rw[hx0 rfl];have hrun:=run_append_owned_none (P:=Tryz.prog) (w:=w) base 50 ty 5 i0 1 Tryz.underlying50 hi _ _ _ hown.owns;refine⟨sp,c,w,?_,?_,⟨rfl,rfl,rfl,Nat.le_refl _,fun _ _ _=>rfl⟩,Below.refl _ _⟩
  ·rw[List.append_nil];exact hrun
  ·rw[List.append_nil];exact hown
 |some x =>
  obtain⟨v',w',hrun,h1,h2,_⟩:=run_append_own (P:=Tryz.prog) (w:=w) base 50 ty 5 i0 (.int .u8 0) 1 1 Tryz.underlying50 hi hz0 hz1 hz2 rfl (by omega) _ _ _ hown.owns x k.length xc (k.map zcz) (by simp)
   (fun j u hu=>by
    have h0:0<(k.map zcz).length:=by
     rcases Nat.eq_zero_or_pos (k.map zcz).length with h|h
     ·rw[List.getElem?_eq_none (by omega)] at hu;cases hu
     ·exact h
    obtain⟨ad,had,hc⟩:=zdw hB h0;cases had
    exact hc j u hu) (zfm k) (by simp only[maxLen];omega) (by omega) hbase
  rw[← List.map_append,← List.length_append] at h1;have hv:∃ sp' c',v'=.slice sp' (l++k).length c':=by
   rcases h1.2 with⟨hv,h0⟩|⟨g,cap,cur,hv,_⟩
   ·exact⟨none,0,by rw[hv,h0]⟩
   ·exact⟨_,_,hv⟩
  obtain⟨sp',c',rfl⟩:=hv;exact⟨sp',c',w',hrun,⟨h1,hlt⟩,h2,hbel w' h2⟩
theorem ze2 {w:World} {ops:Array Oper} {rest:List Oper} {o:Oper} {a:Act} {Q:Exit→Act→World→Prop} (hgd:o.guard=none) (s x:Operand)
  (ho:o.op=.call { callee:=.builtin .append,args:=#[s,x],argTypes:=#[50,50] })
  (base:Nat) (sp:Option Addr) (n c:Nat) (l:List Nat) (hs:a.eval s=.slice sp n c) (hn:l.length=n) (hown:OwnB base w sp c l)
  (xp:Option Addr) (m xc:Nat) (hx:a.eval x=.slice xp m xc) (k:List Nat) (hk:k.length=m) (hB:BytesAt w xp k) (hx0:xp=none→xc=0)
  (hsz:l.length+m≤140737488355328) (hbase:base≤w.heap.size)
  (h:∀ sp' n' c' w',Hid ((l++k).length=n')→OwnB base w' sp' c' (l++k)→w.grownBy w' (Value.slice sp l.length c).ownBlock→Below base w w'→wpList Tryz.prog ops Q rest (a.put o.dst (.slice sp' n' c')) w') :
  wpList Tryz.prog ops Q (o::rest) a w:=by
 subst hn;refine wpList_plain hgd fun K hK=>?_;obtain⟨sp',c',w',hrun,h1,h2,h3⟩:=zg3 (w:=w) base sp c l hown xp m xc k hk hB hx0 hsz hbase o.type;unfold Oper.wp;simp[execOp,ho,resolve,invoke,builtin,hs,hx,hrun,Result.andThen];have:=hK _ _ (h sp' (l++k).length c' w' rfl h1 h2 h3);rw[List.length_append] at this;exact this
def blk (sp:Option Addr):Option Nat:=sp.map (·.block)
theorem zb (sp:Option Addr) (n c:Nat):(Value.slice sp n c).ownBlock=blk sp:=by cases sp <;> rfl
theorem OwnB.blk_lt {base:Nat} {w:World} {sp:Option Addr} {c:Nat} {l:List Nat} (h:OwnB base w sp c l):∀ g,blk sp=some g→base≤g∧g<w.heap.size:=by
 intro g hg;have:=h.owns.lt g (by rw[zb];exact hg);exact this
theorem zi8 {w:World} (base:Nat) (sp:Option Addr) (c:Nat) (l:List Nat) (hown:OwnB base w sp c l) (xp:Option Addr) (m xc:Nat) (k:List Nat) (hk:k.length=m) (hB:BytesAt w xp k) (hx0:xp=none→xc=0)
  (hsz:l.length+m≤140737488355328) (hbase:base≤w.heap.size) (ty:TypeId) :
  ∃ sp' c' w',(Builtin.append_ #[50,50] ty #[.slice sp l.length c,.slice xp m xc]).run Tryz.prog w=.ok (.slice sp' (l++k).length c') w'∧OwnB base w' sp' c' (l++k)∧w.grownBy w' (blk sp)∧∀ g,blk sp'=some g→blk sp=some g∨w.heap.size≤g:=by
 subst hk;obtain⟨i0,hi,hz0,hz1,hz2⟩:=info_parts zns;have hlt:∀ c∈l++k,c<256:=fun c hc=>(List.mem_append.1 hc).elim (hown.lt c) (hB.lt c);cases xp with
 |none =>
  have hk0:k=[]:=by
   cases k with
   |nil=>rfl
   |cons x r=>obtain⟨b,off,h,_⟩:=hB.cell 0 (by simp);cases h
  subst hk0;rw[hx0 rfl];have hrun:=run_append_owned_none (P:=Tryz.prog) (w:=w) base 50 ty 5 i0 1 Tryz.underlying50 hi _ _ _ hown.owns;refine⟨sp,c,w,?_,?_,⟨rfl,rfl,rfl,Nat.le_refl _,fun _ _ _=>rfl⟩,fun g hg=>.inl hg⟩
  ·rw[List.append_nil];exact hrun
  ·rw[List.append_nil];exact hown
 |some x =>
  obtain⟨v',w',hrun,h1,h2,_,h5⟩:=run_append_own_at (P:=Tryz.prog) w base 50 ty 5 i0 (.int .u8 0) 1 1 Tryz.underlying50 hi hz0 hz1 hz2 rfl (by omega) _ _ _ hown.owns x k.length xc (k.map zcz) (by simp)
   (fun j u hu=>by
    have h0:0<(k.map zcz).length:=by
     rcases Nat.eq_zero_or_pos (k.map zcz).length with h|h
     ·rw[List.getElem?_eq_none (by omega)] at hu;cases hu
     ·exact h
    obtain⟨ad,had,hc⟩:=zdw hB h0;cases had
    exact hc j u hu) (zfm k) (by simp only[maxLen];omega) (by omega) hbase
  rw[← List.map_append,← List.length_append] at h1;have hv:∃ sp' c',v'=.slice sp' (l++k).length c':=by
   rcases h1.2 with⟨hv,h0⟩|⟨g,cap,cur,hv,_⟩
   ·exact⟨none,0,by rw[hv,h0]⟩
   ·exact⟨_,_,hv⟩
  obtain⟨sp',c',rfl⟩:=hv;rw[zb,zb] at h5;rw[zb] at h2;refine⟨sp',c',w',hrun,⟨h1,hlt⟩,h2,fun g hg=>?_⟩;rcases h5 with h5|h5
  ·exact .inl (h5.symm.trans hg)
  ·rw[h5] at hg;exact .inr (Nat.le_of_eq (Option.some.inj hg))
theorem zbc {w:World} {ops:Array Oper} {rest:List Oper} {o:Oper} {a:Act} {Q:Exit→Act→World→Prop} (hgd:o.guard=none) (s x:Operand)
  (ho:o.op=.call { callee:=.builtin .append,args:=#[s,x],argTypes:=#[50,50] })
  (base:Nat) (sp:Option Addr) (n c:Nat) (l:List Nat) (hs:a.eval s=.slice sp n c) (hn:l.length=n) (hown:OwnB base w sp c l)
  (xp:Option Addr) (m xc:Nat) (hx:a.eval x=.slice xp m xc) (k:List Nat) (hk:k.length=m) (hB:BytesAt w xp k) (hx0:xp=none→xc=0)
  (hsz:l.length+m≤140737488355328) (hbase:base≤w.heap.size)
  (h:∀ sp' n' c' w',Hid ((l++k).length=n')→OwnB base w' sp' c' (l++k)→w.grownBy w' (blk sp)→(∀ g,blk sp'=some g→blk sp=some g∨w.heap.size≤g)→wpList Tryz.prog ops Q rest (a.put o.dst (.slice sp' n' c')) w') :
  wpList Tryz.prog ops Q (o::rest) a w:=by
 subst hn;refine wpList_plain hgd fun K hK=>?_;obtain⟨sp',c',w',hrun,h1,h2,h3⟩:=zi8 (w:=w) base sp c l hown xp m xc k hk hB hx0 hsz hbase o.type;unfold Oper.wp;simp[execOp,ho,resolve,invoke,builtin,hs,hx,hrun,Result.andThen];have:=hK _ _ (h sp' (l++k).length c' w' rfl h1 h2 h3);rw[List.length_append] at this;exact this
structure Grew (w:World) (sp:Option Addr) (w':World) (sp':Option Addr):Prop where
 grown:w.grownBy w' (blk sp)
 lies:∀ g,blk sp'=some g→blk sp=some g∨w.heap.size≤g
theorem Grew.refl (w:World) (sp:Option Addr):Grew w sp w sp:=⟨⟨rfl,rfl,rfl,Nat.le_refl _,fun _ _ _=>rfl⟩,fun _ h=>.inl h⟩
theorem Grew.trans {w w1 w2:World} {s s1 s2:Option Addr} (h:Grew w s w1 s1) (k:Grew w1 s1 w2 s2):Grew w s w2 s2:=by
 refine⟨⟨k.grown.os.trans h.grown.os,k.grown.tape.trans h.grown.tape,k.grown.output.trans h.grown.output,Nat.le_trans h.grown.size k.grown.size,fun j hj hne=>?_⟩,fun g hg=>?_⟩
 ·refine(k.grown.block j (Nat.lt_of_lt_of_le hj h.grown.size) (fun e=>?_)).trans (h.grown.block j hj hne);rcases h.lies j e.symm with h1|h1
  ·exact hne h1.symm
  ·omega
 ·rcases k.lies g hg with h1|h1
  ·exact h.lies g h1
  ·exact .inr (Nat.le_trans h.grown.size h1)
theorem Grew.below {base:Nat} {w w':World} {sp sp':Option Addr} {c:Nat} {l:List Nat} (h:Grew w sp w' sp') (ho:OwnB base w sp c l) (hb:base≤w.heap.size):Below base w w' :=
 (Below.refl base w).grown h.grown hb (fun j hj=>(ho.blk_lt j hj).1)
theorem Grew.aside {w w1 w':World} {sp sp':Option Addr} (hb:Below w.heap.size w w1) (h:Grew w1 sp w' sp'):Grew w sp w' sp' :=
 ⟨⟨h.grown.os.trans hb.os,h.grown.tape.trans hb.tape,h.grown.output.trans hb.output,Nat.le_trans hb.size h.grown.size,fun j hj hne=>(h.grown.block j (Nat.lt_of_lt_of_le hj hb.size) hne).trans (hb.block j hj)⟩,
  fun g hg=>(h.lies g hg).imp id (fun h1=>Nat.le_trans hb.size h1)⟩
theorem Grew.block {w w':World} {sp sp':Option Addr} (h:Grew w sp w' sp') {j:Nat} {o:Obj} (hj:w.heap[j]? = some o) (hne:blk sp≠some j):w'.heap[j]? = some o :=
 (h.grown.block j (Array.getElem?_eq_some_iff.1 hj).1 (fun e=>hne e.symm)).trans hj
theorem zah {w:World} {j:Nat} {cs:Array Value} {T:TypeId} (h:w.heap[j]? = some (.cells cs T (0,0))) (f:Nat) (v:Value) (hv:cs[f]? = some v):w.cell? ⟨j,f,none⟩=some v:=by
 rw[cell_of_row _ _ _ _ _ _ h,hv]
theorem zac {w w':World} {j:Nat} {o:Obj} (hb:Below w.heap.size w w') (h:w.heap[j]? = some o):w'.heap[j]? = some o:=(hb.block j (Array.getElem?_eq_some_iff.1 h).1).trans h
theorem ze3 {W:World} {E:Nat} {cs:Array Value} {t:Nat} (h:W.heap[E]? = some (.cells cs t (0,0))) (i:Nat):W.frozen? ⟨E,i,none⟩=false:=by simp[World.frozen?,h]
theorem zcr (W:World) {A B i k:Nat} (v:Value) (h:B≠A):(W.setCell ⟨A,i,none⟩ v).cell? ⟨B,k,none⟩=W.cell? ⟨B,k,none⟩ :=
 World.cell?_of_block (heap_setCell_other W ⟨A,i,none⟩ B v (fun e=>h (by simpa using e)))
theorem zdq (m:Mode) (a:Addr) (b:Nat) (w:World):(store a (.float .f64 b) m).run Tryz.prog w=stored Tryz.prog w a (.float .f64 b) m:=run_store Tryz.prog w a _ m rfl
abbrev Tg:=ByteArray×Nat
structure TgsAt (w:World) (a:Option Addr) (l:List Tg):Prop where
 lt:∀ t∈l,t.2<18446744073709551616
 cell:∀ i (hi:i<l.length),∃ b off,a=some ⟨b,off,none⟩∧w.cell? ⟨b,off+i*2,none⟩=some (.string l[i].1)∧w.cell? ⟨b,off+i*2+1,none⟩=some (.float .f64 l[i].2)
theorem TgsAt.later {w w':World} {a:Option Addr} {l:List Tg} (h:TgsAt w a l) (hb:Below w.heap.size w w'):TgsAt w' a l :=
 ⟨h.lt,fun i hi=>by obtain⟨b,off,e,h1,h2⟩:=h.cell i hi;exact⟨b,off,e,cell_later hb h1,cell_later hb h2⟩⟩
structure Rt where
 h:ByteArray
 p:ByteArray
 l:ByteArray
def zcx (r:Rt):Value:=.agg #[.string r.h,.string r.p,.string r.l]
def rt0:Rt:=⟨⟨#[]⟩,⟨#[]⟩,⟨#[]⟩⟩
structure RtsAt (w:World) (a:Option Addr) (l:List Rt):Prop where
 sz:∀ r∈l,r.h.size≤maxLen∧r.p.size≤maxLen∧r.l.size≤maxLen
 cell:∀ i (hi:i<l.length),∃ b off,a=some ⟨b,off,none⟩∧w.cell? ⟨b,off+i*3,none⟩=some (.string l[i].h)∧w.cell? ⟨b,off+i*3+1,none⟩=some (.string l[i].p)∧w.cell? ⟨b,off+i*3+2,none⟩=some (.string l[i].l)
theorem RtsAt.later {w w':World} {a:Option Addr} {l:List Rt} (h:RtsAt w a l) (hb:Below w.heap.size w w'):RtsAt w' a l :=
 ⟨h.sz,fun i hi=>by obtain⟨b,off,e,h1,h2,h3⟩:=h.cell i hi;exact⟨b,off,e,cell_later hb h1,cell_later hb h2,cell_later hb h3⟩⟩
theorem zab {w:World} {j:Nat} {cs:Array Value} {T:TypeId} (h:w.heap[j]? = some (.cells cs T (0,0))) (f:Nat) (v:Value) (hv:cs[f]? = some v):w.cell? ⟨j,f,none⟩=some v:=by
 rw[cell_of_row _ _ _ _ _ _ h,hv]
theorem zag (w:World) (j k:Nat) (v:Value):w.grownBy (w.setCell ⟨j,k,none⟩ v) (some j) :=
 ⟨rfl,rfl,rfl,by simp[World.setCell],fun i _ hne=>heap_setCell_other w ⟨j,k,none⟩ i v (fun e=>hne (by rw[e]))⟩
theorem ze7 {w:World} {g:Nat} {a b c x y z:Value} {T:TypeId} (h:w.heap[g]? = some (.cells #[a,b,c] T (0,0))):(((w.setCell ⟨g,0,none⟩ x).setCell ⟨g,1,none⟩ y).setCell ⟨g,2,none⟩ z).heap[g]? = some (.cells #[x,y,z] T (0,0))∧w.grownBy (((w.setCell ⟨g,0,none⟩ x).setCell ⟨g,1,none⟩ y).setCell ⟨g,2,none⟩ z) (some g):=by
 have h1:=heap_setCell_same w g 0 #[a,b,c] T x h;have h2:=heap_setCell_same _ g 1 _ T y h1;have h3:=heap_setCell_same _ g 2 _ T z h2;exact⟨h3,((zag w g 0 x).trans (zag _ g 1 y)).trans (zag _ g 2 z)⟩
def zhc (t:Tg):List Value:=[.string t.1,.float .f64 t.2]
def zdn (l:List Tg):List Value:=l.flatMap zhc
theorem zbn (l:List Tg):(zdn l).length=l.length*2:=by
 induction l with
 |nil=>rfl
 |cons x xs ih =>
  simp only[zdn,List.flatMap_cons,List.length_append,List.length_cons] at ih ⊢;rw[ih,show(zhc x).length=2 from rfl];omega
theorem zef:∀ (xs:List Tg) (i f:Nat) (hi:i<xs.length) (_:f<2),(zdn xs)[i*2+f]? = (zhc xs[i])[f]?
 |[],i,_,hi,_=>by simp at hi
 |x::xs,0,f,_,hf=>by
  simp only[zdn,List.flatMap_cons,Nat.zero_mul,Nat.zero_add,List.getElem_cons_zero];rw[List.getElem?_append_left (show f<(zhc x).length from hf)]
 |x::xs,i+1,f,hi,hf=>by
  have ih:=zef xs i f (by simpa using hi) hf;simp only[zdn,List.flatMap_cons,List.getElem_cons_succ] at ih ⊢;rw[List.getElem?_append_right (by rw[show(zhc x).length=2 from rfl];omega)];have e4:(i+1)*2+f - (zhc x).length=i*2+f:=by rw[show(zhc x).length=2 from rfl];omega
  rw[e4];exact ih
theorem za8 (l:List Tg):∀ u∈zdn l,u.oneCell'=true:=by
 intro u hu;obtain⟨t,_,ht⟩:=List.mem_flatMap.1 hu;simp only[zhc,List.mem_cons,List.not_mem_nil,or_false] at ht;rcases ht with rfl|rfl <;> rfl
theorem zms:(Tryz.prog.info? 70).map (fun i=>(i.zero,i.size,i.bytes))=some (some (.agg #[.string ByteArray.empty,.float .f64 0]),2,24):=by kernel_rfl
def zbx (base:Nat) (w:World) (sp:Option Addr) (c:Nat) (l:List Tg):Prop:=w.ownsRow base 70 2 (.slice sp l.length c) l.length (zdn l)
theorem zbx.ofNil (base:Nat) (w:World):zbx base w none 0 []:=w.ownsRow_nil base 70 2
theorem zbx.at_ {base:Nat} {w:World} {sp:Option Addr} {c:Nat} {l:List Tg} (h:zbx base w sp c l) (hl:∀ t∈l,t.2<18446744073709551616):TgsAt w sp l:=by
 refine⟨hl,fun i hi=>?_⟩;rcases h.2 with⟨hv,h0⟩|⟨g,cap,cur,hv,hb,hg,hle,hmx,hsz,ht⟩
 ·omega
 ·simp only[Value.slice.injEq] at hv;obtain⟨rfl,_,rfl⟩:=hv;refine⟨g,0,rfl,?_,?_⟩
  ·have hk:=zef l i 0 hi (by omega);rw[Nat.zero_add,cell_of_row w g _ cur _ _ hg,← Array.getElem?_toList];have hj:i*2+0<l.length*2:=by omega
   rw[← ht,List.getElem?_take,if_pos hj] at hk;exact hk
  ·have hk:=zef l i 1 hi (by omega);rw[Nat.zero_add,cell_of_row w g _ cur _ _ hg,← Array.getElem?_toList];have hj:i*2+1<l.length*2:=by omega
   rw[← ht,List.getElem?_take,if_pos hj] at hk;exact hk
theorem zbx.below {base:Nat} {w w':World} {sp:Option Addr} {c:Nat} {l:List Tg} (h:zbx base w sp c l) (hb:Below w.heap.size w w'):zbx base w' sp c l:=by
 refine⟨h.1,?_⟩;rcases h.2 with hv|⟨g,cap,cur,hv,hbg,hg,r⟩
 ·exact .inl hv
 ·exact .inr ⟨g,cap,cur,hv,hbg,(hb.block g (Array.getElem?_eq_some_iff.1 hg).1).trans hg,r⟩
theorem zel {n:Int} (h:(Lit.int .i64 n).wf=true):-9223372036854775808≤n∧n≤9223372036854775807:=bounds_i64 h
theorem zoi {n:Nat} (h:(Lit.float .f64 n).wf=true):n<18446744073709551616:=by simpa [Lit.wf] using h
theorem zn6 {w:World} {a:Addr} {cs:List Value} (h:w.cells? 0 a 2=some cs):∃ v0 v1,cs=[v0,v1]∧w.cell? (a.add 0)=some v0∧w.cell? (a.add 1)=some v1:=by
 unfold World.cells? at h;rw[if_pos (Nat.zero_le _)] at h;simp only[show List.range 2=[0,1] from rfl,List.mapM_cons,List.mapM_nil,Option.bind_eq_bind,Option.bind_eq_some_iff,Option.pure_def,Option.some.injEq] at h;obtain⟨v0,h0,r,⟨v1,h1,r1,rfl,rfl⟩,rfl⟩:=h;exact⟨v0,v1,rfl,h0,h1⟩
theorem list2 {α:Type} {l:List α} (h:l.length=2):∃ c0 c1,l=[c0,c1]:=by
 match l,h with
 |[c0,c1],_=>exact⟨c0,c1,rfl⟩
theorem zkc {H:Type} {enc:TypeId×Value→H} {P:Program} {W:World} {base:Nat} {spare:TypeId→Bool} {held:Bool} {fuel:Nat} {t:TypeId} {cs:List Value} {x:DataW H×List MemPlace} {k:FloatKind} (ht:P.underlying t=some (.float k)) (h:DataW.trod enc P W base spare held fuel t cs=some x):∃ n,cs=[.float k n]∧(Lit.float k n).wf=true:=by
 cases fuel with
 |zero=>simp[DataW.trod] at h
 |succ n =>
  unfold DataW.trod at h;rw[ht] at h;split at h <;> simp_all
theorem zkd {H:Type} {enc:TypeId×Value→H} {W:World} {n:Nat} {v:Value} {y:DataW H×List MemPlace} (h:DataW.trod enc Tryz.prog W 0 (fun _=>true) true n 68 [v]=some y):∃ b,v=.float .f64 b∧b<18446744073709551616:=by
 obtain⟨b,e,hw⟩:=zkc Tryz.underlying68 h;simp only[List.cons.injEq,and_true] at e;exact⟨b,e,zoi hw⟩
structure Po where
 nm:ByteArray
 ts:List Tg
instance:Inhabited Po:=⟨⟨⟨#[]⟩,[]⟩⟩
instance:Inhabited Rt:=⟨rt0⟩
structure PosAt (w:World) (a:Option Addr) (l:List Po):Prop where
 cell:∀ i (hi:i<l.length),∃ b off ta tc,a=some ⟨b,off,none⟩∧w.cell? ⟨b,off+i*2,none⟩=some (.string l[i].nm)∧w.cell? ⟨b,off+i*2+1,none⟩=some (.slice ta l[i].ts.length tc)∧TgsAt w ta l[i].ts∧(l[i].ts.length≤maxLen∧l[i].ts.length≤tc)∧(ta=none→tc=0)
theorem PosAt.later {w w':World} {a:Option Addr} {l:List Po} (h:PosAt w a l) (hb:Below w.heap.size w w'):PosAt w' a l :=
 ⟨fun i hi=>by obtain⟨b,off,ta,tc,e,h1,h2,h3,h4⟩:=h.cell i hi;exact⟨b,off,ta,tc,e,cell_later hb h1,cell_later hb h2,h3.later hb,h4⟩⟩
structure Cf where
 ver:Int
 rs:List Rt
 ps:List Po
structure CfH where
 ra:Option Addr
 rc:Nat
 pa:Option Addr
 pc:Nat
def zb4 (e:Cf) (h:CfH):Value:=.agg #[.int .i64 e.ver,.slice h.ra e.rs.length h.rc,.slice h.pa e.ps.length h.pc]
structure CfAt (w:World) (e:Cf) (h:CfH):Prop where
 wv:-9223372036854775808≤e.ver∧e.ver≤9223372036854775807
 rts:RtsAt w h.ra e.rs
 pos:PosAt w h.pa e.ps
 rl:e.rs.length≤maxLen∧e.rs.length≤h.rc
 pl:e.ps.length≤maxLen∧e.ps.length≤h.pc
 rz:h.ra=none→h.rc=0
theorem CfAt.later {w w':World} {e:Cf} {h:CfH} (x:CfAt w e h) (hb:Below w.heap.size w w'):CfAt w' e h:=⟨x.wv,x.rts.later hb,x.pos.later hb,x.rl,x.pl,x.rz⟩
theorem zlg {H:Type} {enc:TypeId×Value→H} {W:World} {t e:TypeId} {a:Option Addr} {len cap:Nat} {d:DataW H} {p:List MemPlace} (hu:Tryz.prog.underlying t=some (.slice e))
  (h:DataW.Trod enc Tryz.prog W 0 (fun _=>true) true t (.slice a len cap) d p):a=none→cap=0:=by
 obtain⟨fuel,hf⟩:=h;rcases Deep.open_slice hu hf with⟨hcs,_⟩|⟨x,l,c,m,n,D,Pl,hcs,_⟩
 ·simp[Value.cells] at hcs;exact fun _=>hcs.2.2
 ·simp[Value.cells] at hcs;rintro rfl;exact absurd hcs.1 (by simp)
end
section
open Go.RowKit
section
variable {P:Program} {md:Region.Mode} {ops:Array Oper} {Q:Exit→Act→World→Prop} {S:World→Prop}
theorem zl1 (i:Nat) {oi:Oper} {v:Value} {fuel:Nat} {listed:Array Bool} {a:Act} {w:World} (hr:(Region.ready md ops listed).contains i=true) (hi:ops[i]? = some oi)
  (hw:Region.wanted oi (yielded ops a.tmps)=true) (hs:Region.noSelect ops=true) (hf:Region.free md ops listed i=true)
  (hQ:∀ c a w,Q (.panic c) (a.put oi.dst v) w→Q (.panic c) a w) (hy:∀ w,S w→(execOp a.eval oi).run P w=.ok (.value v) w) (hS:S w)
  (h:wpAnyH P md ops Q S fuel (listed.setIfInBounds i true) (a.put oi.dst v) w):wpAnyH P md ops Q S (fuel+1) listed a w :=
 wpAnyH_take hi hs hf hr hQ (Or.inl ⟨hw,hy⟩) hS h
theorem zl0 (i:Nat) {oi:Oper} {fuel:Nat} {listed:Array Bool} {a:Act} {w:World} (hr:(Region.ready md ops listed).contains i=true) (hi:ops[i]? = some oi)
  (hw:Region.wanted oi (yielded ops a.tmps)=false) (hs:Region.noSelect ops=true) (hf:Region.free md ops listed i=true)
  (hQ:∀ c a w,Q (.panic c) (a.put oi.dst undef) w→Q (.panic c) a w) (hS:S w)
  (h:wpAnyH P md ops Q S fuel (listed.setIfInBounds i true) (a.put oi.dst undef) w):wpAnyH P md ops Q S (fuel+1) listed a w :=
 wpAnyH_take hi hs hf hr hQ (Or.inr ⟨hw,rfl⟩) hS h
theorem zkm (i:Nat) {oi:Oper} {fuel:Nat} {listed:Array Bool} {a:Act} {w:World} (hr:Region.ready md ops listed=[i]) (hi:ops[i]? = some oi)
  (h:∀ K':Act→World→Prop,Shut (∀ a w,S w→(S w→wpAnyH P md ops Q S fuel (listed.setIfInBounds i true) a w)→K' a w)→if Region.wanted oi (yielded ops a.tmps)=true then Oper.wp P oi a w K' Q else K' (a.put oi.dst undef) w) :
  wpAnyH P md ops Q S (fuel+1) listed a w :=
 wpAnyH_ready hr (by simp) (AllReadyH.cons hi h AllReadyH.nil)
theorem zfe (i:Nat) {oi:Oper} {fuel:Nat} {listed:Array Bool} {a:Act} {w:World} (hr:Region.ready md ops listed=[i]) (hi:ops[i]? = some oi)
  (hw:Region.wanted oi (yielded ops a.tmps)=false) (hS:S w)
  (h:wpAnyH P md ops Q S fuel (listed.setIfInBounds i true) (a.put oi.dst undef) w):wpAnyH P md ops Q S (fuel+1) listed a w :=
 zkm i hr hi (fun K' hK=>by rw[hw];exact hK.out _ _ hS (fun _=>h))
theorem hT (i:Nat) {oi:Oper} {v:Value} {fuel:Nat} {listed:Array Bool} {a a':Act} {w:World} (h:wpAnyH P md ops Q S fuel (listed.setIfInBounds i true) a' w) (hr:(Region.ready md ops listed).contains i=true:=by kernel_rfl) (hi:ops[i]? = some oi:=by rfl)
  (hw:Region.wanted oi (yielded ops a.tmps)=true:=by rfl) (hs:Region.noSelect ops=true:=by kernel_rfl) (hf:Region.free md ops listed i=true:=by kernel_rfl)
  (hy:∀ w,S w→(execOp a.eval oi).run P w=.ok (.value v) w:=by(intro w hSw;(try dsimp only at hSw);go_simp;try with_reducible rfl))
  (hp:a.put oi.dst v=a':=by first|(simp only[Act.put,List.getElem_toArray,List.getElem_cons_succ,List.getElem_cons_zero,List.setIfInBounds_toArray,List.set_cons_zero,List.set_cons_succ];done)|(simp only[Act.put,List.getElem_toArray,List.getElem_cons_succ,List.getElem_cons_zero,List.setIfInBounds_toArray,List.set_cons_zero,List.set_cons_succ];rfl)|rfl)
  (hQ:∀ c a w,Q (.panic c) (a.put oi.dst v) w→Q (.panic c) a w:=by exact fun _ _ _ h=>h) (hS:S w:=by assumption):wpAnyH P md ops Q S (fuel+1) listed a w:=by
 subst hp;exact zl1 i hr hi hw hs hf hQ hy hS h
theorem hN (i:Nat) {oi:Oper} {fuel:Nat} {listed:Array Bool} {a a':Act} {w:World} (h:wpAnyH P md ops Q S fuel (listed.setIfInBounds i true) a' w) (hr:(Region.ready md ops listed).contains i=true:=by kernel_rfl) (hi:ops[i]? = some oi:=by rfl)
  (hw:Region.wanted oi (yielded ops a.tmps)=false:=by rfl) (hs:Region.noSelect ops=true:=by kernel_rfl) (hf:Region.free md ops listed i=true:=by kernel_rfl)
  (hp:a.put oi.dst undef=a':=by first|(simp only[Act.put,List.getElem_toArray,List.getElem_cons_succ,List.getElem_cons_zero,List.setIfInBounds_toArray,List.set_cons_zero,List.set_cons_succ];done)|(simp only[Act.put,List.getElem_toArray,List.getElem_cons_succ,List.getElem_cons_zero,List.setIfInBounds_toArray,List.set_cons_zero,List.set_cons_succ];rfl)|rfl)
  (hQ:∀ c a w,Q (.panic c) (a.put oi.dst undef) w→Q (.panic c) a w:=by exact fun _ _ _ h=>h) (hS:S w:=by assumption):wpAnyH P md ops Q S (fuel+1) listed a w:=by
 subst hp;exact zl0 i hr hi hw hs hf hQ hS h
theorem hO (i:Nat) {oi:Oper} {fuel:Nat} {listed:Array Bool} {a:Act} {w:World}
  (h:∀ K':Act→World→Prop,Shut (∀ a w,S w→(S w→wpAnyH P md ops Q S fuel (listed.setIfInBounds i true) a w)→K' a w)→if Region.wanted oi (yielded ops a.tmps)=true then Oper.wp P oi a w K' Q else K' (a.put oi.dst undef) w) (hr:Region.ready md ops listed=[i]:=by kernel_rfl) (hi:ops[i]? = some oi:=by rfl) :
  wpAnyH P md ops Q S (fuel+1) listed a w:=zkm i hr hi h
theorem hP {fuel:Nat} {listed:Array Bool} {a a':Act} {w:World} (h:wpAnyH P md ops Q S fuel listed a' w)
  (hp:a=a':=by first|(simp only[Act.put,List.getElem_toArray,List.getElem_cons_succ,List.getElem_cons_zero,List.setIfInBounds_toArray,List.set_cons_zero,List.set_cons_succ];done)|(simp only[Act.put,List.getElem_toArray,List.getElem_cons_succ,List.getElem_cons_zero,List.setIfInBounds_toArray,List.set_cons_zero,List.set_cons_succ];rfl)|rfl):wpAnyH P md ops Q S fuel listed a w:=by
 subst hp;exact h
end
end
end Go.Proofs.YtjcjleaicjhpeaaGreatDoor
