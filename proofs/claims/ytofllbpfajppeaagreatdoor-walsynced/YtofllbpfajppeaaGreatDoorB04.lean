/- Disk: what a file is by its changes; a disk in memory. -/
import Derived.Test.YtofllbpfajppeaaGreatDoorB03
import Derived.Shelf.SlIter.Nil
import Derived.Shelf.SortM.Plain
import Derived.Shelf.SortM.SortNone
import Derived.Ground.GgzProg
import Derived.Ground.SlgmProg
import Derived.Test.YtofllbpfajppeaaGreatDoorProg
set_option linter.unusedVariables false
set_option maxRecDepth 20000
set_option maxHeartbeats 16000000
namespace Go.Proofs.YtofllbpfajppeaaGreatDoor
section
open Go.ChangeShapes Go.WideShapes Go.ChangeAt Go.RowKit Go.Maps
structure Sp where
 la:Bool
 y:List Nat
 cs:List Chg
def zji:List Chg→List Nat→List Nat
 |[],y=>y
 |c::cs,y=>zji cs (zc5 c y (zap c))
def Sp.now (s:Sp):List Nat:=zji s.cs s.y
def Fil.sp (f:Fil):Sp:=⟨f.la,f.y,f.xs.map (·.1)⟩
theorem zg5 (c:Chg):∀ (cs:List Chg) (y:List Nat),zji (cs++[c]) y=zc5 c (zji cs y) (zap c)
 |[],_=>rfl
 |x::cs,y=>by simp only[List.cons_append,zji];exact zg5 c cs _
theorem zfy (c:Chg):∀ (cs:List Chg) (y:List Nat),zko cs y→c.2.1≤(zji cs y).length→(zji cs y).length+c.2.2.length≤140737488355328→zko (cs++[c]) y
 |[],_,_,h1,h2=>⟨h1,h2,trivial⟩
 |_::cs,_,h,h1,h2=>⟨h.1,h.2.1,zfy c cs _ h.2.2 h1 h2⟩
def zll (c:Chg):Prop:=(c.1=false→c.2.1+c.2.2.length≤262144∧0<c.2.2.length)∧(c.1=true→c.2.2=[])
theorem zsc (c:Chg) (y:List Nat) (u:Nat) (hk:c.2.1≤y.length) (hs:zll c) (hy:y.length≤262144):(zc5 c y u).length≤262144:=by
 unfold zc5;split
 ·rw[List.length_take];omega
 ·rename_i h
  have:=(hs.1 (by simpa using h)).1;rw[zer _ _ _ hk,List.length_take];omega
theorem zgw:∀ (cs:List Chg) (y:List Nat) (n:Nat),zko cs y→(∀ c∈cs,zll c)→y.length≤262144→(za3 cs y n).1.length≤262144
 |[],_,_,_,_,h=>h
 |c::cs,y,n,hf,hs,hy=>by
  unfold za3;split
  ·exact hy
  ·have h1:=zsc c y (min n (zap c)) hf.1 (hs c List.mem_cons_self) hy;by_cases h2:n≤zap c
   ·rw[show n - min n (zap c)=0 by omega,ze2];exact h1
   ·rw[show min n (zap c)=zap c by omega] at h1 ⊢;exact zgw cs _ _ hf.2.2 (fun x hx=>hs x (List.mem_cons_of_mem _ hx)) h1
theorem zpj:∀ (cs:List Chg) (y:List Nat) (n:Nat),(∀ c∈cs,∀ b∈c.2.2,b<256)→(∀ b∈y,b<256)→∀ b∈(za3 cs y n).1,b<256
 |[],_,_,_,h=>h
 |c::cs,y,n,hc,hy=>by
  unfold za3;split
  ·exact hy
  ·refine zpj cs _ _ (fun x hx=>hc x (List.mem_cons_of_mem _ hx)) (fun b hb=>?_);unfold zc5 at hb;split at hb
   ·exact hy b (List.mem_of_mem_take hb)
   ·exact ztm _ hy (fun b hb=>hc c List.mem_cons_self b (List.mem_of_mem_take hb)) b hb
structure FOk (N:Nat) (f:Fil):Prop where
 now:f.b=f.sp.now
 fit:zko f.sp.cs f.y
 small:∀ c∈f.sp.cs,zll c
 y8:f.y.length≤262144
 b8:f.b.length≤262144
 few:f.xs.length≤N
 gone:f.la=false→f.y=[]
def zo6:Fil:=⟨none,0,[],none,0,[],false,none,0,[]⟩
theorem FOk.zero (N:Nat):FOk N zo6:=⟨rfl,trivial,by simp[zo6,Fil.sp],by simp[zo6],by simp[zo6],by simp[zo6],fun _=>rfl⟩
theorem FOk.mono {N M:Nat} {f:Fil} (h:FOk N f) (hm:N≤M):FOk M f:=⟨h.now,h.fit,h.small,h.y8,h.b8,Nat.le_trans h.few hm,h.gone⟩
theorem FOk.write {N:Nat} {f:Fil} (h:FOk N f) (k:Nat) (hk:k≤f.b.length) (o:List Nat) (ho:0<o.length) (hm:k+o.length≤262144) (bp:Option Addr) (bc:Nat) (cp:Option Addr) (cc:Nat) (hd:Option Addr×Nat) :
  FOk (N+1) ((f.over bp bc (zcj f.b k o)).more cp cc ((false,k,o),hd)):=by
 have hn:f.b=zji f.sp.cs f.y:=h.now;have hc:((f.over bp bc (zcj f.b k o)).more cp cc ((false,k,o),hd)).sp.cs=f.sp.cs++[(false,k,o)]:=by simp[Fil.sp,Fil.more,Fil.over]
 have hb8:(zcj f.b k o).length≤262144:=by rw[zer _ _ _ hk];have:=h.b8;omega
 refine⟨?_,?_,?_,h.y8,hb8,?_,h.gone⟩
 ·show zcj f.b k o=zji _ f.y
  rw[hc,zg5,← hn];simp[zc5,zap]
 ·rw[hc];refine zfy _ _ _ h.fit ?_ ?_
  ·show k≤(zji f.sp.cs f.y).length
   rw[← hn];exact hk
  ·show(zji f.sp.cs f.y).length+o.length≤_
   rw[← hn];have:=h.b8;omega
 ·rw[hc];intro c hcm;rcases List.mem_append.1 hcm with hcm|hcm
  ·exact h.small c hcm
  ·obtain rfl:c=(false,k,o):=by simpa using hcm
   exact⟨fun _=>⟨hm,ho⟩,fun e=>by cases e⟩
 ·simp only[Fil.more,Fil.over,List.length_append,List.length_cons,List.length_nil];have:=h.few;omega
theorem FOk.over0 {N:Nat} {f:Fil} (h:FOk N f) (k:Nat) (bp:Option Addr) (bc:Nat):FOk N (f.over bp bc (zcj f.b k [])):=by
 rw[zit];exact⟨h.now,h.fit,h.small,h.y8,h.b8,h.few,h.gone⟩
theorem FOk.cut {N:Nat} {f:Fil} (h:FOk N f) (k:Nat) (hk:k≤f.b.length) (cp:Option Addr) (cc:Nat):FOk (N+1) ((f.shorter k).more cp cc ((true,k,[]),(none,0))):=by
 have hn:f.b=zji f.sp.cs f.y:=h.now;have hc:((f.shorter k).more cp cc ((true,k,[]),(none,0))).sp.cs=f.sp.cs++[(true,k,[])]:=by simp[Fil.sp,Fil.more,Fil.shorter]
 refine⟨?_,?_,?_,h.y8,?_,?_,h.gone⟩
 ·show f.b.take k=zji _ f.y
  rw[hc,zg5,← hn];simp[zc5]
 ·rw[hc];refine zfy _ _ _ h.fit ?_ ?_
  ·show k≤(zji f.sp.cs f.y).length
   rw[← hn];exact hk
  ·show(zji f.sp.cs f.y).length+0≤_
   rw[← hn];have:=h.b8;omega
 ·rw[hc];intro c hcm;rcases List.mem_append.1 hcm with hcm|hcm
  ·exact h.small c hcm
  ·obtain rfl:c=(true,k,[]):=by simpa using hcm
   exact⟨fun e=>(by cases e),fun _=>rfl⟩
 ·show(f.b.take k).length≤_
  rw[List.length_take];have:=h.b8;omega
 ·simp only[Fil.more,Fil.shorter,List.length_append,List.length_cons,List.length_nil];have:=h.few;omega
theorem FOk.synced {N:Nat} {f:Fil} (h:FOk N f) (yp:Option Addr):FOk N (f.synced yp) :=
 ⟨rfl,trivial,by simp[Fil.synced,Fil.sp],h.b8,h.b8,by simp[Fil.synced],fun e=>by cases e⟩
theorem FOk.crashed {N:Nat} {f g:Fil} (h:FOk N f) (U:Nat) (hb:g.b=(za3 f.sp.cs f.y U).1) (hy:g.y=(za3 f.sp.cs f.y U).1) (hl:g.la=true) (hx:g.xs=[]):FOk N g:=by
 have h8:=zgw f.sp.cs f.y U h.fit h.small h.y8;refine⟨?_,?_,?_,by rw[hy];exact h8,by rw[hb];exact h8,by simp[hx],fun e=>by rw[hl] at e;cases e⟩
 ·simp[Sp.now,Fil.sp,hx,zji,hb,hy]
 ·simp[Fil.sp,hx,zko]
 ·simp[Fil.sp,hx]
theorem FileAt.mut_lt {base:Nat} {w:World} {F:Nat} {f:Fil} (h:FileAt base w F f) {g:Nat} (hg:f.mut F g):base≤g∧g<w.heap.size:=by
 rcases hg with rfl|hg|hg|hg
 ·exact⟨h.low,h.ltF⟩
 ·exact⟨(h.bytes.isT g hg).1,(h.bytes.isT g hg).2.1⟩
 ·exact⟨(h.sure.isT g hg).1,(h.sure.isT g hg).2.1⟩
 ·exact⟨(h.chs.blk_is g hg).1,(h.chs.blk_is g hg).2.1⟩
theorem FileAt.red_lt {base:Nat} {w:World} {F:Nat} {f:Fil} (h:FileAt base w F f) {g:Nat} (hg:f.red g):0≤g∧g<w.heap.size∧∃ cur:Array Value,w.heap[g]? = some (.cells cur 5 (0,0)):=by
 obtain⟨x,hx,hg⟩:=hg;exact(h.chs.dat x hx).isT g hg
theorem FileAt.mut_is {base:Nat} {w:World} {F:Nat} {f:Fil} (h:FileAt base w F f) {g:Nat} (hg:f.mut F g):∃ (cur:Array Value) (T:TypeId),w.heap[g]? = some (.cells cur T (0,0))∧(T=122∨T=5∨T=131):=by
 rcases hg with rfl|hg|hg|hg
 ·exact⟨_,_,h.box,.inl rfl⟩
 ·obtain⟨_,_,cur,hc⟩:=h.bytes.isT g hg;exact⟨_,_,hc,.inr (.inl rfl)⟩
 ·obtain⟨_,_,cur,hc⟩:=h.sure.isT g hg;exact⟨_,_,hc,.inr (.inl rfl)⟩
 ·obtain⟨_,_,cur,hc⟩:=h.chs.blk_is g hg;exact⟨_,_,hc,.inr (.inr rfl)⟩
theorem FileAt.self {base:Nat} {w:World} {F:Nat} {f:Fil} (h:FileAt base w F f) {g:Nat} (hm:f.mut F g):¬ f.red g:=by
 intro hr;obtain⟨_,_,cur,hc⟩:=h.red_lt hr;obtain⟨x,hx,hg⟩:=hr;rcases hm with rfl|hm|hm|hm
 ·rw[h.box] at hc;simp at hc
 ·exact(h.far x hx g hg).1 hm
 ·exact(h.far x hx g hg).2 hm
 ·obtain⟨_,_,cur2,hc2⟩:=h.chs.blk_is g hm;rw[hc2] at hc;simp at hc
theorem Bx.same {base:Nat} {w w':World} {sp:Option Addr} {c:Nat} {l:List Nat} (h:Bx base w sp c l) (hs:∀ g,blk sp=some g→w'.heap[g]? = w.heap[g]?):Bx base w' sp c l:=by
 refine⟨h.lt,?_⟩;rcases h.row with hv|⟨g,cur,h1,hb,hh,r⟩
 ·exact .inl hv
 ·exact .inr ⟨g,cur,h1,hb,(hs g (by rw[h1];rfl)).trans hh,r⟩
theorem OwnC.same {base:Nat} {w w':World} {sp:Option Addr} {c:Nat} {xs:List ChH} (h:OwnC base w sp c xs) (hs:∀ g,blk sp=some g→w'.heap[g]? = w.heap[g]?) (hd:∀ x∈xs,∀ g,blk x.2.1=some g→w'.heap[g]? = w.heap[g]?):OwnC base w' sp c xs:=by
 refine⟨⟨h.row.1,?_⟩,fun x hx=>(h.dat x hx).same (hd x hx)⟩;rcases h.row.2 with hv|⟨g,cap,cur,hv,hb,hg,r⟩
 ·exact .inl hv
 ·refine .inr ⟨g,cap,cur,hv,hb,(hs g ?_).trans hg,r⟩;simp only[Value.slice.injEq] at hv;rw[hv.1];rfl
theorem FileAt.same {base:Nat} {w w':World} {F:Nat} {f:Fil} (h:FileAt base w F f) (hs:∀ g,f.mut F g∨f.red g→w'.heap[g]? = w.heap[g]?):FileAt base w' F f :=
 ⟨(hs F (.inl (.inl rfl))).trans h.box,h.bytes.same (fun g hg=>hs g (.inl (.inr (.inl hg)))),h.sure.same (fun g hg=>hs g (.inl (.inr (.inr (.inl hg))))),
  h.chs.same (fun g hg=>hs g (.inl (.inr (.inr (.inr hg))))) (fun x hx g hg=>hs g (.inr ⟨x,hx,hg⟩)),h.low,h.apart,h.far⟩
abbrev Fe:=Nm×Nat×Fil
def Fe.mut (x:Fe) (g:Nat):Prop:=x.2.2.mut x.2.1 g
def Fe.red (x:Fe) (g:Nat):Prop:=x.2.2.red g
abbrev ptrs (fs:List Fe):List (Nm×Nat):=fs.map (fun x=>(x.1,x.2.1))
abbrev sps (fs:List Fe):List (Nm×Sp):=fs.map (fun x=>(x.1,x.2.2.sp))
structure DiskAt (base:Nat) (w:World) (d M room N:Nat) (fs:List Fe):Prop where
 box:w.heap[d]? = some (.cells #[.int .i64 (room:Int),.map (some M)] 94 (0,0))
 map:MapAt w M (ptrs fs)
 rise:zbf fs
 file:∀ x∈fs,FileAt base w x.2.1 x.2.2
 ok:∀ x∈fs,FOk N x.2.2
 lowD:base≤d
 lowM:base≤M
 ap:∀ x∈fs,∀ y∈fs,x.1≠y.1→∀ g,x.mut g→¬ y.mut g
 rd:∀ x∈fs,∀ y∈fs,∀ g,x.mut g→¬ y.red g
 few:fs.length≤16
 names:∀ x∈fs,x.1.length≤64
def znr (d M:Nat) (fs:List Fe) (g:Nat):Prop:=g=d∨g=M∨∃ x∈fs,x.mut g
def zua (fs:List Fe) (g:Nat):Prop:=∃ x∈fs,x.red g
structure DGrew (d M:Nat) (w:World) (fs:List Fe) (w':World) (fs':List Fe):Prop where
 os:w'.os=w.os
 tape:w'.tape=w.tape
 output:w'.output=w.output
 size:w.heap.size≤w'.heap.size
 block:∀ i,i<w.heap.size→¬ znr d M fs i→w'.heap[i]? = w.heap[i]?
 muts:∀ g,znr d M fs' g→znr d M fs g∨w.heap.size≤g
 reds:∀ g,zua fs' g→zua fs g∨w.heap.size≤g
section
variable {base d M room N:Nat} {w w':World} {fs fs' fs2:List Fe}
theorem DGrew.refl:DGrew d M w fs w fs:=⟨rfl,rfl,rfl,Nat.le_refl _,fun _ _ _=>rfl,fun _ h=>.inl h,fun _ h=>.inl h⟩
theorem DGrew.trans {w2:World} (h:DGrew d M w fs w' fs') (k:DGrew d M w' fs' w2 fs2):DGrew d M w fs w2 fs2:=by
 refine⟨k.os.trans h.os,k.tape.trans h.tape,k.output.trans h.output,Nat.le_trans h.size k.size,fun i hi hn=>?_,fun g hg=>?_,fun g hg=>?_⟩
 ·refine(k.block i (Nat.lt_of_lt_of_le hi h.size) (fun hm=>?_)).trans (h.block i hi hn);rcases h.muts i hm with h1|h1
  ·exact hn h1
  ·omega
 ·rcases k.muts g hg with h1|h1
  ·exact h.muts g h1
  ·exact .inr (Nat.le_trans h.size h1)
 ·rcases k.reds g hg with h1|h1
  ·exact h.reds g h1
  ·exact .inr (Nat.le_trans h.size h1)
theorem DGrew.ofBelow (hb:Below w.heap.size w w'):DGrew d M w fs w' fs:=⟨hb.os,hb.tape,hb.output,hb.size,fun i hi _=>hb.block i hi,fun _ h=>.inl h,fun _ h=>.inl h⟩
theorem DiskAt.ltD (h:DiskAt base w d M room N fs):d<w.heap.size:=(Array.getElem?_eq_some_iff.1 h.box).1
theorem DiskAt.mut_lt (h:DiskAt base w d M room N fs) {g:Nat} (hg:znr d M fs g):base≤g∧g<w.heap.size:=by
 rcases hg with rfl|rfl|⟨x,hx,hg⟩
 ·exact⟨h.lowD,h.ltD⟩
 ·exact⟨h.lowM,h.map.lt⟩
 ·exact(h.file x hx).mut_lt hg
theorem DiskAt.red_lt (h:DiskAt base w d M room N fs) {g:Nat} (hg:zua fs g):0≤g∧g<w.heap.size:=by
 obtain⟨x,hx,hg⟩:=hg;exact⟨((h.file x hx).red_lt hg).1,((h.file x hx).red_lt hg).2.1⟩
theorem DiskAt.dm (h:DiskAt base w d M room N fs):d≠M:=by
 intro e;obtain⟨es,k,hm⟩:=h.map.isMap;rw[← e,h.box] at hm;simp at hm
theorem DiskAt.notD (h:DiskAt base w d M room N fs) {x:Fe} (hx:x∈fs):¬ x.mut d∧¬ x.red d:=by
 constructor
 ·intro hm;obtain⟨cur,T,hc,hT⟩:=(h.file x hx).mut_is hm;rw[h.box] at hc;simp only[Option.some.injEq,Obj.cells.injEq] at hc;rw[← hc.2.1] at hT;exact absurd hT (by decide)
 ·intro hm;obtain⟨_,_,cur,hc⟩:=(h.file x hx).red_lt hm;rw[h.box] at hc;simp at hc
theorem DiskAt.notM (h:DiskAt base w d M room N fs) {x:Fe} (hx:x∈fs):¬ x.mut M∧¬ x.red M:=by
 obtain⟨es,k,hm0⟩:=h.map.isMap;constructor
 ·intro hm;obtain⟨cur,T,hc,hT⟩:=(h.file x hx).mut_is hm;rw[hm0] at hc;simp at hc
 ·intro hm;obtain⟨_,_,cur,hc⟩:=(h.file x hx).red_lt hm;rw[hm0] at hc;simp at hc
theorem DiskAt.same (h:DiskAt base w d M room N fs) (hs:∀ g,g<w.heap.size→znr d M fs g∨zua fs g→w'.heap[g]? = w.heap[g]?):DiskAt base w' d M room N fs :=
 ⟨(hs d h.ltD (.inl (.inl rfl))).trans h.box,h.map.same (hs M h.map.lt (.inl (.inr (.inl rfl)))),h.rise,fun x hx=>(h.file x hx).same (fun g hg=>by
  rcases hg with hg|hg
  ·exact hs g ((h.file x hx).mut_lt hg).2 (.inl (.inr (.inr ⟨x,hx,hg⟩)))
  ·exact hs g ((h.file x hx).red_lt hg).2.1 (.inr ⟨x,hx,hg⟩)),h.ok,h.lowD,h.lowM,h.ap,h.rd,h.few,h.names⟩
theorem DiskAt.later (h:DiskAt base w d M room N fs) (hb:Below w.heap.size w w'):DiskAt base w' d M room N fs:=h.same (fun g hg _=>hb.block g hg)
theorem DiskAt.mono {N':Nat} (h:DiskAt base w d M room N fs) (hN:N≤N'):DiskAt base w d M room N' fs :=
 ⟨h.box,h.map,h.rise,h.file,fun x hx=>(h.ok x hx).mono hN,h.lowD,h.lowM,h.ap,h.rd,h.few,h.names⟩
theorem zk2 {α:Type} {k:Nm} {v:α} : ∀ {fs:List (Nm×α)},zbf fs→(k,v)∈fs→zbi k v fs=fs
 |[],_,h=>by simp at h
 |x::r,h,hm=>by
  have h1:=List.pairwise_cons.1 h;unfold zbi;rcases List.mem_cons.1 hm with rfl|hm
  ·rw[if_neg (zbd _),if_pos rfl]
  ·rw[if_pos (h1.1 _ hm),zk2 h1.2 hm]
theorem DiskAt.upd (h:DiskAt base w d M room N fs) {x:Fe} (hx:x∈fs) {f':Fil} {N':Nat} (hf:FileAt base w' x.2.1 f') (hg:FGrew x.2.1 w x.2.2 w' f') (hok:FOk N' f') (hN:N≤N') :
  DiskAt base w' d M room N' (zbi x.1 (x.2.1,f') fs)∧DGrew d M w fs w' (zbi x.1 (x.2.1,f') fs):=by
 have hmem:=fun (y:Fe)=>zb3 (k:=x.1) (v:=(x.2.1,f')) h.rise y;have hnew:∀ g,f'.mut x.2.1 g→x.mut g∨w.heap.size≤g:=hg.muts;have hnewr:∀ g,f'.red g→x.red g∨w.heap.size≤g:=hg.reds;have hout:∀ y∈fs,y.1≠x.1→∀ g,y.mut g∨y.red g→w'.heap[g]? = w.heap[g]?:=by
  intro y hy hne g hyg;refine hg.block g ?_ (fun hm=>?_)
  ·rcases hyg with h1|h1
   ·exact((h.file y hy).mut_lt h1).2
   ·exact((h.file y hy).red_lt h1).2.1
  ·rcases hyg with h1|h1
   ·exact h.ap y hy x hx hne g h1 hm
   ·exact h.rd x hx y hy g hm h1
 have hptr:ptrs (zbi x.1 (x.2.1,f') fs)=ptrs fs:=by
  show(zbi x.1 (x.2.1,f') fs).map (fun y=>(y.1,(fun z:Nat×Fil=>z.1) y.2))=_
  rw[ziw];exact zk2 (h.rise.map _) (List.mem_map.2 ⟨x,hx,rfl⟩)
 have hkin:x.1∈fs.map (·.1):=List.mem_map.2 ⟨x,hx,rfl⟩;refine⟨⟨(hg.block d h.ltD (h.notD hx).1).trans h.box,?_,h.rise.put _ _,?_,?_,h.lowD,h.lowM,?_,?_,?_,?_⟩,⟨hg.os,hg.tape,hg.output,hg.size,fun i hi hn=>hg.block i hi (fun hm=>hn (.inr (.inr ⟨x,hx,hm⟩))),?_,?_⟩⟩
 ·rw[hptr];exact h.map.same (hg.block M h.map.lt (h.notM hx).1)
 ·intro y hy;rcases(hmem y).1 hy with rfl|⟨hy,hne⟩
  ·exact hf
  ·exact(h.file y hy).same (fun g hgy=>hout y hy hne g hgy)
 ·intro y hy;rcases(hmem y).1 hy with rfl|⟨hy,hne⟩
  ·exact hok
  ·exact(h.ok y hy).mono hN
 ·intro y hy z hz hne g hyg hzg;rcases(hmem y).1 hy with rfl|⟨hy,hye⟩ <;> rcases(hmem z).1 hz with rfl|⟨hz,hze⟩
  ·exact hne rfl
  ·rcases hnew g hyg with h1|h1
   ·exact h.ap x hx z hz (fun e=>hze e.symm) g h1 hzg
   ·have:=((h.file z hz).mut_lt hzg).2;omega
  ·rcases hnew g hzg with h1|h1
   ·exact h.ap y hy x hx hye g hyg h1
   ·have:=((h.file y hy).mut_lt hyg).2;omega
  ·exact h.ap y hy z hz hne g hyg hzg
 ·intro y hy z hz g hyg hzg;rcases(hmem y).1 hy with rfl|⟨hy,hye⟩ <;> rcases(hmem z).1 hz with rfl|⟨hz,hze⟩
  ·exact hf.self hyg hzg
  ·rcases hnew g hyg with h1|h1
   ·exact h.rd x hx z hz g h1 hzg
   ·have:=((h.file z hz).red_lt hzg).2.1;omega
  ·rcases hnewr g hzg with h1|h1
   ·exact h.rd y hy x hx g hyg h1
   ·have:=((h.file y hy).mut_lt hyg).2;omega
  ·exact h.rd y hy z hz g hyg hzg
 ·have e:=congrArg List.length hptr;simp only[ptrs,List.length_map] at e;rw[e];exact h.few
 ·intro y hy;rcases(hmem y).1 hy with rfl|⟨hy,_⟩
  ·exact h.names x hx
  ·exact h.names y hy
 ·intro g hgm;rcases hgm with e|e|⟨y,hy,hgm⟩
  ·exact .inl (.inl e)
  ·exact .inl (.inr (.inl e))
  ·rcases(hmem y).1 hy with rfl|⟨hy,_⟩
   ·rcases hnew g hgm with h1|h1
    ·exact .inl (.inr (.inr ⟨x,hx,h1⟩))
    ·exact .inr h1
   ·exact .inl (.inr (.inr ⟨y,hy,hgm⟩))
 ·intro g hgm;obtain⟨y,hy,hgm⟩:=hgm;rcases(hmem y).1 hy with rfl|⟨hy,_⟩
  ·rcases hnewr g hgm with h1|h1
   ·exact .inl ⟨x,hx,h1⟩
   ·exact .inr h1
  ·exact .inl ⟨y,hy,hgm⟩
theorem DiskAt.remap (h:DiskAt base w d M room N fs) (hg:w.grownBy w' (some M)) (hm:MapAt w' M (ptrs fs')) (hr:zbf fs') (hsub:∀ y∈fs',y.1.length≤64∧∃ x∈fs,y.2=x.2) (hinj:∀ y∈fs',∀ z∈fs',y.1≠z.1→∀ a∈fs,∀ b∈fs,y.2=a.2→z.2=b.2→a.1≠b.1) (hfew:fs'.length≤16) :
  DiskAt base w' d M room N fs'∧DGrew d M w fs w' fs':=by
 have hk:∀ g,g<w.heap.size→g≠M→w'.heap[g]? = w.heap[g]?:=fun g hlt hne=>hg.block g hlt (fun e=>hne (Option.some.inj e))
 have hfile:∀ x∈fs,FileAt base w' x.2.1 x.2.2:=fun x hx=>(h.file x hx).same (fun g hgx=>by
  rcases hgx with h1|h1
  ·exact hk g ((h.file x hx).mut_lt h1).2 (fun e=>(h.notM hx).1 (e ▸ h1))
  ·exact hk g ((h.file x hx).red_lt h1).2.1 (fun e=>(h.notM hx).2 (e ▸ h1)))
 refine⟨⟨(hk d h.ltD h.dm).trans h.box,hm,hr,?_,?_,h.lowD,h.lowM,?_,?_,hfew,fun y hy=>(hsub y hy).1⟩,⟨hg.os,hg.tape,hg.output,hg.size,fun i hi hn=>hk i hi (fun e=>hn (.inr (.inl e))),?_,?_⟩⟩
 ·intro y hy;obtain⟨_,x,hx,e⟩:=hsub y hy;rw[e];exact hfile x hx
 ·intro y hy;obtain⟨_,x,hx,e⟩:=hsub y hy;rw[e];exact h.ok x hx
 ·intro y hy z hz hne g hyg hzg;obtain⟨_,a,ha,ea⟩:=hsub y hy;obtain⟨_,b,hb,eb⟩:=hsub z hz;have h1:=hinj y hy z hz hne a ha b hb ea eb;unfold Fe.mut at hyg hzg;rw[ea] at hyg;rw[eb] at hzg;exact h.ap a ha b hb h1 g hyg hzg
 ·intro y hy z hz g hyg hzg;obtain⟨_,a,ha,ea⟩:=hsub y hy;obtain⟨_,b,hb,eb⟩:=hsub z hz;unfold Fe.mut at hyg;unfold Fe.red at hzg;rw[ea] at hyg;rw[eb] at hzg;exact h.rd a ha b hb g hyg hzg
 ·intro g hgm;rcases hgm with e|e|⟨y,hy,hgm⟩
  ·exact .inl (.inl e)
  ·exact .inl (.inr (.inl e))
  ·obtain⟨_,x,hx,e⟩:=hsub y hy;unfold Fe.mut at hgm;rw[e] at hgm;exact .inl (.inr (.inr ⟨x,hx,hgm⟩))
 ·intro g hgm;obtain⟨y,hy,hgm⟩:=hgm;obtain⟨_,x,hx,e⟩:=hsub y hy;unfold Fe.red at hgm;rw[e] at hgm;exact .inl ⟨x,hx,hgm⟩
end
end
end Go.Proofs.YtofllbpfajppeaaGreatDoor
section
namespace Go.Proofs
open Go.RowKit Go.Maps Go.Sort Go.Shelf
def Tryz.keys87_ren:Go.Shelf.Ren:=⟨fun|7=>87|10=>117|n=>n,fun|23=>92|26=>9|3=>90|28=>128|0=>0|27=>127|33=>153|4=>4|n=>n,fun|n=>n⟩
theorem Tryz.keys87:Go.Proofs.SlLaysZ.n7 Tryz.prog Tryz.keys87_ren:={
 mixed:=by kernel_rfl
 f7:=⟨Tryz.f87.name,by decide,Tryz.func87.trans (congrArg some (by kernel_rfl))⟩
 f10:=⟨Tryz.f117.name,by decide,Tryz.func117.trans (congrArg some (by kernel_rfl))⟩
 t0:=Tryz.underlying0
 a0:=Tryz.isAgg0
 z0:=Tryz.sizeOf0
 v0:=Tryz.zeroValue0
 t4:=Tryz.underlying4
 a4:=Tryz.isAgg4
 z4:=Tryz.sizeOf4
 v4:=Tryz.zeroValue4
 t23:=Tryz.underlying92
 a23:=Tryz.isAgg92
 z23:=Tryz.sizeOf92
 v23:=Tryz.zeroValue92
 t26:=Tryz.underlying9
 a26:=Tryz.isAgg9
 z26:=Tryz.sizeOf9
 v26:=Tryz.zeroValue9
 t27:=Tryz.underlying127
 a27:=Tryz.isAgg127
 z27:=Tryz.sizeOf127
 v27:=Tryz.zeroValue127
 t28:=Tryz.underlying128
 a28:=Tryz.isAgg128
 z28:=Tryz.sizeOf128
 v28:=Tryz.zeroValue128
 t33:=Tryz.underlying153
 a33:=Tryz.isAgg153
 z33:=Tryz.sizeOf153
 v33:=Tryz.zeroValue153 }
def Tryz.sorted86_ren:Go.Shelf.Ren:=⟨fun|6=>86|8=>115|9=>116|11=>148|13=>150|12=>149|23=>180|24=>181|14=>171|15=>172|16=>173|17=>174|18=>175|19=>176|20=>177|21=>178|22=>179|25=>199|26=>200|27=>201|28=>202|29=>203|30=>204|31=>221|n=>n,fun|26=>9|28=>128|24=>73|0=>0|3=>3|37=>186|48=>179|50=>212|4=>4|40=>204|39=>203|45=>37|5=>5|9=>9|51=>225|55=>229|57=>244|58=>245|33=>153|n=>n,fun|n=>n⟩
theorem Tryz.sorted86:Go.Proofs.SlLaysZ.n6 Tryz.prog Tryz.sorted86_ren:={
 mixed:=by kernel_rfl
 f6:=⟨Tryz.f86.name,by decide,Tryz.func86.trans (congrArg some (by kernel_rfl))⟩
 f8:=⟨Tryz.f115.name,by decide,Tryz.func115.trans (congrArg some (by kernel_rfl))⟩
 f11:=⟨Tryz.f148.name,by decide,Tryz.func148.trans (congrArg some (by kernel_rfl))⟩
 t0:=Tryz.underlying0
 a0:=Tryz.isAgg0
 z0:=Tryz.sizeOf0
 v0:=Tryz.zeroValue0
 t24:=Tryz.underlying73
 a24:=Tryz.isAgg73
 z24:=Tryz.sizeOf73
 v24:=Tryz.zeroValue73
 t26:=Tryz.underlying9
 a26:=Tryz.isAgg9
 z26:=Tryz.sizeOf9
 v26:=Tryz.zeroValue9
 t28:=Tryz.underlying128
 a28:=Tryz.isAgg128
 z28:=Tryz.sizeOf128
 v28:=Tryz.zeroValue128
 i26:=by kernel_rfl }
def Tryz.sort116_ren:Go.Shelf.Ren:=⟨fun|6=>116|8=>150|9=>149|19=>180|20=>181|21=>171|22=>172|23=>173|24=>174|25=>175|26=>176|27=>177|28=>178|29=>179|36=>199|31=>200|32=>201|37=>202|38=>203|39=>204|41=>221|n=>n,fun|27=>73|29=>9|3=>3|32=>186|26=>73|0=>0|44=>179|46=>212|4=>4|36=>204|35=>203|41=>37|5=>5|9=>9|53=>225|57=>229|63=>244|64=>245|n=>n,fun|n=>n⟩
theorem Tryz.sort116:Go.Proofs.SlLaysM.n6 Tryz.prog Tryz.sort116_ren:={
 mixed:=by kernel_rfl
 f6:=⟨Tryz.f116.name,by decide,Tryz.func116.trans (congrArg some (by kernel_rfl))⟩
 f8:=Tryz.func150.trans (congrArg some (by kernel_rfl))
 f9:=⟨Tryz.f149.name,by decide,Tryz.func149.trans (congrArg some (by kernel_rfl))⟩
 f19:=Tryz.func180.trans (congrArg some (by kernel_rfl))
 f20:=Tryz.func181.trans (congrArg some (by kernel_rfl))
 f21:=⟨Tryz.f171.name,by decide,Tryz.func171.trans (congrArg some (by kernel_rfl))⟩
 f22:=⟨Tryz.f172.name,by decide,Tryz.func172.trans (congrArg some (by kernel_rfl))⟩
 f23:=⟨Tryz.f173.name,by decide,Tryz.func173.trans (congrArg some (by kernel_rfl))⟩
 f24:=⟨Tryz.f174.name,by decide,Tryz.func174.trans (congrArg some (by kernel_rfl))⟩
 f25:=⟨Tryz.f175.name,by decide,Tryz.func175.trans (congrArg some (by kernel_rfl))⟩
 f26:=⟨Tryz.f176.name,by decide,Tryz.func176.trans (congrArg some (by kernel_rfl))⟩
 f27:=⟨Tryz.f177.name,by decide,Tryz.func177.trans (congrArg some (by kernel_rfl))⟩
 f28:=⟨Tryz.f178.name,by decide,Tryz.func178.trans (congrArg some (by kernel_rfl))⟩
 f29:=⟨Tryz.f179.name,by decide,Tryz.func179.trans (congrArg some (by kernel_rfl))⟩
 f31:=Tryz.func200.trans (congrArg some (by kernel_rfl))
 f32:=Tryz.func201.trans (congrArg some (by kernel_rfl))
 f36:=⟨Tryz.f199.name,by decide,Tryz.func199.trans (congrArg some (by kernel_rfl))⟩
 f37:=⟨Tryz.f202.name,by decide,Tryz.func202.trans (congrArg some (by kernel_rfl))⟩
 f38:=⟨Tryz.f203.name,by decide,Tryz.func203.trans (congrArg some (by kernel_rfl))⟩
 f39:=⟨Tryz.f204.name,by decide,Tryz.func204.trans (congrArg some (by kernel_rfl))⟩
 f41:=⟨Tryz.f221.name,by decide,Tryz.func221.trans (congrArg some (by kernel_rfl))⟩
 t0:=Tryz.underlying0
 a0:=Tryz.isAgg0
 z0:=Tryz.sizeOf0
 v0:=Tryz.zeroValue0
 t3:=Tryz.underlying3
 a3:=Tryz.isAgg3
 z3:=Tryz.sizeOf3
 v3:=Tryz.zeroValue3
 t4:=Tryz.underlying4
 a4:=Tryz.isAgg4
 z4:=Tryz.sizeOf4
 v4:=Tryz.zeroValue4
 t5:=Tryz.underlying5
 a5:=Tryz.isAgg5
 z5:=Tryz.sizeOf5
 v5:=Tryz.zeroValue5
 t9:=Tryz.underlying9
 a9:=Tryz.isAgg9
 z9:=Tryz.sizeOf9
 v9:=Tryz.zeroValue9
 t26:=Tryz.underlying73
 a26:=Tryz.isAgg73
 z26:=Tryz.sizeOf73
 v26:=Tryz.zeroValue73
 t27:=Tryz.underlying73
 a27:=Tryz.isAgg73
 z27:=Tryz.sizeOf73
 v27:=Tryz.zeroValue73
 t29:=Tryz.underlying9
 a29:=Tryz.isAgg9
 z29:=Tryz.sizeOf9
 v29:=Tryz.zeroValue9
 t32:=Tryz.underlying186
 a32:=Tryz.isAgg186
 z32:=Tryz.sizeOf186
 v32:=Tryz.zeroValue186
 t35:=Tryz.underlying203
 a35:=Tryz.isAgg203
 z35:=Tryz.sizeOf203
 v35:=Tryz.zeroValue203
 t36:=Tryz.underlying204
 a36:=Tryz.isAgg204
 z36:=Tryz.sizeOf204
 v36:=Tryz.zeroValue204
 t41:=Tryz.underlying37
 a41:=Tryz.isAgg37
 z41:=Tryz.sizeOf37
 v41:=Tryz.zeroValue37
 t44:=Tryz.underlying179
 a44:=Tryz.isAgg179
 z44:=Tryz.sizeOf179
 v44:=Tryz.zeroValue179
 t46:=Tryz.underlying212
 a46:=Tryz.isAgg212
 z46:=Tryz.sizeOf212
 v46:=Tryz.zeroValue212
 t53:=Tryz.underlying225
 a53:=Tryz.isAgg225
 z53:=Tryz.sizeOf225
 v53:=Tryz.zeroValue225
 t57:=Tryz.underlying229
 a57:=Tryz.isAgg229
 z57:=Tryz.sizeOf229
 v57:=Tryz.zeroValue229
 t63:=Tryz.underlying244
 a63:=Tryz.isAgg244
 z63:=Tryz.sizeOf244
 v63:=Tryz.zeroValue244
 t64:=Tryz.underlying245
 a64:=Tryz.isAgg245
 z64:=Tryz.sizeOf245
 v64:=Tryz.zeroValue245 }
theorem Tryz.sorts86 (m:Nat):AnyZ.SortsIn Tryz.prog Tryz.sorted86_ren Fence.wide m :=
 ⟨fun blk off cap ss W hH hblk hsz=>callsIn_wide.2 (AnyM.slices_Sort_string Tryz.sort116 blk off cap ss W hH hblk hsz),
  fun p cap W=>callsIn_wide.2 (AnyM.slices_Sort_string_none Tryz.sort116 p cap W)⟩
theorem Tryz.maps_Keys_87 (mb:Option Nat) (W:World):CallsIn Fence.wide 5 Tryz.prog 87 #[.map mb] W fun e w'=>e=.returned (.func (.func 117) #[] #[.pointer (some ⟨W.heap.size,0,none⟩)])∧w'=W.alloc (.cells #[.map mb] 92) :=
 AnyZ.keys_in Tryz.keys87 Fence.wide 5 trivial rfl mb W
theorem Tryz.slices_Sorted_keys_86_87 {H:Type} (b nn:Nat) (D0:DataW H) (R:Value→Option (DataW H×List MemPlace)) (w:World) (hown:w.ownsMap Tryz.prog 9 R b nn D0) (hmax:Maps.size D0≤maxLen) (hbytes:Maps.size D0*16≤140737488355328) :
  CallsIn Fence.wide 5 Tryz.prog 86 #[.func (.func 117) #[] #[.pointer (some ⟨w.heap.size,0,none⟩)]] (w.alloc (.cells #[.map (some b)] 92)) fun e w'=>∃ (v:Value) (ss:List (List UInt8)),e=.returned v∧ss.Perm (strKeys D0) ∧
   w'.ownsRow (w.alloc (.cells #[.map (some b)] 92)).heap.size 9 1 v ss.length ((ss.mergeSort (fun x y=>decide (x≤y))).map encStr)∧(v=.slice none 0 0↔ss=[])∧Below (w.alloc (.cells #[.map (some b)] 92)).heap.size (w.alloc (.cells #[.map (some b)] 92)) w':=by
 have hbl:=hown.lt;have hseq:SeqGives Fence.wide 2 Tryz.prog 117 #[.pointer (some ⟨w.heap.size,0,none⟩)] encStr (fun ss=>ss.Perm (strKeys D0)) (Maps.size D0) (w.alloc (.cells #[.map (some b)] 92)) :=
  AnyZ.keys_gives (ρ:=Tryz.keys87_ren) { Tryz.keys87 with } Fence.wide _ trivial rfl (by omega) w.heap.size b nn D0 _ (by simp) (by simp) (by
   obtain⟨es,clock,hb,Ft,hs,hD⟩:=hown
   exact⟨es,clock,(Below.heap_alloc _ _ b hbl).trans hb,Ft,hs,hD⟩)
 exact AnyZ.sorted_in Tryz.sorted86 Fence.wide 5 trivial trivial trivial trivial rfl (by omega) (Tryz.sorts86 _) (enters_of Tryz.func116 (by kernel_rfl) rfl) 117 #[.pointer (some ⟨w.heap.size,0,none⟩)] trivial (enters_of Tryz.func117 (by kernel_rfl) rfl) _ _ hmax hbytes _ hseq
theorem Tryz.slices_Sorted_keys_nil_86_87 (w:World) :
  CallsIn Fence.wide 5 Tryz.prog 86 #[.func (.func 117) #[] #[.pointer (some ⟨w.heap.size,0,none⟩)]] (w.alloc (.cells #[.map none] 92)) fun e w'=>∃ (v:Value) (ss:List (List UInt8)),e=.returned v∧ss=[] ∧
   w'.ownsRow (w.alloc (.cells #[.map none] 92)).heap.size 9 1 v ss.length ((ss.mergeSort (fun x y=>decide (x≤y))).map encStr)∧(v=.slice none 0 0↔ss=[])∧Below (w.alloc (.cells #[.map none] 92)).heap.size (w.alloc (.cells #[.map none] 92)) w':=by
 have hseq:SeqGives Fence.wide 2 Tryz.prog 117 #[.pointer (some ⟨w.heap.size,0,none⟩)] encStr (fun ss:List (List UInt8)=>ss=[]) 0 (w.alloc (.cells #[.map none] 92)) :=
  AnyZ.keys_gives_nil (ρ:=Tryz.keys87_ren) { Tryz.keys87 with } Fence.wide _ trivial rfl w.heap.size _ (by simp) (by simp)
 exact AnyZ.sorted_in Tryz.sorted86 Fence.wide 5 trivial trivial trivial trivial rfl (by omega) (Tryz.sorts86 _) (enters_of Tryz.func116 (by kernel_rfl) rfl) 117 #[.pointer (some ⟨w.heap.size,0,none⟩)] trivial (enters_of Tryz.func117 (by kernel_rfl) rfl) _ 0 (Nat.zero_le _) (by omega) _ hseq
end Go.Proofs
end
namespace Go.Proofs.YtofllbpfajppeaaGreatDoor
section
open Go.ChangeShapes Go.WideShapes Go.ChangeAt Go.RowKit Go.Maps
def str (x:Nm):ByteArray:=⟨x.toArray⟩
theorem zam (x:Nm):(str x).data.toList=x:=rfl
theorem zb (x:Nm):(str x).size=x.length:=rfl
theorem zkw {w:World} {base n:Nat} {v:Value} {l:List Nm} (h:w.ownsRow base 9 1 v n (l.map encStr)) (hl:l.length=n) :
  ∃ sp c,v=.slice sp n c∧∀ i (hi:i<l.length),∃ g,sp=some ⟨g,0,none⟩∧base≤g∧g<w.heap.size∧∀ w':World,w'.heap[g]? = w.heap[g]?→w'.cell? ⟨g,i,none⟩=some (.string (str l[i])):=by
 rcases h.2 with⟨hv,h0⟩|⟨g,cap,cur,hv,hb,hg,hle,hmx,hsz,ht⟩
 ·exact⟨none,0,by rw[hv,h0],fun i hi=>by omega⟩
 ·refine⟨some ⟨g,0,none⟩,cap,hv,fun i hi=>⟨g,rfl,hb,(Array.getElem?_eq_some_iff.1 hg).1,fun w' hw=>?_⟩⟩;rw[cell_of_row w' g i cur _ _ (hw.trans hg)];have e:(l.map encStr)[i]? = some (.string (str l[i])):=by rw[List.getElem?_map,List.getElem?_eq_getElem hi];rfl
  rw[← ht,List.getElem?_take,if_pos (by omega)] at e;rw[← Array.getElem?_toList,e]
theorem DiskAt.c1 {base d M room N:Nat} {w:World} {fs:List Fe} (h:DiskAt base w d M room N fs):w.cell? ⟨d,1,none⟩=some (.map (some M)):=zan h.box 1 _ rfl
theorem DiskAt.c0 {base d M room N:Nat} {w:World} {fs:List Fe} (h:DiskAt base w d M room N fs):w.cell? ⟨d,0,none⟩=some (.int .i64 (room:Int)):=zan h.box 0 _ rfl
theorem zja (base d M room N:Nat) (w:World) (fs:List Fe) (h:DiskAt base w d M room N fs) (K:Nat) (caps:Array Value) (hK:∀ (c:Array Value) (w:World),(callFunc K c).run Tryz.prog w=.ok (.enter K c) w) (Post:World→Prop)
  (hv:∀ W0,Below w.heap.size w W0→∃ I:Nat→World→Prop,I 0 W0∧(∀ i w1,I i w1→∀ g,w.heap.size≤g→g<W0.heap.size→w1.heap[g]? = W0.heap[g]?) ∧
   (∀ i (hi:i<fs.length) w1,I i w1→w1.cell? ⟨d,1,none⟩=some (.map (some M))∧(Instr.lookup 92 (.map (some M)) (.string (str fs[i].1)) false).run Tryz.prog w1=.ok (.pointer (some ⟨fs[i].2.1,0,none⟩)) w1 ∧
    Calls Tryz.prog K (#[.string (str fs[i].1),.pointer (some ⟨fs[i].2.1,0,none⟩)]++caps) w1 fun e w2=>e=.returned (.tuple #[])∧I (i+1) w2) ∧
   (∀ w1,I fs.length w1→Post w1)) :
  Calls Tryz.prog 54 #[.pointer (some ⟨d,0,none⟩),.func (.func K) #[] caps] w fun e w'=>e=.returned (.tuple #[])∧Post w':=by
 obtain⟨D,hD,hDs,hDk⟩:=h.map.keys (h.rise.map _);have hfl:(ptrs fs).length=fs.length:=by simp[ptrs]
 have hf16:=h.few;have c1:=h.c1;have CK:=zaa (callsIn_wide.1 (Tryz.maps_Keys_87 (some M) w));have CS:=zaa (callsIn_wide.1 (Tryz.slices_Sorted_keys_86_87 M _ D zek w hD (by rw[hDs,hfl];simp only[maxLen];omega) (by rw[hDs,hfl];omega)));have HN:=zaa (fun ss (hp:List.Perm ss (strKeys D))=>show(ss.mergeSort (fun x y=>decide (x≤y)))=fs.map (·.1) by rw[hDk ss hp];simp[ptrs]);have HV:=zaa hv;have b0:Below w.heap.size w (w.alloc (.cells #[.map (some M)] 92)):=(Below.refl _ _).alloc (Nat.le_refl _) _;have B0:=zaa b0;clear h hv hD hDs hDk b0 hfl;go_enter Tryz.func54,Tryz.ntmps54
 go_wp2_with (first
  |(go_at_call 87;refine(za CK).mono ?_;rintro e w' ⟨rfl,rfl⟩)
  |(go_at_call 86;refine(za CS).mono ?_;rintro e W0 ⟨v,ss,rfl,hp,hrow,hnil,hb⟩;rw[za HN ss hp] at hrow;have hlen:ss.length=fs.length:=(by have:=congrArg List.length (za HN ss hp);rw[List.length_mergeSort,List.length_map] at this;exact this);rw[hlen] at hrow;obtain⟨sp,cap,rfl,hcell⟩:=zkw hrow (by simp);obtain⟨I,hI0,hIk,hIs,hIe⟩:=za HV W0 ((za B0).trans (hb.mono (za B0).size));have HC:=zaa hcell;have H0:=zaa hI0;have HIK:=zaa hIk;have HIS:=zaa hIs;have HIE:=zaa hIe;have HS:=zaa (show w.heap.size≤(w.alloc (.cells #[.map (some M)] 92)).heap.size from(za B0).size);clear hp hrow hnil hb hlen hcell hI0 hIk hIs hIe))
 have hlm:(fs.map (·.1)).length=fs.length:=by simp
 go_loopw [13] (fun i wr=>∃ j:Nat,j≤fs.length∧i=.int .i64 (j:Int)∧Hid (I j wr)) (fun i _=>fs.length - (intOf i).toNat)
 case atStart=>exact⟨0,by omega,rfl,H0⟩
 case round =>
  obtain⟨j,hj,rfl,HI⟩:=hrel;by_cases hjn:j<fs.length
  ·have hj0:(0:Int)≤(j:Int):=by omega
   have hj1:(j:Int)<(fs.length:Int):=by omega
   obtain⟨g,rfl,hg1,hg2,hgc⟩:=za HC j (by rw[hlm];exact hjn);have p0:=hgc wr (za HIK j wr (za HI) g (Nat.le_trans (za HS) hg1) hg2);rw[List.getElem_map] at p0;obtain⟨q1,q2,q3⟩:=za HIS j hjn wr (za HI);generalize str fs[j].1=nm at *;generalize fs[j].2.1=F at *;have Q3:=zaa q3;clear q3 hgc
   go_wp2_with fail
   refine(za Q3).mono ?_;rintro e w2 ⟨rfl,hI2⟩;have HI2:=zaa hI2;clear hI2
   go_wp2
   exact⟨⟨j+1,by omega,by go_num,za HI2⟩,by simp[intOf];omega⟩
  ·have hj2:¬ ((j:Int)<(fs.length:Int)):=by omega
   obtain rfl:j=fs.length:=by omega
   go_wp2
   go_end0
   exact⟨rfl,za HIE _ (za HI)⟩
section
variable {α β:Type}
def zcc (k:Nm) (l:List (Nm×α)):Option α:=(l.find? (fun x=>decide (x.1=k))).map (·.2)
theorem zcp {k:Nm} {l:List (Nm×α)} {v:α} (h:zcc k l=some v):(k,v)∈l:=by
 unfold zcc at h;rw[Option.map_eq_some_iff] at h;obtain⟨x,hx,rfl⟩:=h;have h1:=List.find?_some hx;have h2:=List.mem_of_find?_eq_some hx;simp only[decide_eq_true_eq] at h1;rw[← h1];exact h2
theorem zb8 {k:Nm} {l:List (Nm×α)} : zcc k l=none↔k ∉ l.map (·.1):=by
 unfold zcc;rw[Option.map_eq_none_iff,List.find?_eq_none];simp only[List.mem_map,decide_eq_true_eq];constructor
 ·rintro h ⟨x,hx,rfl⟩;exact h x hx rfl
 ·intro h x hx e;exact h ⟨x,hx,e⟩
theorem zgc {k:Nm} {l:List (Nm×α)} {v:α} (hr:zbf l) (h:(k,v)∈l):zcc k l=some v:=by
 cases e:zcc k l with
 |none=>exact absurd (List.mem_map.2 ⟨_,h,rfl⟩) (zb8.1 e)
 |some u=>rw[show u=v by have:=hr.one (zcp e) h rfl;simpa using this]
theorem ztd (g:α→β) (k:Nm) (l:List (Nm×α)):zcc k (l.map (fun x=>(x.1,g x.2)))=(zcc k l).map g:=by
 unfold zcc;rw[List.find?_map];simp only[Option.map_map,Function.comp_def]
theorem zfj {k:Nm} {v:α} {l:List (Nm×α)} (hr:zbf l) (j:Nm):zcc j (zbi k v l)=if j=k then some v else zcc j l:=by
 by_cases e:j=k
 ·subst e;rw[if_pos rfl];exact zgc (hr.put _ _) ((zb3 hr _).2 (.inl rfl))
 ·rw[if_neg e];cases h:zcc j l with
  |some u=>exact zgc (hr.put _ _) ((zb3 hr _).2 (.inr ⟨zcp h,e⟩))
  |none =>
   rw[zb8] at h ⊢;intro hm;obtain⟨x,hx,ex⟩:=List.mem_map.1 hm;rcases(zb3 hr x).1 hx with rfl|⟨hx,_⟩
   ·exact e ex.symm
   ·exact h (List.mem_map.2 ⟨x,hx,ex⟩)
theorem zz {k:Nm} {l:List (Nm×α)} (hr:zbf l) (j:Nm):zcc j (zdm k l)=if j=k then none else zcc j l:=by
 by_cases e:j=k
 ·subst e;rw[if_pos rfl,zb8];intro hm;obtain⟨x,hx,ex⟩:=List.mem_map.1 hm;exact((zbq x).1 hx).2 ex
 ·rw[if_neg e];cases h:zcc j l with
  |some u=>exact zgc (hr.del _) ((zbq _).2 ⟨zcp h,e⟩)
  |none =>
   rw[zb8] at h ⊢;intro hm;obtain⟨x,hx,ex⟩:=List.mem_map.1 hm;exact h (List.mem_map.2 ⟨x,((zbq x).1 hx).1,ex⟩)
end
abbrev Ds:=List (Nm×Sp)
def sp0:Sp:=⟨false,[],[]⟩
def zgd (k:Nm):Bool:=decide (1≤k.length)&&(decide (k.length≤64)&&k.all (fun b=>stands b.toNat))
theorem zge (s:ByteArray):zec s=zgd s.data.toList:=by
 unfold zec zgd;rw[Array.length_toList];rfl
def usedS (ss:Ds):Nat:=(ss.map (fun x=>x.2.now.length)).sum
def zax (k:Nm) (ss:Ds):Nat×Ds:=match zcc k ss with
 |none=>(8,ss)
 |some s=>(0,zbi k ⟨true,s.now,[]⟩ ss)
def zf (k:Nm) (z:Int) (ss:Ds):Nat×Ds:=match zcc k ss with
 |none=>(8,ss)
 |some s=>if z<0∨z > s.now.length then (2,ss) else (0,zbi k ⟨s.la,s.y,s.cs++[(true,z.toNat,[])]⟩ ss)
def zat (k:Nm) (ss:Ds):Nat×Ds:=match zcc k ss with
 |none=>(8,ss)
 |some _=>(0,zdm k ss)
def zak (a b:Nm) (ss:Ds):Nat×Ds:=match zcc a ss with
 |none=>(8,ss)
 |some s=>if zgd b then (0,zbi b s (zdm a ss)) else (14,ss)
def wrote (s:Sp) (z:Nat) (o:List Nat):Sp:=if o.length=0 then s else ⟨s.la,s.y,s.cs++[(false,z,o)]⟩
def zai (room:Nat) (k:Nm) (z:Int) (o:List Nat) (ss:Ds):Nat×Ds :=
 if zgd k=false then (14,ss) else
 if z<0∨z > ((zcc k ss).getD sp0).now.length then (2,ss) else
 if ((zcc k ss).isNone=true∧16≤ss.length)∨(o.length:Int) > 262144 - z then (6,ss) else
 if (usedS ss:Int)+max (z+o.length - ((zcc k ss).getD sp0).now.length) 0 > room then (9,ss) else
 (0,zbi k (wrote ((zcc k ss).getD sp0) z.toNat o) ss)
def zh9 (base d M room N:Nat) (w:World) (fs:List Fe) (r:Nat×Ds) (e:Ending) (w':World):Prop :=
 e=.returned (.int .i64 (r.1:Int))∧∃ fs',DiskAt base w' d M room N fs'∧DGrew d M w fs w' fs'∧sps fs'=r.2
section
variable {base d M room N:Nat} {w w':World} {fs fs':List Fe}
theorem DiskAt.riseS (h:DiskAt base w d M room N fs):zbf (sps fs):=h.rise.map (fun x:Nat×Fil=>x.2.sp)
theorem zgj (k:Nm) (fs:List Fe):zcc k (sps fs)=(zcc k fs).map (fun x=>x.2.sp):=ztd (fun x:Nat×Fil=>x.2.sp) k fs
theorem zlm (k:Nm) (F:Nat) (f:Fil) (fs:List Fe):sps (zbi k (F,f) fs)=zbi k f.sp (sps fs):=ziw (fun x:Nat×Fil=>x.2.sp) k (F,f) fs
theorem zx3 (k:Nm) (fs:List Fe):sps (zdm k fs)=zdm k (sps fs):=znz (fun x:Nat×Fil=>x.2.sp) k fs
theorem ztp (k:Nm) (F:Nat) (f:Fil) (fs:List Fe):ptrs (zbi k (F,f) fs)=zbi k F (ptrs fs):=ziw (fun x:Nat×Fil=>x.1) k (F,f) fs
theorem zob (k:Nm) (fs:List Fe):ptrs (zdm k fs)=zdm k (ptrs fs):=znz (fun x:Nat×Fil=>x.1) k fs
theorem DiskAt.nows (h:DiskAt base w d M room N fs) {x:Fe} (hx:x∈fs):x.2.2.sp.now=x.2.2.b:=((h.ok x hx).now).symm
theorem zh9.stay {r:Nat×Ds} {e:Ending} (h:DiskAt base w d M room N fs) (he:e=.returned (.int .i64 (r.1:Int))) (hr:r.2=sps fs):zh9 base d M room N w fs r e w:=⟨he,fs,h,DGrew.refl,hr.symm⟩
theorem zh9.below {r:Nat×Ds} {e:Ending} (h:DiskAt base w d M room N fs) (he:e=.returned (.int .i64 (r.1:Int))) (hr:r.2=sps fs) (hb:Below w.heap.size w w'):zh9 base d M room N w fs r e w':=⟨he,fs,h.later hb,DGrew.ofBelow hb,hr.symm⟩
theorem zhk (h:DiskAt base w d M room N fs) (s:ByteArray) (hs:s.size≤maxLen) (F:Nat) (f:Fil) (hx:zcc s.data.toList fs=some (F,f)) :
  Calls Tryz.prog 81 #[.pointer (some ⟨d,0,none⟩),.string s] w fun e w'=>e=.returned (.tuple #[.pointer (some ⟨F,0,none⟩),.int .i64 0])∧w'=w:=by
 have c1:=h.c1;have l1:=(h.map.look_yes s hs F (List.mem_map.2 ⟨_,zcp hx,rfl⟩)).1;clear h hx;go_enter Tryz.func81,Tryz.ntmps81
 go_wp2
 go_ret2
 exact⟨rfl,rfl⟩
theorem zkn (h:DiskAt base w d M room N fs) (s:ByteArray) (hs:s.size≤maxLen) (hx:zcc s.data.toList fs=none) :
  Calls Tryz.prog 81 #[.pointer (some ⟨d,0,none⟩),.string s] w fun e w'=>e=.returned (.tuple #[.pointer none,.int .i64 8])∧w'=w:=by
 have c1:=h.c1;have l1:=h.map.look_no s hs (by rw[ptrs,List.map_map];exact zb8.1 hx);clear h hx;go_enter Tryz.func81,Tryz.ntmps81
 go_wp2
 go_ret2
 exact⟨rfl,rfl⟩
theorem zrt (h:DiskAt base w d M room N fs) (hbs:base≤w.heap.size) (s:ByteArray) (hs:s.size≤maxLen) :
  Calls Tryz.prog 52 #[.pointer (some ⟨d,0,none⟩),.string s] w (zh9 base d M room N w fs (zax s.data.toList (sps fs))):=by
 have HS:=zaa (zgj s.data.toList fs);cases hg:zcc s.data.toList fs with
 |none =>
  have F1:=zaa (zkn h s hs hg);have E1:=zaa (zh9.stay (w:=w) (r:=zax s.data.toList (sps fs)) (e:=.returned (.int .i64 8)) h (by simp[zax,za HS,hg]) (by simp[zax,za HS,hg]));clear h hbs hg HS;go_enter Tryz.func52,Tryz.ntmps52
  go_wp2_with (go_at_call 81;refine(za F1).mono ?_;rintro e w' ⟨rfl,rfl⟩)
  go_ret
  exact za E1
 |some x =>
  obtain⟨F,f⟩:=x;have hm:=zcp hg;have F1:=zaa (zhk h s hs F f hg);have S1:=zaa (zv1 base w F f (h.file _ hm) (by have:=(h.ok _ hm).b8;simp only at this;omega) hbs)
  have E1:=zaa (show ∀ w' yp,FileAt base w' F (f.synced yp)→FGrew F w f w' (f.synced yp)→zh9 base d M room N w fs (zax s.data.toList (sps fs)) (.returned (.int .i64 0)) w' from fun w' yp hf hg'=>by
   obtain⟨k1,k2⟩:=h.upd (w':=w') hm hf hg' ((h.ok _ hm).synced yp) (Nat.le_refl _);have hn:f.sp.now=f.b:=h.nows hm;refine⟨by simp[zax,za HS,hg],_,k1,k2,?_⟩;rw[zlm];simp only[zax,za HS,hg,Option.map_some,hn]
   rfl)
  clear h hbs hg HS hm;go_enter Tryz.func52,Tryz.ntmps52
  go_wp2_with (first
   |(go_at_call 81;refine(za F1).mono ?_;rintro e w' ⟨rfl,rfl⟩)
   |(go_at_call 85;refine(za S1).mono ?_;rintro e W ⟨rfl,yp,hf,hg⟩;have E2:=zaa (za E1 W yp hf hg);clear hf hg))
  go_ret
  exact za E2
theorem zn0 (h:DiskAt base w d M room N fs) (s:ByteArray) (hs:s.size≤maxLen) :
  Calls Tryz.prog 91 #[.pointer (some ⟨d,0,none⟩),.string s] w (zh9 base d M room N w fs (zat s.data.toList (sps fs))):=by
 have HS:=zaa (zgj s.data.toList fs);cases hg:zcc s.data.toList fs with
 |none =>
  have F1:=zaa (zkn h s hs hg);have E1:=zaa (zh9.stay (w:=w) (r:=zat s.data.toList (sps fs)) (e:=.returned (.int .i64 8)) h (by simp[zat,za HS,hg]) (by simp[zat,za HS,hg]));clear h hg HS;go_enter Tryz.func91,Tryz.ntmps91
  go_wp2_with (go_at_call 81;refine(za F1).mono ?_;rintro e w' ⟨rfl,rfl⟩)
  go_ret
  exact za E1
 |some x =>
  obtain⟨F,f⟩:=x;have F1:=zaa (zhk h s hs F f hg);have c1:=h.c1;obtain⟨W,hd,hm,hgr,hsz⟩:=h.map.drop (h.rise.map (fun x:Nat×Fil=>x.1)) s hs 0;have hd':∀ ty,(Builtin.delete_ #[92,9] ty #[.map (some M),.string s]).run Tryz.prog w=.ok (.tuple #[]) W:=fun ty=>hd
  have E1:=zaa (show zh9 base d M room N w fs (zat s.data.toList (sps fs)) (.returned (.int .i64 0)) W by
   have hinj:∀ y∈zdm s.data.toList fs,∀ z∈zdm s.data.toList fs,y.1≠z.1→∀ a∈fs,∀ b∈fs,y.2=a.2→z.2=b.2→a.1≠b.1:=by
    intro y hy z hz hne a ha b hb ea eb e;have hy':=((zbq y).1 hy).1;have hz':=((zbq z).1 hz).1;have:=h.rise.one ha hb e;subst this;have h1:y.2.1=z.2.1:=by rw[ea,eb]
    exact h.ap y hy' z hz' hne y.2.1 (.inl rfl) (by rw[h1];exact .inl rfl)
   obtain⟨k1,k2⟩:=h.remap (fs':=zdm s.data.toList fs) hgr (by rw[zob];exact hm) (h.rise.del _) (fun y hy=>⟨h.names y ((zbq y).1 hy).1,y,((zbq y).1 hy).1,rfl⟩) hinj (Nat.le_trans (List.length_filter_le _ _) h.few);refine⟨by simp[zat,za HS,hg],_,k1,k2,?_⟩;simp only[zat,za HS,hg,Option.map_some]
   exact zx3 _ _)
  clear h hg HS hgr hm hd hsz;go_enter Tryz.func91,Tryz.ntmps91
  go_wp2_with (go_at_call 81;refine(za F1).mono ?_;rintro e w' ⟨rfl,rfl⟩)
  go_ret
  exact za E1
end
end
end Go.Proofs.YtofllbpfajppeaaGreatDoor
