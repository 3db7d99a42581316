/- Conf: rows of pools and of routes of one's own; a pool copied. -/
import Derived.Test.YtjcjleaicjhpeaaGreatDoorB09
import Derived.Test.YtjcjleaicjhpeaaGreatDoorB11
import Derived.Test.YtjcjleaicjhpeaaGreatDoorB12
set_option linter.unusedVariables false
set_option maxRecDepth 20000
set_option maxHeartbeats 16000000
namespace Go.Proofs.YtjcjleaicjhpeaaGreatDoor
section
open Go.ChangeShapes Go.WideShapes Go.ChangeAt Go.RowKit
theorem zb1 {w:World} {ops:Array Oper} {o:Oper} {a:Act} {K:Act→World→Prop} {Q:Exit→Act→World→Prop} {E0:Prop} (hgd:o.guard=none) (s x:Operand)
  (ho:o.op=.call { callee:=.builtin .append,args:=#[s,x],argTypes:=#[43,43] }) (base:Nat) (sp:Option Addr) (n c:Nat) (l:List Pr) (hs:a.eval s=.slice sp n c) (hn:l.length=n) (hown:zeq base w sp c l)
  (B:Nat) (y:Pr) (hx:a.eval x=.slice (some ⟨B,0,none⟩) 1 1) (hB:w.heap[B]? = some (.cells (zfm y).toArray 54 (0,0))) (hsz:(n+1)*40≤140737488355328) (hbase:base≤w.heap.size)
  (h:∀ sp' c' w',zeq base w' sp' c' (l++[y])→w.grownBy w' (blk sp)→K (a.put o.dst (.slice sp' (n+1) c')) w') :
  if Region.wanted o (yielded ops a.tmps)=true then Oper.wp Tryz.prog o a w K Q else E0:=by
 subst hn;have hw:Region.wanted o (yielded ops a.tmps)=true:=by simp[Region.wanted,hgd]
 rw[if_pos hw];obtain⟨i0,hi,hz0,hz1,hz2⟩:=info_parts zqp;obtain⟨v',w',hrun,h1,h2,h3⟩:=run_append_own (P:=Tryz.prog) w base 43 o.type 54 i0 _ 2 40 Tryz.underlying43 hi hz0 hz1 hz2 rfl (by omega) _ _ _ hown ⟨B,0,none⟩ 1 1 (zfm y) rfl
  (fun j u hu=>by
   rw[Addr.add_lit,Nat.zero_add,cell_of_row _ _ _ _ _ _ hB]
   rw[← hu,← Array.getElem?_toList]) (fun u hu=>zjw [y] u (by simpa [zdh] using hu)) (by simp only[maxLen];omega) (by omega) hbase
 have hv:∃ sp' c',v'=.slice sp' (l.length+1) c':=by
  rcases h1.2 with⟨hv,h0⟩|⟨g,cap,cur,hv,_⟩
  ·omega
  ·exact⟨_,_,hv⟩
 obtain⟨sp',c',rfl⟩:=hv;unfold Oper.wp;simp[execOp,ho,resolve,invoke,builtin,hs,hx,hrun,Result.andThen];refine h sp' c' w' ?_ (by rw[← zbd sp l.length c];exact h2);unfold zeq;rw[List.length_append,show zdh (l++[y])=zdh l++zfm y from by simp[zdh]];exact h1
def zer (base:Nat) (w:World) (sp:Option Addr) (c:Nat) (l:List Rt):Prop:=w.ownsRow base 56 3 (.slice sp l.length c) l.length (zch l)
theorem zci {w:World} {ops:Array Oper} {o:Oper} {a:Act} {K:Act→World→Prop} {Q:Exit→Act→World→Prop} {E0:Prop} (hgd:o.guard=none) (s x:Operand)
  (ho:o.op=.call { callee:=.builtin .append,args:=#[s,x],argTypes:=#[42,42] }) (base:Nat) (sp:Option Addr) (n c:Nat) (l:List Rt) (hs:a.eval s=.slice sp n c) (hn:l.length=n) (hown:zer base w sp c l)
  (B:Nat) (y:Rt) (hx:a.eval x=.slice (some ⟨B,0,none⟩) 1 1) (hB:w.heap[B]? = some (.cells (zd0 y).toArray 56 (0,0))) (hsz:(n+1)*48≤140737488355328) (hbase:base≤w.heap.size)
  (h:∀ sp' c' w',zer base w' sp' c' (l++[y])→w.grownBy w' (blk sp)→K (a.put o.dst (.slice sp' (n+1) c')) w') :
  if Region.wanted o (yielded ops a.tmps)=true then Oper.wp Tryz.prog o a w K Q else E0:=by
 subst hn;have hw:Region.wanted o (yielded ops a.tmps)=true:=by simp[Region.wanted,hgd]
 rw[if_pos hw];obtain⟨i0,hi,hz0,hz1,hz2⟩:=info_parts zqq;obtain⟨v',w',hrun,h1,h2,h3⟩:=run_append_own (P:=Tryz.prog) w base 42 o.type 56 i0 _ 3 48 Tryz.underlying42 hi hz0 hz1 hz2 rfl (by omega) _ _ _ hown ⟨B,0,none⟩ 1 1 (zd0 y) rfl
  (fun j u hu=>by
   rw[Addr.add_lit,Nat.zero_add,cell_of_row _ _ _ _ _ _ hB]
   rw[← hu,← Array.getElem?_toList]) (fun u hu=>zec [y] u (by simpa [zch] using hu)) (by simp only[maxLen];omega) (by omega) hbase
 have hv:∃ sp' c',v'=.slice sp' (l.length+1) c':=by
  rcases h1.2 with⟨hv,h0⟩|⟨g,cap,cur,hv,_⟩
  ·omega
  ·exact⟨_,_,hv⟩
 obtain⟨sp',c',rfl⟩:=hv;unfold Oper.wp;simp[execOp,ho,resolve,invoke,builtin,hs,hx,hrun,Result.andThen];refine h sp' c' w' ?_ (by rw[← zbd sp l.length c];exact h2);unfold zer;rw[List.length_append,show zch (l++[y])=zch l++zd0 y from by simp[zch]];exact h1
theorem zee {w:World} {ops:Array Oper} {o:Oper} {a:Act} {K:Act→World→Prop} {Q:Exit→Act→World→Prop} {E0:Prop} (hgd:o.guard=none) (k:Nat) (ho:o.op=.buildSlice 42 1 #[(0,.tmp k)]) (y:Rt) (hv:a.eval (.tmp k)=zdi y)
  (h:∀ E w',w.heap.size=E→w'.heap[E]? = some (.cells (zd0 y).toArray 56 (0,0))→Below w.heap.size w w'→K (a.put o.dst (.slice (some ⟨E,0,none⟩) 1 1)) w') :
  if Region.wanted o (yielded ops a.tmps)=true then Oper.wp Tryz.prog o a w K Q else E0:=by
 have hw:Region.wanted o (yielded ops a.tmps)=true:=by simp[Region.wanted,hgd]
 rw[if_pos hw];obtain⟨hh,pp,ll⟩:=y;have hs':a.tmps[k]?.getD undef=.agg #[.string hh,.string pp,.string ll]:=by simpa [zdi,go_sem] using hv
 have h1:=h w.heap.size _ rfl (zad w (.cells (zd0 ⟨hh,pp,ll⟩).toArray 56)) ((Below.refl _ _).alloc (Nat.le_refl _) _);unfold Oper.wp;simp[execOp,ho,go_sem,hs'];exact h1
theorem zcq {base:Nat} {w w':World} {T T':TypeId} {k n r:Nat} {v:Value} {xs:List Value} {cs:Array Value} {fr:Nat×Nat} (h:w.ownsRow base T k v n xs) (hg:w.grownBy w' (some r)) (hr:w.heap[r]? = some (.cells cs T' fr)) (hT:T'≠T):w'.ownsRow base T k v n xs:=by
 refine⟨h.1,?_⟩;rcases h.2 with hv|⟨g,cap,cur,hv,hb,hh,q⟩
 ·exact .inl hv
 ·refine .inr ⟨g,cap,cur,hv,hb,(hg.block g (Array.getElem?_eq_some_iff.1 hh).1 (fun e=>?_)).trans hh,q⟩;rw[Option.some.inj e,hr] at hh;simp only[Option.some.injEq,Obj.cells.injEq] at hh;exact hT hh.2.1
theorem zay {base:Nat} {w w':World} {T:TypeId} {k n:Nat} {v:Value} {xs:List Value} (h:w.ownsRow base T k v n xs) (hb:Below w.heap.size w w'):w'.ownsRow base T k v n xs:=by
 refine⟨h.1,?_⟩;rcases h.2 with hv|⟨g,cap,cur,hv,hbg,hh,q⟩
 ·exact .inl hv
 ·exact .inr ⟨g,cap,cur,hv,hbg,(hb.block g (Array.getElem?_eq_some_iff.1 hh).1).trans hh,q⟩
theorem zdf {base:Nat} {w:World} {T:TypeId} {k n m c:Nat} {sp:Option Addr} {xs:List Value} (h:w.ownsRow base T k (.slice sp m c) n xs) {r:Nat} (hr:blk sp=some r):base≤r∧∃ cur:Array Value,w.heap[r]? = some (.cells cur T (0,0)):=by
 rcases h.2 with⟨hv,h0⟩|⟨g,cap,cur,hv,hb,hh,_⟩
 ·simp only[Value.slice.injEq] at hv;rw[hv.1] at hr;cases hr
 ·simp only[Value.slice.injEq] at hv;rw[hv.1] at hr;simp only[blk,Option.map_some,Option.some.injEq] at hr;subst hr;exact⟨hb,cur,hh⟩
theorem zky {w:World} {nm:ByteArray} {a:Option Addr} {ts:List Tgt} (hT:TgsAt w a ts) (hl:ts.length≤1000) (tc:Nat) :
  Calls Tryz.prog 43 #[.agg #[.string nm,.slice a ts.length tc]] w fun e w'=>∃ a' c',e=.returned (.agg #[.string nm,.slice a' ts.length c'])∧zbq w.heap.size w' a' c' ts∧Below w.heap.size w w':=by
 have b1:Below w.heap.size w (w.alloc (.cells #[.string nm,.slice a ts.length tc] 54)):=(Below.refl _ _).alloc (Nat.le_refl _) _;have b2:=zaa (b1.alloc b1.size (.cells #[.string ⟨#[]⟩,.slice none 0 0] 54));have s1:(w.alloc (.cells #[.string nm,.slice a ts.length tc] 54)).heap.size=w.heap.size+1:=by simp
 have X1:=zaa (show((w.alloc (.cells #[.string nm,.slice a ts.length tc] 54)).alloc (.cells #[.string ⟨#[]⟩,.slice none 0 0] 54)).heap[w.heap.size]? = some (.cells #[.string nm,.slice a ts.length tc] 54 (0,0)) by rw[Below.heap_alloc _ _ _ (by simp)];exact zad _ _);have X2:=zaa (show((w.alloc (.cells #[.string nm,.slice a ts.length tc] 54)).alloc (.cells #[.string ⟨#[]⟩,.slice none 0 0] 54)).heap[w.heap.size+1]? = some (.cells #[.string ⟨#[]⟩,.slice none 0 0] 54 (0,0)) by rw[← s1];exact zad _ _);have HT:=zaa (hT.later (za b2));have SZ:=zaa (show((w.alloc (.cells #[.string nm,.slice a ts.length tc] 54)).alloc (.cells #[.string ⟨#[]⟩,.slice none 0 0] 54)).heap.size=w.heap.size+2 by simp);clear hT b1 s1;have c0:=zae (za X1) 0 (.string nm) rfl;have c1:=zae (za X1) 1 (.slice a ts.length tc) rfl;go_enter Tryz.func43,Tryz.ntmps43
 go_wp2_with fail
 generalize ((w.alloc (.cells #[.string nm,.slice a ts.length tc] 54)).alloc (.cells #[.string ⟨#[]⟩,.slice none 0 0] 54))=V at *;have bV:=zaa (show Below V.heap.size V V.drew from(Below.refl _ _).drew);have CC:=zaa (zey V.drew a tc ts ((za HT).later (Below.refl _ _).drew) hl);have N1:=zaa (show w.heap.size+1<V.heap.size from by have:=za SZ;omega);have SS:=zaa (show ∀ W:World,Below V.heap.size V W→W.cell? ⟨w.heap.size,0,none⟩=some (.string nm)∧W.cell? ⟨w.heap.size,1,none⟩=some (.slice a ts.length tc) from fun W hb=>⟨cell_later hb c0,cell_later hb c1⟩);have SK:∀ (W:World) (g o:Nat) (x:Value),w.heap.size+1=g→W.cell? ⟨w.heap.size,0,none⟩=some (.string nm)∧W.cell? ⟨w.heap.size,1,none⟩=some (.slice a ts.length tc)→(W.setCell ⟨g,o,none⟩ x).cell? ⟨w.heap.size,0,none⟩=some (.string nm)∧(W.setCell ⟨g,o,none⟩ x).cell? ⟨w.heap.size,1,none⟩=some (.slice a ts.length tc):=fun W g o x hg h=>⟨(zc7 _ _ (by omega)).trans h.1,(zc7 _ _ (by omega)).trans h.2⟩
 clear HT;generalize hn:ts.length=n at *;have HN:=zaa hn;clear hn;refine wp_region_held_drew (S:=fun w'=>w'.cell? ⟨w.heap.size,0,none⟩=some (.string nm)∧w'.cell? ⟨w.heap.size,1,none⟩=some (.slice a n tc)) (by kernel_rfl) ?_ (fun hHeld=>?_)
 ·try dsimp only
  first|exact za SS _ (za F)|exact SK _ _ _ _ rfl (SK _ _ _ _ rfl (za SS _ (za F)))|exact⟨c0,c1⟩
 refine hT 0 ?_;refine hT 1 ?_;refine hT 2 ?_;refine hT 3 ?_;refine hO 4 (fun K hK=>?_);go_simp
 first
  |(go_at_call 85
    refine(za CC).mono ?_;rintro e U ⟨a',c',rfl,hO,hb⟩;have F:=zaa ((za bV).trans (show Below V.heap.size V.drew U from hb));have HO:=zaa (show zbq V.heap.size U a' c' ts from hO);have XU:=zaa (zac (za F) (za X2));have d0:=zab (za XU) 0 _ rfl;have d1:=zab (za XU) 1 _ rfl;have f0:U.frozen? ⟨w.heap.size+1,0,none⟩=false:=by simp[World.frozen?,za XU]
    have f1:U.frozen? ⟨w.heap.size+1,1,none⟩=false:=by simp[World.frozen?,za XU]
    clear hO hb CC)
 go_wp2_with fail
 refine hK.out _ _ ?_ (fun hHeld=>?_)
 ·try dsimp only
  first|exact za SS _ (za F)|exact SK _ _ _ _ rfl (SK _ _ _ _ rfl (za SS _ (za F)))|exact⟨c0,c1⟩
 clear hK K;refine hP ?_;refine hT 5 ?_;refine hO 6 (fun K hK=>?_);go_simp
 go_wp2_with fail
 refine hK.out _ _ ?_ (fun hHeld=>?_)
 ·try dsimp only
  first|exact za SS _ (za F)|exact SK _ _ _ _ rfl (SK _ _ _ _ rfl (za SS _ (za F)))|exact⟨c0,c1⟩
 clear hK K;refine hP ?_;refine wpAnyH_done (by kernel_rfl) ?_ _;have Y0:=zaa (heap_setCell_same U (w.heap.size+1) 0 _ 54 (.string nm) (za XU));have Y1:=zaa (heap_setCell_same _ (w.heap.size+1) 1 _ 54 (.slice a' n c') (za Y0));have G1:=zaa (zb U (w.heap.size+1) 0 (.string nm));have G2:=zaa (zb (U.setCell ⟨w.heap.size+1,0,none⟩ (.string nm)) (w.heap.size+1) 1 (.slice a' n c'));generalize ((U.setCell ⟨w.heap.size+1,0,none⟩ (.string nm)).setCell ⟨w.heap.size+1,1,none⟩ (.slice a' n c'))=Z at *;clear d0 d1 f0 f1 hHeld c0 c1;have g0:Z.cell? ⟨w.heap.size+1,0,none⟩=some (.string nm):=zab (za Y1) 0 _ rfl;have g1:Z.cell? ⟨w.heap.size+1,1,none⟩=some (.slice a' n c'):=zab (za Y1) 1 _ rfl
 go_wp2
 have hn:=za HN;subst hn;have HB:=(za b2).trans ((za F).mono (za b2).size);have HB2:=(HB.grown (za G1) HB.size (fun g e=>by have:=Option.some.inj e;omega)).grown (za G2) (HB.grown (za G1) HB.size (fun g e=>by have:=Option.some.inj e;omega)).size (fun g e=>by have:=Option.some.inj e;omega);refine bodyPost_ret (v:=.agg #[.string nm,.slice a' ts.length c']) (by simp[results,Tryz.results43,go_sem,g0,g1]) rfl ⟨a',c',rfl,?_,HB2⟩;have O1:=zbq.keep (za HO) (w':=U.setCell ⟨w.heap.size+1,0,none⟩ (.string nm)) (fun g _ h1 h2=>(za G1).block g h2 (fun e=>by have:=Option.some.inj e;have:=za N1;omega));exact(zbq.keep O1 (fun g _ h1 h2=>(za G2).block g h2 (fun e=>by have:=Option.some.inj e;have:=za N1;omega))).low (by have:=za SZ;omega)
structure Pq where
 po:Po
 ta:Option Addr
 tc:Nat
def Pq.pr (x:Pq):Pr:=⟨x.po.nm,x.ta,x.po.ts.length,x.tc⟩
def pqV (x:Pq):Value:=.agg #[.string x.po.nm,.slice x.ta x.po.ts.length x.tc]
structure OwnPq (base:Nat) (w:World) (sp:Option Addr) (c:Nat) (l:List Pq):Prop where
 row:zeq base w sp c (l.map Pq.pr)
 dat:∀ x∈l,zbq base w x.ta x.tc x.po.ts
theorem OwnPq.ofNil (base:Nat) (w:World):OwnPq base w none 0 []:=⟨zeq.ofNil _ _,by simp⟩
theorem OwnPq.later {base:Nat} {w w':World} {sp:Option Addr} {c:Nat} {l:List Pq} (h:OwnPq base w sp c l) (hb:Below w.heap.size w w'):OwnPq base w' sp c l:=⟨zay h.row hb,fun x hx=>zay (h.dat x hx) hb⟩
theorem OwnPq.other {base:Nat} {w w':World} {sp:Option Addr} {c r:Nat} {l:List Pq} {cs:Array Value} {T:TypeId} {fr:Nat×Nat} (h:OwnPq base w sp c l) (hg:w.grownBy w' (some r)) (hr:w.heap[r]? = some (.cells cs T fr)) (h1:T≠54) (h2:T≠70):OwnPq base w' sp c l:=⟨zcq h.row hg hr h1,fun x hx=>zcq (h.dat x hx) hg hr h2⟩
theorem OwnPq.low {base base':Nat} {w:World} {sp:Option Addr} {c:Nat} {l:List Pq} (h:OwnPq base w sp c l) (hb:base'≤base):OwnPq base' w sp c l:=⟨⟨h.row.1,h.row.2.imp id (fun ⟨g,cap,cur,h1,h2,h3⟩=>⟨g,cap,cur,h1,Nat.le_trans hb h2,h3⟩)⟩,fun x hx=>(h.dat x hx).low hb⟩
theorem zer.low {base base':Nat} {w:World} {sp:Option Addr} {c:Nat} {l:List Rt} (h:zer base w sp c l) (hb:base'≤base):zer base' w sp c l:=⟨h.1,h.2.imp id (fun ⟨g,cap,cur,h1,h2,h3⟩=>⟨g,cap,cur,h1,Nat.le_trans hb h2,h3⟩)⟩
theorem OwnPq.push {base:Nat} {w w':World} {sp sp':Option Addr} {c c':Nat} {l:List Pq} (h:OwnPq base w sp c l) (x:Pq) (hx:zbq base w x.ta x.tc x.po.ts) (hn:zeq base w' sp' c' (l.map Pq.pr++[x.pr])) (hg:w.grownBy w' (blk sp)):OwnPq base w' sp' c' (l++[x]):=by
 have keep:∀ ta tc (ts:List Tg),zbq base w ta tc ts→zbq base w' ta tc ts:=fun ta tc ts ho=>by
  cases hb:blk sp with
  |none =>
   rw[hb] at hg;exact zay ho ⟨hg.os,hg.tape,hg.output,hg.size,fun g hgl=>hg.block g hgl (by simp)⟩
  |some r =>
   rw[hb] at hg;obtain⟨_,cur,hr⟩:=zdf h.row hb;exact zcq ho hg hr (by decide)
 refine⟨by rw[List.map_append];exact hn,fun y hy=>?_⟩;rcases List.mem_append.1 hy with hy|hy
 ·exact keep _ _ _ (h.dat y hy)
 ·obtain rfl:y=x:=by simpa using hy
  exact keep _ _ _ hx
theorem OwnPq.below {base:Nat} {w w':World} {sp:Option Addr} {c:Nat} {l:List Pq} (h:OwnPq base w sp c l) (hg:w.grownBy w' (blk sp)) (hbase:base≤w.heap.size):Below base w w':=by
 cases hb:blk sp with
 |none=>rw[hb] at hg;exact⟨hg.os,hg.tape,hg.output,hg.size,fun g hgl=>hg.block g (Nat.lt_of_lt_of_le hgl hbase) (by simp)⟩
 |some r =>
  rw[hb] at hg;have:=(zdf h.row hb).1;exact⟨hg.os,hg.tape,hg.output,hg.size,fun g hgl=>hg.block g (Nat.lt_of_lt_of_le hgl hbase) (by intro e;have:=Option.some.inj e;omega)⟩
theorem zrb (l:List Pq) (i:Nat) (hi:i<l.length) (f:Nat) (hf:f<2):(zdh (l.map Pq.pr))[i*2+f]? = (zfm l[i].pr)[f]?:=by
 rw[zfh (l.map Pq.pr) i f (by simpa using hi) hf];simp
theorem OwnPq.at_ {base:Nat} {w:World} {sp:Option Addr} {c:Nat} {l:List Pq} (h:OwnPq base w sp c l) (hl:∀ x∈l,(∀ t∈x.po.ts,t.2<18446744073709551616)∧x.po.ts.length≤maxLen):PosAt w sp (l.map (·.po))∧l.length≤c:=by
 rcases h.row.2 with⟨hv,h0⟩|⟨g,cap,cur,hv,hb,hg,hle,hmx,hsz,ht⟩
 ·simp only[List.length_map] at h0;refine⟨⟨fun i hi=>?_⟩,by omega⟩;simp only[List.length_map] at hi;omega
 ·simp only[Value.slice.injEq] at hv;obtain⟨rfl,_,rfl⟩:=hv;simp only[List.length_map] at hle ht;have one:∀ i (hi:i<l.length) f,f<2→w.cell? ⟨g,0+i*2+f,none⟩=(zfm l[i].pr)[f]?:=fun i hi f hf=>by
   have hk:=zrb l i hi f hf;rw[Nat.zero_add,cell_of_row w g _ cur _ _ hg,← Array.getElem?_toList];have hj:i*2+f<l.length*2:=by omega
   rw[← ht,List.getElem?_take,if_pos hj] at hk;exact hk
  refine⟨⟨fun i hi=>?_⟩,hle⟩;have hi':i<l.length:=by simpa using hi
  have e:(l.map (·.po))[i]=l[i].po:=by simp
  rw[e];have hm:=List.getElem_mem hi';have ho:=h.dat _ hm;exact⟨g,0,l[i].ta,l[i].tc,rfl,one i hi' 0 (by omega),one i hi' 1 (by omega),ho.at_ (hl _ hm).1,⟨(hl _ hm).2,ho.cap.1⟩,ho.cap.2⟩
theorem zer.at_ {base:Nat} {w:World} {sp:Option Addr} {c:Nat} {l:List Rt} (h:zer base w sp c l) (hs:∀ r∈l,r.h.size≤maxLen∧r.p.size≤maxLen∧r.l.size≤maxLen):RtsAt w sp l∧l.length≤c∧(sp=none→c=0):=by
 cases sp with
 |some a =>
  rcases h.2 with⟨hv,h0⟩|⟨g,cap,cur,hv,r⟩
  ·cases hv
  ·simp only[Value.slice.injEq,Option.some.injEq] at hv;obtain⟨rfl,_,rfl⟩:=hv;exact⟨(ze h hs).1,(ze h hs).2,fun e=>by cases e⟩
 |none =>
  rcases h.2 with⟨hv,h0⟩|⟨g,cap,cur,hv,r⟩
  ·simp only[Value.slice.injEq] at hv;exact⟨⟨hs,fun i hi=>by omega⟩,by omega,fun _=>hv.2.2⟩
  ·simp only[Value.slice.injEq] at hv;exact absurd hv.1 (by simp)
structure Ls where
 id:Int
 seq:Int
 e:Int
 ver:Int
def lsV (x:Ls):Value:=.agg #[.int .i64 x.seq,.int .i64 x.e,.int .i64 x.ver]
structure Sm where
 ver:Int
 ps:List Pq
 rs:List Rt
 cl:List Ls
def Sm.cf (x:Sm):Cf:=⟨x.ver,x.rs,x.ps.map Pq.po⟩
def Sm.fp (x:Sm):List (ByteArray×Value):=x.ps.map fun p=>(p.po.nm,pqV p)
def Sm.fr (x:Sm):List (Pl×Value):=x.rs.map fun r=>((r.h,r.p),zdi r)
def Sm.fc (x:Sm):List (Int×Value):=x.cl.map fun c=>(c.id,lsV c)
structure StH where
 S:Nat
 P:Nat
 R:Nat
 C:Nat
structure StAt (w:World) (h:StH) (x:Sm):Prop where
 hd:w.heap[h.S]? = some (.cells #[.int .i64 x.ver,.map (some h.P),.map (some h.R),.map (some h.C)] 79 (0,0))
 pm:MapG kxS w h.P x.fp
 rm:MapG kxP w h.R x.fr
 cm:MapG kxI w h.C x.fc
 tg:∀ p∈x.ps,TgsAt w p.ta p.po.ts
 ne:h.P≠h.R∧h.P≠h.C∧h.R≠h.C
theorem StAt.later {w w':World} {h:StH} {x:Sm} (s:StAt w h x) (hb:Below w.heap.size w w'):StAt w' h x :=
 ⟨zac hb s.hd,s.pm.later hb,s.rm.later hb,s.cm.later hb,fun p hp=>(s.tg p hp).later hb,s.ne⟩
structure SmOk (x:Sm):Prop where
 t:SmallT x.cf
 ver:-9223372036854775808≤x.ver∧x.ver≤9223372036854775807
 cn:x.cl.length≤1000
theorem StAt.cell {w:World} {h:StH} {x:Sm} (s:StAt w h x):w.cell? ⟨h.S,0,none⟩=some (.int .i64 x.ver)∧w.cell? ⟨h.S,1,none⟩=some (.map (some h.P))∧w.cell? ⟨h.S,2,none⟩=some (.map (some h.R))∧w.cell? ⟨h.S,3,none⟩=some (.map (some h.C)) :=
 ⟨zab s.hd 0 _ rfl,zab s.hd 1 _ rfl,zab s.hd 2 _ rfl,zab s.hd 3 _ rfl⟩
theorem zqr {κ α:Type} [Kord κ]:∀ {fs:List (κ×α)} (_:Kr fs) {x:κ×α} (_:x∈fs),zmk x.1 fs=some x.2:=by
 intro fs hr x hx;exact hr.get hx
def ze2 (x:Ls):List Value:=[.int .i64 x.id,.int .i64 x.seq,.int .i64 x.e,.int .i64 x.ver]
def zul (x:Ls):Value:=.agg #[.int .i64 x.id,.int .i64 x.seq,.int .i64 x.e,.int .i64 x.ver]
def zgl (l:List Ls):List Value:=l.flatMap ze2
theorem zuf:(Tryz.prog.info? 123).map (fun i=>(i.zero,i.size,i.bytes))=some (some (.agg #[.int .i64 0,.int .i64 0,.int .i64 0,.int .i64 0]),4,32):=by kernel_rfl
def zoz (base:Nat) (w:World) (sp:Option Addr) (c:Nat) (l:List Ls):Prop:=w.ownsRow base 123 4 (.slice sp l.length c) l.length (zgl l)
theorem zoz.ofNil (base:Nat) (w:World):zoz base w none 0 []:=w.ownsRow_nil base 123 4
theorem zjs (x:Ls):∀ u∈ze2 x,u.oneCell'=true:=by
 intro u hu;simp only[ze2,List.mem_cons,List.not_mem_nil,or_false] at hu;rcases hu with rfl|rfl|rfl|rfl <;> rfl
theorem zea:∀ (xs:List Ls) (i f:Nat) (hi:i<xs.length) (_:f<4),(zgl xs)[i*4+f]? = (ze2 xs[i])[f]?
 |x::r,0,f,_,hf=>by
  rw[zgl,List.flatMap_cons,List.getElem?_append_left (by simp[ze2];omega)];simp
 |x::r,i+1,f,hi,hf=>by
  rw[zgl,List.flatMap_cons,List.getElem?_append_right (by simp[ze2];omega)];have:=zea r i f (by simpa using hi) hf;rw[show(i+1)*4+f - (ze2 x).length=i*4+f by simp[ze2];omega]
  simpa [zgl] using this
theorem zoz.cell {base:Nat} {w:World} {sp:Option Addr} {c:Nat} {l:List Ls} (h:zoz base w sp c l) (i:Nat) (hi:i<l.length) :
  ∃ g,sp=some ⟨g,0,none⟩∧base≤g∧w.cell? ⟨g,i*4,none⟩=some (.int .i64 l[i].id)∧w.cell? ⟨g,i*4+1,none⟩=some (.int .i64 l[i].seq)∧w.cell? ⟨g,i*4+2,none⟩=some (.int .i64 l[i].e)∧w.cell? ⟨g,i*4+3,none⟩=some (.int .i64 l[i].ver):=by
 obtain⟨g,hs,hb,_,_,hc⟩:=ze6 h (by omega);exact⟨g,hs,hb,hc _ _ (zea l i 0 hi (by omega)),hc _ _ (zea l i 1 hi (by omega)),hc _ _ (zea l i 2 hi (by omega)),hc _ _ (zea l i 3 hi (by omega))⟩
end
end Go.Proofs.YtjcjleaicjhpeaaGreatDoor
