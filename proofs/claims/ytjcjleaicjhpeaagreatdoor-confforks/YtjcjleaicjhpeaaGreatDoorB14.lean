/- Conf: rows by keys put and dropped; what changes in a store; mayGrow. -/
import Derived.Test.YtjcjleaicjhpeaaGreatDoorB13
import Derived.Test.YtjcjleaicjhpeaaGreatDoorB02
import Derived.Test.YtjcjleaicjhpeaaGreatDoorB04
set_option linter.unusedVariables false
set_option maxRecDepth 20000
set_option maxHeartbeats 16000000
namespace Go.Proofs.YtjcjleaicjhpeaaGreatDoor
section
open Go.ChangeShapes Go.WideShapes Go.ChangeAt Go.RowKit
section
variable {κ α β γ:Type} [Kord κ]
def zbq (kf:α→κ) (a:α) (l:List α):List α:=(zgx (kf a) a (l.map fun q=>(kf q,q))).map (·.2)
def zdd (kf:α→κ) (k:κ) (l:List α):List α:=l.filter (fun q=>decide (kf q≠k))
def zau (kf:α→κ) (k:κ) (l:List α):Option α:=zik k (l.map fun q=>(kf q,q))
theorem zb7 (kf:α→κ) (a b:α) (l:List α):zbq kf a (b::l)=if Kord.lt (kf b) (kf a) then b::zbq kf a l else if kf b=kf a then a::l else a::b::l:=by
 unfold zbq;simp only[List.map_cons,zgx];split
 ·rfl
 ·split <;> simp[Function.comp_def]
theorem zdg (kf:α→κ) (v:α→γ) (a:α):∀ l:List α,(zbq kf a l).map (fun q=>(kf q,v q))=zgx (kf a) (v a) (l.map fun q=>(kf q,v q))
 |[]=>rfl
 |b::l=>by
  rw[zb7,List.map_cons,zgx];split
  ·rw[List.map_cons,zdg kf v a l]
  ·split <;> rfl
theorem zgj (kf:α→κ) (g:α→β) (kf':β→κ) (hk:∀ q,kf' (g q)=kf q) (a:α):∀ l:List α,(zbq kf a l).map g=zbq kf' (g a) (l.map g)
 |[]=>rfl
 |b::l=>by
  rw[zb7,List.map_cons,zb7,hk,hk];split
  ·rw[List.map_cons,zgj kf g kf' hk a l]
  ·split <;> rfl
theorem zen (kf:α→κ) (a x:α):∀ l:List α,x∈zbq kf a l→x=a∨x∈l
 |[],h=>.inl (by simpa [zbq,zgx] using h)
 |b::l,h=>by
  rw[zb7] at h;split at h
  ·rcases List.mem_cons.1 h with rfl|h
   ·exact .inr (List.mem_cons_self ..)
   ·rcases zen kf a x l h with h|h
    ·exact .inl h
    ·exact .inr (List.mem_cons_of_mem _ h)
  ·split at h
   ·rcases List.mem_cons.1 h with rfl|h
    ·exact .inl rfl
    ·exact .inr (List.mem_cons_of_mem _ h)
   ·rcases List.mem_cons.1 h with rfl|h
    ·exact .inl rfl
    ·exact .inr h
theorem zh8 (kf:α→κ) (a:α):∀ l:List α,(zbq kf a l).length≤l.length+1
 |[]=>by simp[zbq,zgx]
 |b::l=>by
  rw[zb7];split
  ·have:=zh8 kf a l;simp;omega
  ·split <;> simp
theorem zde (kf:α→κ) (v:α→γ) (k:κ):∀ l:List α,(zdd kf k l).map (fun q=>(kf q,v q))=zl8 k (l.map fun q=>(kf q,v q))
 |[]=>rfl
 |b::l=>by
  have ih:=zde kf v k l;unfold zdd zl8 at *;rw[List.map_cons,List.filter_cons,List.filter_cons];simp only;split
  ·rw[List.map_cons,ih]
  ·exact ih
theorem zh4 (kf:α→κ) (g:α→β) (kf':β→κ) (hk:∀ q,kf' (g q)=kf q) (k:κ):∀ l:List α,(zdd kf k l).map g=zdd kf' k (l.map g)
 |[]=>rfl
 |b::l=>by
  have ih:=zh4 kf g kf' hk k l;unfold zdd at *;rw[List.map_cons,List.filter_cons,List.filter_cons,hk];split
  ·rw[List.map_cons,ih]
  ·exact ih
theorem zdf (kf:α→κ) (v:α→γ) (k:κ):∀ l:List α,zik k (l.map fun q=>(kf q,v q))=(zau kf k l).map v
 |[]=>rfl
 |b::l=>by
  have ih:=zdf kf v k l;unfold zau at *;simp only[List.map_cons,zik];split
  ·rfl
  ·exact ih
theorem zh6 (kf:α→κ) (g:α→β) (kf':β→κ) (hk:∀ q,kf' (g q)=kf q) (k:κ):∀ l:List α,zau kf' k (l.map g)=(zau kf k l).map g
 |[]=>rfl
 |b::l=>by
  have ih:=zh6 kf g kf' hk k l;unfold zau at *;simp only[List.map_cons,zik,hk];split
  ·rfl
  ·exact ih
theorem zh7 (kf:α→κ) (k:κ) (x:α) (l:List α) (h:zau kf k l=some x):x∈l∧kf x=k:=by
 obtain⟨y,hy,e⟩:=List.mem_map.1 (zgh h);simp only[Prod.mk.injEq] at e;exact⟨e.2 ▸ hy,e.2 ▸ e.1⟩
end
def pnm (p:Po):ByteArray:=p.nm
def qnm (p:Pq):ByteArray:=p.po.nm
def rpl (r:Rt):Pl:=(r.h,r.p)
def lid (c:Ls):Int:=c.id
structure Chg (h:StH) (w w':World):Prop where
 os:w'.os=w.os
 tape:w'.tape=w.tape
 output:w'.output=w.output
 size:w.heap.size≤w'.heap.size
 block:∀ g,g<w.heap.size→g≠h.S→g≠h.P→g≠h.R→g≠h.C→w'.heap[g]? = w.heap[g]?
theorem Chg.trans {h:StH} {w w1 w2:World} (a:Chg h w w1) (b:Chg h w1 w2):Chg h w w2 :=
 ⟨b.os.trans a.os,b.tape.trans a.tape,b.output.trans a.output,Nat.le_trans a.size b.size,fun g hg h1 h2 h3 h4=>(b.block g (Nat.lt_of_lt_of_le hg a.size) h1 h2 h3 h4).trans (a.block g hg h1 h2 h3 h4)⟩
theorem Chg.below {h:StH} {w w':World} (b:Below w.heap.size w w'):Chg h w w':=⟨b.os,b.tape,b.output,b.size,fun g hg _ _ _ _=>b.block g hg⟩
theorem Chg.grown {h:StH} {w w':World} {r:Nat} (b:w.grownBy w' (some r)) (hr:r=h.S∨r=h.P∨r=h.R∨r=h.C):Chg h w w':=⟨b.os,b.tape,b.output,b.size,fun g hg h1 h2 h3 h4=>b.block g hg (fun e=>by have:=Option.some.inj e;subst this;rcases hr with e|e|e|e <;> contradiction)⟩
theorem zgq (e:Cf) (h:SmallT e):(zaq e).length≤110000000000:=by
 have h1:=zb6 zav 101001420 e.ps (fun p hp=>zec p (h.ps p hp));have h2:=zb6 zao 3000018 e.rs (fun r hr=>zcv r (h.rs r hr));have h3:=zan e.ps.length (by have:=h.pn;omega);have h4:=zan e.rs.length (by have:=h.rn;omega);have h5:101001420*e.ps.length≤101001420*1000:=Nat.mul_le_mul_left _ h.pn;have h6:3000018*e.rs.length≤3000018*1000:=Nat.mul_le_mul_left _ h.rn;unfold zaq;simp only[List.length_append];omega
theorem zbt {w:World} {h:StH} {x:Sm} (s:StAt w h x) (hx:SmOk x) (n:Int) (hn:-1000000000≤n∧n≤1000000000) :
  Calls Tryz.prog 168 #[.pointer (some ⟨h.S,0,none⟩),.int .i64 n] w fun e w'=>e=.returned (.bool (decide (((zaq x.cf).length:Int)+n≤12000)))∧Below w.heap.size w w':=by
 have CC:=zaa (zc3 s hx);have hl:=zgq x.cf hx.t;obtain⟨hn1,hn2⟩:=hn;go_enter Tryz.func168,Tryz.ntmps168
 go_wp2_with fail
 refine(za CC).mono ?_;rintro e V ⟨k,rfl,hC,hb,_,_⟩;have HB:=zaa hb;have AC:=zaa (zgl V.heap.size hC hx.t (Below.refl _ _) (Nat.le_refl _) (sp:=none) (n0:=0) (c:=0) (l:=[]) rfl (OwnB.ofNil _ _) (by simp) (Nat.le_refl _));clear hC hb CC
 go_wp2_with fail
 refine(za AC).mono ?_;rintro e U ⟨s1,n1,c1,rfl,hn3,ho,hg⟩;rw[List.nil_append] at hn3 ho;have hw:=zaa ((za HB).trans ((hg.below (OwnB.ofNil _ _) (Nat.le_refl _)).mono (za HB).size));have hn4:=za hn3;subst hn4;clear ho hg AC hn3
 go_wp2
 go_ret
 exact⟨by first|rfl|simp,za hw⟩
def sm0:Sm:=⟨0,[],[],[]⟩
theorem zor:SmOk sm0:=⟨⟨by simp[sm0,Sm.cf],by simp[sm0,Sm.cf],by simp[sm0,Sm.cf],by simp[sm0,Sm.cf]⟩,by simp[sm0],by simp[sm0]⟩
theorem zhh (w:World):Calls Tryz.prog 31 #[] w fun e w'=>∃ h,e=.returned (.pointer (some ⟨h.S,0,none⟩))∧StAt w' h sm0∧Below w.heap.size w w'∧w.heap.size≤h.S∧w.heap.size≤h.P∧w.heap.size≤h.R∧w.heap.size≤h.C:=by
 have m1:=MapG.made kxS w;have b1:Below w.heap.size w (w.alloc (.map #[] 0)):=(Below.refl _ _).alloc (Nat.le_refl _) _;have z1:(w.alloc (.map #[] 0)).heap.size=w.heap.size+1:=by simp
 generalize hW1:w.alloc (.map #[] 0)=W1 at *;have m2:=MapG.made kxP W1;have b2:Below W1.heap.size W1 (W1.alloc (.map #[] 0)):=(Below.refl _ _).alloc (Nat.le_refl _) _;have z2:(W1.alloc (.map #[] 0)).heap.size=W1.heap.size+1:=by simp
 generalize hW2:W1.alloc (.map #[] 0)=W2 at *;have m3:=MapG.made kxI W2;have b3:Below W2.heap.size W2 (W2.alloc (.map #[] 0)):=(Below.refl _ _).alloc (Nat.le_refl _) _;have z3:(W2.alloc (.map #[] 0)).heap.size=W2.heap.size+1:=by simp
 generalize hW3:W2.alloc (.map #[] 0)=W3 at *;have x4:=zad W3 (.cells #[.int .i64 0,.map (some w.heap.size),.map (some W1.heap.size),.map (some W2.heap.size)] 79);have b4:Below W3.heap.size W3 (W3.alloc (.cells #[.int .i64 0,.map (some w.heap.size),.map (some W1.heap.size),.map (some W2.heap.size)] 79)):=(Below.refl _ _).alloc (Nat.le_refl _) _
 have FIN:=zaa (show ∃ h:StH,(Value.pointer (some ⟨W3.heap.size,0,none⟩)=.pointer (some ⟨h.S,0,none⟩))∧StAt (W3.alloc (.cells #[.int .i64 0,.map (some w.heap.size),.map (some W1.heap.size),.map (some W2.heap.size)] 79)) h sm0∧Below w.heap.size w (W3.alloc (.cells #[.int .i64 0,.map (some w.heap.size),.map (some W1.heap.size),.map (some W2.heap.size)] 79))∧w.heap.size≤h.S∧w.heap.size≤h.P∧w.heap.size≤h.R∧w.heap.size≤h.C from
  ⟨⟨W3.heap.size,w.heap.size,W1.heap.size,W2.heap.size⟩,rfl,⟨x4,((m1.later b2).later b3).later b4,(m2.later b3).later b4,m3.later b4,by simp[sm0],by simp only;omega⟩,((b1.trans (b2.mono (by omega))).trans (b3.mono (by omega))).trans (b4.mono (by omega)),by simp only;omega,by simp only;omega,by simp only;omega,by simp only;omega⟩)
 clear m1 m2 m3 b1 b2 b3 b4 x4;have hmk:=@run_makeMap Tryz.prog;clear z1 z2 z3;go_enter Tryz.func31,Tryz.ntmps31
 go_wp2
 go_ret
 obtain⟨h,e,r⟩:=za FIN;exact⟨h,congrArg Ending.returned e,r⟩
theorem zmh {w:World} {ops:Array Oper} {o:Oper} {a:Act} {K:Act→World→Prop} {Q:Exit→Act→World→Prop} {E0:Prop} (hgd:o.guard=none) (ho:o.op=.alloc 54)
  (h:∀ C w',w.heap.size=C→w'.heap[C]? = some (.cells #[.string ⟨#[]⟩,.slice none 0 0] 54 (0,0))→Below w.heap.size w w'→K (a.put o.dst (.pointer (some ⟨C,0,none⟩))) w') :
  if Region.wanted o (yielded ops a.tmps)=true then Oper.wp Tryz.prog o a w K Q else E0:=by
 have hw:Region.wanted o (yielded ops a.tmps)=true:=by simp[Region.wanted,hgd]
 rw[if_pos hw];have h1:=h w.heap.size (w.alloc (.cells #[.string ⟨#[]⟩,.slice none 0 0] 54)) rfl (zad w _) ((Below.refl _ _).alloc (Nat.le_refl _) _);unfold Oper.wp;simp[execOp,ho,go_sem];exact h1
theorem zk {w:World} {ops:Array Oper} {o:Oper} {a:Act} {K:Act→World→Prop} {Q:Exit→Act→World→Prop} {E0:Prop} (hgd:o.guard=none) (ho:o.op=.alloc 56)
  (h:∀ C w',w.heap.size=C→w'.heap[C]? = some (.cells #[.string ⟨#[]⟩,.string ⟨#[]⟩,.string ⟨#[]⟩] 56 (0,0))→Below w.heap.size w w'→K (a.put o.dst (.pointer (some ⟨C,0,none⟩))) w') :
  if Region.wanted o (yielded ops a.tmps)=true then Oper.wp Tryz.prog o a w K Q else E0:=by
 have hw:Region.wanted o (yielded ops a.tmps)=true:=by simp[Region.wanted,hgd]
 rw[if_pos hw];have h1:=h w.heap.size (w.alloc (.cells #[.string ⟨#[]⟩,.string ⟨#[]⟩,.string ⟨#[]⟩] 56)) rfl (zad w _) ((Below.refl _ _).alloc (Nat.le_refl _) _);unfold Oper.wp;simp[execOp,ho,go_sem];exact h1
theorem zj9 {w:World} {ops:Array Oper} {o:Oper} {a:Act} {K:Act→World→Prop} {Q:Exit→Act→World→Prop} {E0:Prop} (hgd:o.guard=none) (ho:o.op=.alloc 74)
  (h:∀ C w',w.heap.size=C→w'.heap[C]? = some (.cells #[.int .i64 0,.int .i64 0,.int .i64 0] 74 (0,0))→Below w.heap.size w w'→K (a.put o.dst (.pointer (some ⟨C,0,none⟩))) w') :
  if Region.wanted o (yielded ops a.tmps)=true then Oper.wp Tryz.prog o a w K Q else E0:=by
 have hw:Region.wanted o (yielded ops a.tmps)=true:=by simp[Region.wanted,hgd]
 rw[if_pos hw];have h1:=h w.heap.size (w.alloc (.cells #[.int .i64 0,.int .i64 0,.int .i64 0] 74)) rfl (zad w _) ((Below.refl _ _).alloc (Nat.le_refl _) _);unfold Oper.wp;simp[execOp,ho,go_sem];exact h1
theorem zm4 {w:World} {g:Nat} {a b x y:Value} {T:TypeId} (h:w.heap[g]? = some (.cells #[a,b] T (0,0))):((w.setCell ⟨g,0,none⟩ x).setCell ⟨g,1,none⟩ y).heap[g]? = some (.cells #[x,y] T (0,0))∧w.grownBy ((w.setCell ⟨g,0,none⟩ x).setCell ⟨g,1,none⟩ y) (some g):=by
 have h1:=heap_setCell_same w g 0 #[a,b] T x h;have h2:=heap_setCell_same _ g 1 _ T y h1;exact⟨h2,(zag w g 0 x).trans (zag _ g 1 y)⟩
def zbd (p:Pl) (x:Sm):Int×Sm:=match zau rpl p x.rs with
 |none=>(8,x)
 |some _=>(0,{ x with rs:=zdd rpl p x.rs })
theorem zom {w:World} {h:StH} {x:Sm} (s:StAt w h x) (p:Pl) (hp:p.1.size≤maxLen∧p.2.size≤maxLen):(Instr.lookup 76 (.map (some h.R)) (.agg #[.string p.1,.string p.2]) true).run Tryz.prog w=.ok (.tuple #[zcx ((zau rpl p x.rs).getD rt0),.bool (zau rpl p x.rs).isSome]) w:=by
 have e:=zdf rpl zcx p x.rs;cases hg:zau rpl p x.rs with
 |none =>
  rw[hg] at e;exact(s.rm.look_no zi0 (zg7 w) (k:=p) hp e).1
 |some v =>
  rw[hg] at e;exact(s.rm.look_yes zi0 (zg7 w) (k:=p) (v:=zcx v) e).1
theorem znu {w:World} {h:StH} {x:Sm} (s:StAt w h x) (p:ByteArray) (hp:p.size≤maxLen):(Instr.lookup 75 (.map (some h.P)) (.string p) true).run Tryz.prog w=.ok (.tuple #[pqV ((zau qnm p x.ps).getD ⟨⟨⟨#[]⟩,[]⟩,none,0⟩),.bool (zau qnm p x.ps).isSome]) w:=by
 have e:=zdf qnm pqV p x.ps;cases hg:zau qnm p x.ps with
 |none =>
  rw[hg] at e;exact(s.pm.look_no zju (zij w) (k:=p) hp e).1
 |some v =>
  rw[hg] at e;exact(s.pm.look_yes zju (zij w) (k:=p) (v:=pqV v) e).1
theorem znt {w:World} {h:StH} {x:Sm} (s:StAt w h x) (p:Int) (hp:-9223372036854775808≤p∧p≤9223372036854775807):(Instr.lookup 77 (.map (some h.C)) (.int .i64 p) false).run Tryz.prog w=.ok (lsV ((zau lid p x.cl).getD ⟨p,0,0,0⟩)) w:=by
 have e:=zdf lid lsV p x.cl;cases hg:zau lid p x.cl with
 |none =>
  rw[hg] at e
  exact(s.cm.look_no znw (zky w) (k:=p) (show(Lit.int .i64 p).wf=true by
   have h1:IntKind.min .i64=-9223372036854775808:=by decide
   have h2:IntKind.max .i64=9223372036854775807:=by decide
   simp only[Lit.wf,h1,h2,Bool.and_eq_true,decide_eq_true_eq]
   exact hp) e).2
 |some v =>
  rw[hg] at e;exact(s.cm.look_yes znw (zky w) (k:=p) (v:=lsV v) e).2
theorem StAt.apart {w:World} {h:StH} {x:Sm} (s:StAt w h x):h.S≠h.P∧h.S≠h.R∧h.S≠h.C:=by
 have hd:=s.hd;refine⟨fun e=>?_,fun e=>?_,fun e=>?_⟩
 ·obtain⟨es,k,hb⟩:=s.pm.isMap;rw[← e,hd] at hb;cases hb
 ·obtain⟨es,k,hb⟩:=s.rm.isMap;rw[← e,hd] at hb;cases hb
 ·obtain⟨es,k,hb⟩:=s.cm.isMap;rw[← e,hd] at hb;cases hb
theorem StAt.noText {w:World} {h:StH} {x:Sm} (s:StAt w h x) {b k:Nat} {t:ByteArray} (hc:w.cell? ⟨b,k,none⟩=some (.string t)):b<w.heap.size∧b≠h.S∧b≠h.P∧b≠h.R∧b≠h.C:=by
 have nomap:∀ g es q,w.heap[g]? = some (.map es q)→b≠g:=fun g es q hg e=>by
  subst e;simp[World.cell?,hg] at hc
 refine⟨?_,fun e=>?_,?_,?_,?_⟩
 ·rcases Nat.lt_or_ge b w.heap.size with hb|hb
  ·exact hb
  ·have:w.heap[b]? = none:=Array.getElem?_eq_none hb;simp[World.cell?,this] at hc
 ·subst e;rw[cell_of_row _ _ _ _ _ _ s.hd] at hc
  match k with
  |0=>simp at hc
  |1=>simp at hc
  |2=>simp at hc
  |3=>simp at hc
  |_+4=>simp at hc
 ·obtain⟨es,q,hg⟩:=s.pm.isMap;exact nomap _ _ _ hg
 ·obtain⟨es,q,hg⟩:=s.rm.isMap;exact nomap _ _ _ hg
 ·obtain⟨es,q,hg⟩:=s.cm.isMap;exact nomap _ _ _ hg
theorem StAt.tgsC {w w':World} {h:StH} {x:Sm} (s:StAt w h x) (c:Chg h w w') {a:Option Addr} {l:List Tgt} (t:TgsAt w a l):TgsAt w' a l:=by
 refine⟨t.lt,fun i hi=>?_⟩;obtain⟨b,off,e,h1,h2⟩:=t.cell i hi;obtain⟨g0,g1,g2,g3,g4⟩:=s.noText h1;have hk:=c.block b g0 g1 g2 g3 g4;exact⟨b,off,e,(World.cell?_of_block hk).trans h1,(World.cell?_of_block hk).trans h2⟩
theorem StAt.withR {w w':World} {h:StH} {x:Sm} (s:StAt w h x) (hg:w.grownBy w' (some h.R)) (rs:List Rt) (hm:MapG kxP w' h.R (rs.map fun r=>(rpl r,zcx r))):StAt w' h { x with rs:=rs }∧Chg h w w':=by
 have c:Chg h w w':=Chg.grown hg (.inr (.inr (.inl rfl)));obtain⟨a1,a2,a3⟩:=s.apart;obtain⟨n1,n2,n3⟩:=s.ne;have keep:∀ g,g<w.heap.size→g≠h.R→w'.heap[g]? = w.heap[g]?:=fun g hl hne=>hg.block g hl (fun e=>hne (Option.some.inj e));exact⟨⟨(keep _ (Array.getElem?_eq_some_iff.1 s.hd).1 a2).trans s.hd,s.pm.same (keep _ s.pm.lt n1),hm,s.cm.same (keep _ s.cm.lt (Ne.symm n3)),fun p hp=>s.tgsC c (s.tg p hp),s.ne⟩,c⟩
theorem StAt.withP {w w':World} {h:StH} {x:Sm} (s:StAt w h x) (hg:w.grownBy w' (some h.P)) (ps:List Pq) (hm:MapG kxS w' h.P (ps.map fun r=>(qnm r,pqV r))) (ht:∀ p∈ps,TgsAt w p.ta p.po.ts):StAt w' h { x with ps:=ps }∧Chg h w w':=by
 have c:Chg h w w':=Chg.grown hg (.inr (.inl rfl));obtain⟨a1,a2,a3⟩:=s.apart;obtain⟨n1,n2,n3⟩:=s.ne;have keep:∀ g,g<w.heap.size→g≠h.P→w'.heap[g]? = w.heap[g]?:=fun g hl hne=>hg.block g hl (fun e=>hne (Option.some.inj e));exact⟨⟨(keep _ (Array.getElem?_eq_some_iff.1 s.hd).1 a1).trans s.hd,hm,s.rm.same (keep _ s.rm.lt (Ne.symm n1)),s.cm.same (keep _ s.cm.lt (Ne.symm n2)),fun p hp=>s.tgsC c (ht p hp),s.ne⟩,c⟩
theorem StAt.withC {w w':World} {h:StH} {x:Sm} (s:StAt w h x) (hg:w.grownBy w' (some h.C)) (cl:List Ls) (hm:MapG kxI w' h.C (cl.map fun r=>(lid r,lsV r))):StAt w' h { x with cl:=cl }∧Chg h w w':=by
 have c:Chg h w w':=Chg.grown hg (.inr (.inr (.inr rfl)));obtain⟨a1,a2,a3⟩:=s.apart;obtain⟨n1,n2,n3⟩:=s.ne;have keep:∀ g,g<w.heap.size→g≠h.C→w'.heap[g]? = w.heap[g]?:=fun g hl hne=>hg.block g hl (fun e=>hne (Option.some.inj e));exact⟨⟨(keep _ (Array.getElem?_eq_some_iff.1 s.hd).1 a3).trans s.hd,s.pm.same (keep _ s.pm.lt n2),s.rm.same (keep _ s.rm.lt n3),hm,fun p hp=>s.tgsC c (s.tg p hp),s.ne⟩,c⟩
theorem StAt.withV {w:World} {h:StH} {x:Sm} (s:StAt w h x) (v:Int):StAt (w.setCell ⟨h.S,0,none⟩ (.int .i64 v)) h { x with ver:=v }∧Chg h w (w.setCell ⟨h.S,0,none⟩ (.int .i64 v)):=by
 have hg:=zag w h.S 0 (.int .i64 v);have c:Chg h w _:=Chg.grown hg (.inl rfl);obtain⟨a1,a2,a3⟩:=s.apart;have keep:∀ g,g<w.heap.size→g≠h.S→(w.setCell ⟨h.S,0,none⟩ (.int .i64 v)).heap[g]? = w.heap[g]?:=fun g hl hne=>hg.block g hl (fun e=>hne (Option.some.inj e));exact⟨⟨heap_setCell_same w h.S 0 _ 79 (.int .i64 v) s.hd,s.pm.same (keep _ s.pm.lt (Ne.symm a1)),s.rm.same (keep _ s.rm.lt (Ne.symm a2)),s.cm.same (keep _ s.cm.lt (Ne.symm a3)),fun p hp=>s.tgsC c (s.tg p hp),s.ne⟩,c⟩
theorem StAt.putR {w:World} {h:StH} {x:Sm} (s:StAt w h x) (r:Rt) (hr:r.h.size≤maxLen∧r.p.size≤maxLen) (hn:x.rs.length≤1000):∃ w',(Instr.mapUpdate 76 (.map (some h.R)) (.agg #[.string r.h,.string r.p]) (.agg #[.string r.h,.string r.p,.string r.l])).run Tryz.prog w=.ok () w'∧StAt w' h { x with rs:=zbq rpl r x.rs }∧Chg h w w':=by
 obtain⟨w',hrun,hm,hg,_⟩:=s.rm.store zi0 (k:=rpl r) hr (zcx r) (by rw[Sm.fr_length];exact hn);exact⟨w',hrun,s.withR hg _ (by rw[zdg];exact hm)⟩
theorem StAt.delR {w:World} {h:StH} {x:Sm} (s:StAt w h x) (p:Pl) (hp:p.1.size≤maxLen∧p.2.size≤maxLen):∃ w',(∀ ty,(Builtin.delete_ #[76,89] ty #[.map (some h.R),.agg #[.string p.1,.string p.2]]).run Tryz.prog w=.ok (.tuple #[]) w')∧StAt w' h { x with rs:=zdd rpl p x.rs }∧Chg h w w':=by
 obtain⟨w',hrun,hm,hg,_⟩:=s.rm.drop zi0 (k:=p) hp 0;exact⟨w',fun ty=>hrun,s.withR hg _ (by rw[zde];exact hm)⟩
theorem StAt.putP {w:World} {h:StH} {x:Sm} (s:StAt w h x) (q:Pq) (hq:q.po.nm.size≤maxLen) (ht:TgsAt w q.ta q.po.ts) (hn:x.ps.length≤1000):∃ w',(Instr.mapUpdate 75 (.map (some h.P)) (.string q.po.nm) (.agg #[.string q.po.nm,.slice q.ta q.po.ts.length q.tc])).run Tryz.prog w=.ok () w'∧StAt w' h { x with ps:=zbq qnm q x.ps }∧Chg h w w':=by
 obtain⟨w',hrun,hm,hg,_⟩:=s.pm.store zju (k:=qnm q) hq (pqV q) (by rw[Sm.fp_length];exact hn)
 exact⟨w',hrun,s.withP hg _ (by rw[zdg];exact hm) (fun p hp=>by
  rcases zen _ _ _ _ hp with rfl|hp
  ·exact ht
  ·exact s.tg p hp)⟩
theorem StAt.delP {w:World} {h:StH} {x:Sm} (s:StAt w h x) (p:ByteArray) (hp:p.size≤maxLen):∃ w',(∀ ty,(Builtin.delete_ #[75,9] ty #[.map (some h.P),.string p]).run Tryz.prog w=.ok (.tuple #[]) w')∧StAt w' h { x with ps:=zdd qnm p x.ps }∧Chg h w w':=by
 obtain⟨w',hrun,hm,hg,_⟩:=s.pm.drop zju (k:=p) hp 0;exact⟨w',fun ty=>hrun,s.withP hg _ (by rw[zde];exact hm) (fun q hq=>s.tg q (List.mem_filter.1 hq).1)⟩
theorem StAt.putC {w:World} {h:StH} {x:Sm} (s:StAt w h x) (c:Ls) (hc:-9223372036854775808≤c.id∧c.id≤9223372036854775807) (hn:x.cl.length≤1000):∃ w',(Instr.mapUpdate 77 (.map (some h.C)) (.int .i64 c.id) (.agg #[.int .i64 c.seq,.int .i64 c.e,.int .i64 c.ver])).run Tryz.prog w=.ok () w'∧StAt w' h { x with cl:=zbq lid c x.cl }∧Chg h w w':=by
 obtain⟨w',hrun,hm,hg,_⟩:=s.cm.store znw (k:=lid c) (show(Lit.int .i64 c.id).wf=true by
   have h1:IntKind.min .i64=-9223372036854775808:=by decide
   have h2:IntKind.max .i64=9223372036854775807:=by decide
   simp only[Lit.wf,h1,h2,Bool.and_eq_true,decide_eq_true_eq]
   exact hc) (lsV c) (by simpa [Sm.fc] using hn)
 exact⟨w',hrun,s.withC hg _ (by rw[zdg];exact hm)⟩
theorem zar {u:World} {j:Nat} {cs:Array Value} {T:TypeId} (h:u.heap[j]? = some (.cells cs T (0,0))) (i:Nat) (v:Value) (cs':Array Value) (e:cs.setIfInBounds i v=cs'):(u.setCell ⟨j,i,none⟩ v).heap[j]? = some (.cells cs' T (0,0)):=by
 rw[← e];exact heap_setCell_same u j i cs T v h
theorem zc1 {base j:Nat} {w u W:World} (h:Below base w u) (g:u.grownBy W (some j)) (hj:base≤j) (hb:base≤u.heap.size):Below base w W :=
 h.trans ⟨g.os,g.tape,g.output,g.size,fun k hk=>g.block k (by omega) (fun e=>by have:=Option.some.inj e;omega)⟩
end
end Go.Proofs.YtjcjleaicjhpeaaGreatDoor
