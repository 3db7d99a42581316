/- Conf: rows by keys put and dropped; what changes in a store; mayGrow. -/
import Derived.Test.YtjcjleaicjhpeaaGreatDoorB14
import Derived.Test.YtjcjleaicjhpeaaGreatDoorB09
import Derived.Test.YtjcjleaicjhpeaaGreatDoorB13
set_option linter.unusedVariables false
set_option maxRecDepth 20000
set_option maxHeartbeats 16000000
namespace Go.Proofs.YtjcjleaicjhpeaaGreatDoor
section
open Go.ChangeShapes Go.WideShapes Go.ChangeAt Go.RowKit
section
variable {κ α β γ:Type} [Kord κ]
def zev (kf:α→κ) (a:α) (l:List α):List α:=(zlc (kf a) a (l.map fun q=>(kf q,q))).map (·.2)
def zrs (kf:α→κ) (k:κ) (l:List α):List α:=l.filter (fun q=>decide (kf q≠k))
def za9 (kf:α→κ) (k:κ) (l:List α):Option α:=zmk k (l.map fun q=>(kf q,q))
theorem zgb (kf:α→κ) (a b:α) (l:List α):zev kf a (b::l)=if Kord.lt (kf b) (kf a) then b::zev kf a l else if kf b=kf a then a::l else a::b::l:=by
 unfold zev;simp only[List.map_cons,zlc];split
 ·rfl
 ·split <;> simp[Function.comp_def]
theorem zfe (kf:α→κ) (v:α→γ) (a:α):∀ l:List α,(zev kf a l).map (fun q=>(kf q,v q))=zlc (kf a) (v a) (l.map fun q=>(kf q,v q))
 |[]=>rfl
 |b::l=>by
  rw[zgb,List.map_cons,zlc];split
  ·rw[List.map_cons,zfe kf v a l]
  ·split <;> rfl
theorem zoc (kf:α→κ) (a x:α):∀ l:List α,x∈zev kf a l→x=a∨x∈l
 |[],h=>.inl (by simpa [zev,zlc] using h)
 |b::l,h=>by
  rw[zgb] at h;split at h
  ·rcases List.mem_cons.1 h with rfl|h
   ·exact .inr (List.mem_cons_self ..)
   ·rcases zoc kf a x l h with h|h
    ·exact .inl h
    ·exact .inr (List.mem_cons_of_mem _ h)
  ·split at h
   ·rcases List.mem_cons.1 h with rfl|h
    ·exact .inl rfl
    ·exact .inr (List.mem_cons_of_mem _ h)
   ·rcases List.mem_cons.1 h with rfl|h
    ·exact .inl rfl
    ·exact .inr h
theorem zqy (kf:α→κ) (a:α):∀ l:List α,(zev kf a l).length≤l.length+1
 |[]=>by simp[zev,zlc]
 |b::l=>by
  rw[zgb];split
  ·have:=zqy kf a l;simp;omega
  ·split <;> simp
theorem zg1 (kf:α→κ) (v:α→γ) (k:κ):∀ l:List α,(zrs kf k l).map (fun q=>(kf q,v q))=zrr k (l.map fun q=>(kf q,v q))
 |[]=>rfl
 |b::l=>by
  have ih:=zg1 kf v k l;unfold zrs zrr at *;rw[List.map_cons,List.filter_cons,List.filter_cons];simp only;split
  ·rw[List.map_cons,ih]
  ·exact ih
theorem zd9 (kf:α→κ) (v:α→γ) (k:κ):∀ l:List α,zmk k (l.map fun q=>(kf q,v q))=(za9 kf k l).map v
 |[]=>rfl
 |b::l=>by
  have ih:=zd9 kf v k l;unfold za9 at *;simp only[List.map_cons,zmk];split
  ·rfl
  ·exact ih
theorem zke (kf:α→κ) (g:α→β) (kf':β→κ) (hk:∀ q,kf' (g q)=kf q) (k:κ):∀ l:List α,za9 kf' k (l.map g)=(za9 kf k l).map g
 |[]=>rfl
 |b::l=>by
  have ih:=zke kf g kf' hk k l;unfold za9 at *;simp only[List.map_cons,zmk,hk];split
  ·rfl
  ·exact ih
theorem zoa (kf:α→κ) (k:κ) (x:α) (l:List α) (h:za9 kf k l=some x):x∈l∧kf x=k:=by
 obtain⟨y,hy,e⟩:=List.mem_map.1 (zht h);simp only[Prod.mk.injEq] at e;exact⟨e.2 ▸ hy,e.2 ▸ e.1⟩
end
def pnm (p:Po):ByteArray:=p.nm
def qnm (p:Pq):ByteArray:=p.po.nm
def rpl (r:Rt):Pl:=(r.h,r.p)
def lid (c:Ls):Int:=c.id
structure Chg (h:StH) (w w':World):Prop where
 os:w'.os=w.os
 tape:w'.tape=w.tape
 output:w'.output=w.output
 size:w.heap.size≤w'.heap.size
 block:∀ g,g<w.heap.size→g≠h.S→g≠h.P→g≠h.R→g≠h.C→w'.heap[g]? = w.heap[g]?
theorem Chg.trans {h:StH} {w w1 w2:World} (a:Chg h w w1) (b:Chg h w1 w2):Chg h w w2 :=
 ⟨b.os.trans a.os,b.tape.trans a.tape,b.output.trans a.output,Nat.le_trans a.size b.size,fun g hg h1 h2 h3 h4=>(b.block g (Nat.lt_of_lt_of_le hg a.size) h1 h2 h3 h4).trans (a.block g hg h1 h2 h3 h4)⟩
theorem Chg.below {h:StH} {w w':World} (b:Below w.heap.size w w'):Chg h w w':=⟨b.os,b.tape,b.output,b.size,fun g hg _ _ _ _=>b.block g hg⟩
theorem Chg.grown {h:StH} {w w':World} {r:Nat} (b:w.grownBy w' (some r)) (hr:r=h.S∨r=h.P∨r=h.R∨r=h.C):Chg h w w':=⟨b.os,b.tape,b.output,b.size,fun g hg h1 h2 h3 h4=>b.block g hg (fun e=>by have:=Option.some.inj e;subst this;rcases hr with e|e|e|e <;> contradiction)⟩
theorem zh8 (e:Cf) (h:SmallT e):(zav e).length≤110000000000:=by
 have h1:=zcg za7 101001420 e.ps (fun p hp=>ze7 p (h.ps p hp));have h2:=zcg zaw 3000018 e.rs (fun r hr=>zc9 r (h.rs r hr));have h3:=zap e.ps.length (by have:=h.pn;omega);have h4:=zap e.rs.length (by have:=h.rn;omega);have h5:101001420*e.ps.length≤101001420*1000:=Nat.mul_le_mul_left _ h.pn;have h6:3000018*e.rs.length≤3000018*1000:=Nat.mul_le_mul_left _ h.rn;unfold zav;simp only[List.length_append];omega
theorem zbz {w:World} {h:StH} {x:Sm} (s:StAt w h x) (hx:SmOk x) (n:Int) (hn:-1000000000≤n∧n≤1000000000) :
  Calls Tryz.prog 168 #[.pointer (some ⟨h.S,0,none⟩),.int .i64 n] w fun e w'=>e=.returned (.bool (decide (((zav x.cf).length:Int)+n≤12000)))∧Below w.heap.size w w':=by
 have CC:=zaa (zdn s hx);have hl:=zh8 x.cf hx.t;obtain⟨hn1,hn2⟩:=hn;go_enter Tryz.func168,Tryz.ntmps168
 go_wp2_with fail
 refine(za CC).mono ?_;rintro e V ⟨k,rfl,hC,hb,_,_⟩;have HB:=zaa hb;have AC:=zaa (zhz V.heap.size hC hx.t (Below.refl _ _) (Nat.le_refl _) (sp:=none) (n0:=0) (c:=0) (l:=[]) rfl (OwnB.ofNil _ _) (by simp) (Nat.le_refl _));clear hC hb CC
 go_wp2_with fail
 refine(za AC).mono ?_;rintro e U ⟨s1,n1,c1,rfl,hn3,ho,hg⟩;rw[List.nil_append] at hn3 ho;have hw:=zaa ((za HB).trans ((hg.below (OwnB.ofNil _ _) (Nat.le_refl _)).mono (za HB).size));have hn4:=za hn3;subst hn4;clear ho hg AC hn3
 go_wp2
 go_ret
 exact⟨by first|rfl|simp,za hw⟩
def sm0:Sm:=⟨0,[],[],[]⟩
theorem zux:SmOk sm0:=⟨⟨by simp[sm0,Sm.cf],by simp[sm0,Sm.cf],by simp[sm0,Sm.cf],by simp[sm0,Sm.cf]⟩,by simp[sm0],by simp[sm0]⟩
theorem zju (w:World):Calls Tryz.prog 31 #[] w fun e w'=>∃ h,e=.returned (.pointer (some ⟨h.S,0,none⟩))∧StAt w' h sm0∧Below w.heap.size w w'∧w.heap.size≤h.S∧w.heap.size≤h.P∧w.heap.size≤h.R∧w.heap.size≤h.C:=by
 have m1:=MapG.made kxS w;have b1:Below w.heap.size w (w.alloc (.map #[] 0)):=(Below.refl _ _).alloc (Nat.le_refl _) _;have z1:(w.alloc (.map #[] 0)).heap.size=w.heap.size+1:=by simp
 generalize hW1:w.alloc (.map #[] 0)=W1 at *;have m2:=MapG.made kxP W1;have b2:Below W1.heap.size W1 (W1.alloc (.map #[] 0)):=(Below.refl _ _).alloc (Nat.le_refl _) _;have z2:(W1.alloc (.map #[] 0)).heap.size=W1.heap.size+1:=by simp
 generalize hW2:W1.alloc (.map #[] 0)=W2 at *;have m3:=MapG.made kxI W2;have b3:Below W2.heap.size W2 (W2.alloc (.map #[] 0)):=(Below.refl _ _).alloc (Nat.le_refl _) _;have z3:(W2.alloc (.map #[] 0)).heap.size=W2.heap.size+1:=by simp
 generalize hW3:W2.alloc (.map #[] 0)=W3 at *;have x4:=zad W3 (.cells #[.int .i64 0,.map (some w.heap.size),.map (some W1.heap.size),.map (some W2.heap.size)] 79);have b4:Below W3.heap.size W3 (W3.alloc (.cells #[.int .i64 0,.map (some w.heap.size),.map (some W1.heap.size),.map (some W2.heap.size)] 79)):=(Below.refl _ _).alloc (Nat.le_refl _) _
 have FIN:=zaa (show ∃ h:StH,(Value.pointer (some ⟨W3.heap.size,0,none⟩)=.pointer (some ⟨h.S,0,none⟩))∧StAt (W3.alloc (.cells #[.int .i64 0,.map (some w.heap.size),.map (some W1.heap.size),.map (some W2.heap.size)] 79)) h sm0∧Below w.heap.size w (W3.alloc (.cells #[.int .i64 0,.map (some w.heap.size),.map (some W1.heap.size),.map (some W2.heap.size)] 79))∧w.heap.size≤h.S∧w.heap.size≤h.P∧w.heap.size≤h.R∧w.heap.size≤h.C from
  ⟨⟨W3.heap.size,w.heap.size,W1.heap.size,W2.heap.size⟩,rfl,⟨x4,((m1.later b2).later b3).later b4,(m2.later b3).later b4,m3.later b4,by simp[sm0],by simp only;omega⟩,((b1.trans (b2.mono (by omega))).trans (b3.mono (by omega))).trans (b4.mono (by omega)),by simp only;omega,by simp only;omega,by simp only;omega,by simp only;omega⟩)
 clear m1 m2 m3 b1 b2 b3 b4 x4;have hmk:=@run_makeMap Tryz.prog;clear z1 z2 z3;go_enter Tryz.func31,Tryz.ntmps31
 go_wp2
 go_ret
 obtain⟨h,e,r⟩:=za FIN;exact⟨h,congrArg Ending.returned e,r⟩
theorem znz {w:World} {ops:Array Oper} {o:Oper} {a:Act} {K:Act→World→Prop} {Q:Exit→Act→World→Prop} {E0:Prop} (hgd:o.guard=none) (ho:o.op=.alloc 54)
  (h:∀ C w',w.heap.size=C→w'.heap[C]? = some (.cells #[.string ⟨#[]⟩,.slice none 0 0] 54 (0,0))→Below w.heap.size w w'→K (a.put o.dst (.pointer (some ⟨C,0,none⟩))) w') :
  if Region.wanted o (yielded ops a.tmps)=true then Oper.wp Tryz.prog o a w K Q else E0:=by
 have hw:Region.wanted o (yielded ops a.tmps)=true:=by simp[Region.wanted,hgd]
 rw[if_pos hw];have h1:=h w.heap.size (w.alloc (.cells #[.string ⟨#[]⟩,.slice none 0 0] 54)) rfl (zad w _) ((Below.refl _ _).alloc (Nat.le_refl _) _);unfold Oper.wp;simp[execOp,ho,go_sem];exact h1
theorem zn0 {w:World} {ops:Array Oper} {o:Oper} {a:Act} {K:Act→World→Prop} {Q:Exit→Act→World→Prop} {E0:Prop} (hgd:o.guard=none) (ho:o.op=.alloc 56)
  (h:∀ C w',w.heap.size=C→w'.heap[C]? = some (.cells #[.string ⟨#[]⟩,.string ⟨#[]⟩,.string ⟨#[]⟩] 56 (0,0))→Below w.heap.size w w'→K (a.put o.dst (.pointer (some ⟨C,0,none⟩))) w') :
  if Region.wanted o (yielded ops a.tmps)=true then Oper.wp Tryz.prog o a w K Q else E0:=by
 have hw:Region.wanted o (yielded ops a.tmps)=true:=by simp[Region.wanted,hgd]
 rw[if_pos hw];have h1:=h w.heap.size (w.alloc (.cells #[.string ⟨#[]⟩,.string ⟨#[]⟩,.string ⟨#[]⟩] 56)) rfl (zad w _) ((Below.refl _ _).alloc (Nat.le_refl _) _);unfold Oper.wp;simp[execOp,ho,go_sem];exact h1
theorem zny {w:World} {ops:Array Oper} {o:Oper} {a:Act} {K:Act→World→Prop} {Q:Exit→Act→World→Prop} {E0:Prop} (hgd:o.guard=none) (ho:o.op=.alloc 74)
  (h:∀ C w',w.heap.size=C→w'.heap[C]? = some (.cells #[.int .i64 0,.int .i64 0,.int .i64 0] 74 (0,0))→Below w.heap.size w w'→K (a.put o.dst (.pointer (some ⟨C,0,none⟩))) w') :
  if Region.wanted o (yielded ops a.tmps)=true then Oper.wp Tryz.prog o a w K Q else E0:=by
 have hw:Region.wanted o (yielded ops a.tmps)=true:=by simp[Region.wanted,hgd]
 rw[if_pos hw];have h1:=h w.heap.size (w.alloc (.cells #[.int .i64 0,.int .i64 0,.int .i64 0] 74)) rfl (zad w _) ((Below.refl _ _).alloc (Nat.le_refl _) _);unfold Oper.wp;simp[execOp,ho,go_sem];exact h1
theorem zru {w:World} {g:Nat} {a b x y:Value} {T:TypeId} (h:w.heap[g]? = some (.cells #[a,b] T (0,0))):((w.setCell ⟨g,0,none⟩ x).setCell ⟨g,1,none⟩ y).heap[g]? = some (.cells #[x,y] T (0,0))∧w.grownBy ((w.setCell ⟨g,0,none⟩ x).setCell ⟨g,1,none⟩ y) (some g):=by
 have h1:=heap_setCell_same w g 0 #[a,b] T x h;have h2:=heap_setCell_same _ g 1 _ T y h1;exact⟨h2,(zak w g 0 x).trans (zak _ g 1 y)⟩
def zeo (p:Pl) (x:Sm):Int×Sm:=match za9 rpl p x.rs with
 |none=>(8,x)
 |some _=>(0,{ x with rs:=zrs rpl p x.rs })
theorem zuk {w:World} {h:StH} {x:Sm} (s:StAt w h x) (p:Pl) (hp:p.1.size≤maxLen∧p.2.size≤maxLen):(Instr.lookup 76 (.map (some h.R)) (.agg #[.string p.1,.string p.2]) true).run Tryz.prog w=.ok (.tuple #[zdi ((za9 rpl p x.rs).getD rt0),.bool (za9 rpl p x.rs).isSome]) w:=by
 have e:=zd9 rpl zdi p x.rs;cases hg:za9 rpl p x.rs with
 |none =>
  rw[hg] at e;exact(s.rm.look_no zli (zjd w) (k:=p) hp e).1
 |some v =>
  rw[hg] at e;exact(s.rm.look_yes zli (zjd w) (k:=p) (v:=zdi v) e).1
theorem zr7 {w:World} {h:StH} {x:Sm} (s:StAt w h x) (p:ByteArray) (hp:p.size≤maxLen):(Instr.lookup 75 (.map (some h.P)) (.string p) true).run Tryz.prog w=.ok (.tuple #[pqV ((za9 qnm p x.ps).getD ⟨⟨⟨#[]⟩,[]⟩,none,0⟩),.bool (za9 qnm p x.ps).isSome]) w:=by
 have e:=zd9 qnm pqV p x.ps;cases hg:za9 qnm p x.ps with
 |none =>
  rw[hg] at e;exact(s.pm.look_no zpf (zkt w) (k:=p) hp e).1
 |some v =>
  rw[hg] at e;exact(s.pm.look_yes zpf (zkt w) (k:=p) (v:=pqV v) e).1
theorem ztk {w:World} {h:StH} {x:Sm} (s:StAt w h x) (p:Int) (hp:-9223372036854775808≤p∧p≤9223372036854775807):(Instr.lookup 77 (.map (some h.C)) (.int .i64 p) false).run Tryz.prog w=.ok (lsV ((za9 lid p x.cl).getD ⟨p,0,0,0⟩)) w:=by
 have e:=zd9 lid lsV p x.cl;cases hg:za9 lid p x.cl with
 |none =>
  rw[hg] at e
  exact(s.cm.look_no ztm (zow w) (k:=p) (show(Lit.int .i64 p).wf=true by
   have h1:IntKind.min .i64=-9223372036854775808:=by decide
   have h2:IntKind.max .i64=9223372036854775807:=by decide
   simp only[Lit.wf,h1,h2,Bool.and_eq_true,decide_eq_true_eq]
   exact hp) e).2
 |some v =>
  rw[hg] at e;exact(s.cm.look_yes ztm (zow w) (k:=p) (v:=lsV v) e).2
theorem StAt.apart {w:World} {h:StH} {x:Sm} (s:StAt w h x):h.S≠h.P∧h.S≠h.R∧h.S≠h.C:=by
 have hd:=s.hd;refine⟨fun e=>?_,fun e=>?_,fun e=>?_⟩
 ·obtain⟨es,k,hb⟩:=s.pm.isMap;rw[← e,hd] at hb;cases hb
 ·obtain⟨es,k,hb⟩:=s.rm.isMap;rw[← e,hd] at hb;cases hb
 ·obtain⟨es,k,hb⟩:=s.cm.isMap;rw[← e,hd] at hb;cases hb
theorem StAt.noText {w:World} {h:StH} {x:Sm} (s:StAt w h x) {b k:Nat} {t:ByteArray} (hc:w.cell? ⟨b,k,none⟩=some (.string t)):b<w.heap.size∧b≠h.S∧b≠h.P∧b≠h.R∧b≠h.C:=by
 have nomap:∀ g es q,w.heap[g]? = some (.map es q)→b≠g:=fun g es q hg e=>by
  subst e;simp[World.cell?,hg] at hc
 refine⟨?_,fun e=>?_,?_,?_,?_⟩
 ·rcases Nat.lt_or_ge b w.heap.size with hb|hb
  ·exact hb
  ·have:w.heap[b]? = none:=Array.getElem?_eq_none hb;simp[World.cell?,this] at hc
 ·subst e;rw[cell_of_row _ _ _ _ _ _ s.hd] at hc
  match k with
  |0=>simp at hc
  |1=>simp at hc
  |2=>simp at hc
  |3=>simp at hc
  |_+4=>simp at hc
 ·obtain⟨es,q,hg⟩:=s.pm.isMap;exact nomap _ _ _ hg
 ·obtain⟨es,q,hg⟩:=s.rm.isMap;exact nomap _ _ _ hg
 ·obtain⟨es,q,hg⟩:=s.cm.isMap;exact nomap _ _ _ hg
theorem StAt.tgsC {w w':World} {h:StH} {x:Sm} (s:StAt w h x) (c:Chg h w w') {a:Option Addr} {l:List Tgt} (t:TgsAt w a l):TgsAt w' a l:=by
 refine⟨t.lt,fun i hi=>?_⟩;obtain⟨b,off,e,h1,h2⟩:=t.cell i hi;obtain⟨g0,g1,g2,g3,g4⟩:=s.noText h1;have hk:=c.block b g0 g1 g2 g3 g4;exact⟨b,off,e,(World.cell?_of_block hk).trans h1,(World.cell?_of_block hk).trans h2⟩
theorem StAt.withR {w w':World} {h:StH} {x:Sm} (s:StAt w h x) (hg:w.grownBy w' (some h.R)) (rs:List Rt) (hm:MapG kxP w' h.R (rs.map fun r=>(rpl r,zdi r))):StAt w' h { x with rs:=rs }∧Chg h w w':=by
 have c:Chg h w w':=Chg.grown hg (.inr (.inr (.inl rfl)));obtain⟨a1,a2,a3⟩:=s.apart;obtain⟨n1,n2,n3⟩:=s.ne;have keep:∀ g,g<w.heap.size→g≠h.R→w'.heap[g]? = w.heap[g]?:=fun g hl hne=>hg.block g hl (fun e=>hne (Option.some.inj e));exact⟨⟨(keep _ (Array.getElem?_eq_some_iff.1 s.hd).1 a2).trans s.hd,s.pm.same (keep _ s.pm.lt n1),hm,s.cm.same (keep _ s.cm.lt (Ne.symm n3)),fun p hp=>s.tgsC c (s.tg p hp),s.ne⟩,c⟩
theorem StAt.withP {w w':World} {h:StH} {x:Sm} (s:StAt w h x) (hg:w.grownBy w' (some h.P)) (ps:List Pq) (hm:MapG kxS w' h.P (ps.map fun r=>(qnm r,pqV r))) (ht:∀ p∈ps,TgsAt w p.ta p.po.ts):StAt w' h { x with ps:=ps }∧Chg h w w':=by
 have c:Chg h w w':=Chg.grown hg (.inr (.inl rfl));obtain⟨a1,a2,a3⟩:=s.apart;obtain⟨n1,n2,n3⟩:=s.ne;have keep:∀ g,g<w.heap.size→g≠h.P→w'.heap[g]? = w.heap[g]?:=fun g hl hne=>hg.block g hl (fun e=>hne (Option.some.inj e));exact⟨⟨(keep _ (Array.getElem?_eq_some_iff.1 s.hd).1 a1).trans s.hd,hm,s.rm.same (keep _ s.rm.lt (Ne.symm n1)),s.cm.same (keep _ s.cm.lt (Ne.symm n2)),fun p hp=>s.tgsC c (ht p hp),s.ne⟩,c⟩
theorem StAt.withC {w w':World} {h:StH} {x:Sm} (s:StAt w h x) (hg:w.grownBy w' (some h.C)) (cl:List Ls) (hm:MapG kxI w' h.C (cl.map fun r=>(lid r,lsV r))):StAt w' h { x with cl:=cl }∧Chg h w w':=by
 have c:Chg h w w':=Chg.grown hg (.inr (.inr (.inr rfl)));obtain⟨a1,a2,a3⟩:=s.apart;obtain⟨n1,n2,n3⟩:=s.ne;have keep:∀ g,g<w.heap.size→g≠h.C→w'.heap[g]? = w.heap[g]?:=fun g hl hne=>hg.block g hl (fun e=>hne (Option.some.inj e));exact⟨⟨(keep _ (Array.getElem?_eq_some_iff.1 s.hd).1 a3).trans s.hd,s.pm.same (keep _ s.pm.lt n2),s.rm.same (keep _ s.rm.lt n3),hm,fun p hp=>s.tgsC c (s.tg p hp),s.ne⟩,c⟩
theorem StAt.withV {w:World} {h:StH} {x:Sm} (s:StAt w h x) (v:Int):StAt (w.setCell ⟨h.S,0,none⟩ (.int .i64 v)) h { x with ver:=v }∧Chg h w (w.setCell ⟨h.S,0,none⟩ (.int .i64 v)):=by
 have hg:=zak w h.S 0 (.int .i64 v);have c:Chg h w _:=Chg.grown hg (.inl rfl);obtain⟨a1,a2,a3⟩:=s.apart;have keep:∀ g,g<w.heap.size→g≠h.S→(w.setCell ⟨h.S,0,none⟩ (.int .i64 v)).heap[g]? = w.heap[g]?:=fun g hl hne=>hg.block g hl (fun e=>hne (Option.some.inj e));exact⟨⟨heap_setCell_same w h.S 0 _ 79 (.int .i64 v) s.hd,s.pm.same (keep _ s.pm.lt (Ne.symm a1)),s.rm.same (keep _ s.rm.lt (Ne.symm a2)),s.cm.same (keep _ s.cm.lt (Ne.symm a3)),fun p hp=>s.tgsC c (s.tg p hp),s.ne⟩,c⟩
theorem StAt.putR {w:World} {h:StH} {x:Sm} (s:StAt w h x) (r:Rt) (hr:r.h.size≤maxLen∧r.p.size≤maxLen) (hn:x.rs.length≤1000):∃ w',(Instr.mapUpdate 76 (.map (some h.R)) (.agg #[.string r.h,.string r.p]) (.agg #[.string r.h,.string r.p,.string r.l])).run Tryz.prog w=.ok () w'∧StAt w' h { x with rs:=zev rpl r x.rs }∧Chg h w w':=by
 obtain⟨w',hrun,hm,hg,_⟩:=s.rm.store zli (k:=rpl r) hr (zdi r) (by rw[Sm.fr_length];exact hn);exact⟨w',hrun,s.withR hg _ (by rw[zfe];exact hm)⟩
theorem StAt.delR {w:World} {h:StH} {x:Sm} (s:StAt w h x) (p:Pl) (hp:p.1.size≤maxLen∧p.2.size≤maxLen):∃ w',(∀ ty,(Builtin.delete_ #[76,89] ty #[.map (some h.R),.agg #[.string p.1,.string p.2]]).run Tryz.prog w=.ok (.tuple #[]) w')∧StAt w' h { x with rs:=zrs rpl p x.rs }∧Chg h w w':=by
 obtain⟨w',hrun,hm,hg,_⟩:=s.rm.drop zli (k:=p) hp 0;exact⟨w',fun ty=>hrun,s.withR hg _ (by rw[zg1];exact hm)⟩
theorem StAt.putP {w:World} {h:StH} {x:Sm} (s:StAt w h x) (q:Pq) (hq:q.po.nm.size≤maxLen) (ht:TgsAt w q.ta q.po.ts) (hn:x.ps.length≤1000):∃ w',(Instr.mapUpdate 75 (.map (some h.P)) (.string q.po.nm) (.agg #[.string q.po.nm,.slice q.ta q.po.ts.length q.tc])).run Tryz.prog w=.ok () w'∧StAt w' h { x with ps:=zev qnm q x.ps }∧Chg h w w':=by
 obtain⟨w',hrun,hm,hg,_⟩:=s.pm.store zpf (k:=qnm q) hq (pqV q) (by rw[Sm.fp_length];exact hn)
 exact⟨w',hrun,s.withP hg _ (by rw[zfe];exact hm) (fun p hp=>by
  rcases zoc _ _ _ _ hp with rfl|hp
  ·exact ht
  ·exact s.tg p hp)⟩
theorem StAt.delP {w:World} {h:StH} {x:Sm} (s:StAt w h x) (p:ByteArray) (hp:p.size≤maxLen):∃ w',(∀ ty,(Builtin.delete_ #[75,9] ty #[.map (some h.P),.string p]).run Tryz.prog w=.ok (.tuple #[]) w')∧StAt w' h { x with ps:=zrs qnm p x.ps }∧Chg h w w':=by
 obtain⟨w',hrun,hm,hg,_⟩:=s.pm.drop zpf (k:=p) hp 0;exact⟨w',fun ty=>hrun,s.withP hg _ (by rw[zg1];exact hm) (fun q hq=>s.tg q (List.mem_filter.1 hq).1)⟩
theorem StAt.putC {w:World} {h:StH} {x:Sm} (s:StAt w h x) (c:Ls) (hc:-9223372036854775808≤c.id∧c.id≤9223372036854775807) (hn:x.cl.length≤1000):∃ w',(Instr.mapUpdate 77 (.map (some h.C)) (.int .i64 c.id) (.agg #[.int .i64 c.seq,.int .i64 c.e,.int .i64 c.ver])).run Tryz.prog w=.ok () w'∧StAt w' h { x with cl:=zev lid c x.cl }∧Chg h w w':=by
 obtain⟨w',hrun,hm,hg,_⟩:=s.cm.store ztm (k:=lid c) (show(Lit.int .i64 c.id).wf=true by
   have h1:IntKind.min .i64=-9223372036854775808:=by decide
   have h2:IntKind.max .i64=9223372036854775807:=by decide
   simp only[Lit.wf,h1,h2,Bool.and_eq_true,decide_eq_true_eq]
   exact hc) (lsV c) (by simpa [Sm.fc] using hn)
 exact⟨w',hrun,s.withC hg _ (by rw[zfe];exact hm)⟩
theorem zj0 {u:World} {j:Nat} {cs:Array Value} {T:TypeId} (h:u.heap[j]? = some (.cells cs T (0,0))) (i:Nat) (v:Value) (cs':Array Value) (e:cs.setIfInBounds i v=cs'):(u.setCell ⟨j,i,none⟩ v).heap[j]? = some (.cells cs' T (0,0)):=by
 rw[← e];exact heap_setCell_same u j i cs T v h
theorem zcb {base j:Nat} {w u W:World} (h:Below base w u) (g:u.grownBy W (some j)) (hj:base≤j) (hb:base≤u.heap.size):Below base w W :=
 h.trans ⟨g.os,g.tape,g.output,g.size,fun k hk=>g.block k (by omega) (fun e=>by have:=Option.some.inj e;omega)⟩
def zhl (h:List Nat) (k e:Nat):Ls×Nat×Nat :=
 let a:=zcd h k e
 let b:=zcd h a.2.1 a.2.2
 let d:=zcd h b.2.1 b.2.2
 let f:=zcd h d.2.1 d.2.2
 (⟨a.1,b.1,d.1,f.1⟩,f.2.1,f.2.2)
def zjh (h:List Nat):Nat→Nat→Nat→List Ls×Nat×Nat
 |0,k,e=>([],k,e)
 |n+1,k,e =>
  let a:=zhl h k e
  let r:=zjh h n a.2.1 a.2.2
  (a.1::r.1,r.2.1,r.2.2)
def zn8 (h:List Nat) (k e:Nat):List Ls×Nat×Nat :=
 let a:=zbo h k e 32
 zjh h a.1 a.2.1 a.2.2
theorem zms {h:List Nat} {k e n1 k2 e2 n2 k3 e3 n3 k4 e4 n4 k5 e5:Nat} (h1:zcd h k e=(n1,k2,e2)) (h2:zcd h k2 e2=(n2,k3,e3)) (h3:zcd h k3 e3=(n3,k4,e4)) (h4:zcd h k4 e4=(n4,k5,e5)):zhl h k e=(⟨n1,n2,n3,n4⟩,k5,e5):=by
 simp only[zhl,h1,h2,h3,h4]
theorem zd5 (h:List Nat) (n k e:Nat):zjh h (n+1) k e=((zhl h k e).1::(zjh h n (zhl h k e).2.1 (zhl h k e).2.2).1,(zjh h n (zhl h k e).2.1 (zhl h k e).2.2).2):=rfl
theorem zue:(Tryz.prog.info? 156).map (fun i=>(i.zero,i.size,i.bytes))=some (some (.agg #[.int .i64 0,.int .i64 0,.int .i64 0,.int .i64 0]),4,32):=by kernel_rfl
def zp3 (base:Nat) (w:World) (sp:Option Addr) (c:Nat) (l:List Ls):Prop:=w.ownsRow base 156 4 (.slice sp l.length c) l.length (zgl l)
theorem zp3.ofNil (base:Nat) (w:World):zp3 base w none 0 []:=w.ownsRow_nil base 156 4
theorem zja {w:World} {ops:Array Oper} {rest:List Oper} {o:Oper} {a:Act} {Q:Exit→Act→World→Prop} (hgd:o.guard=none) (s x:Operand)
  (ho:o.op=.call { callee:=.builtin .append,args:=#[s,x],argTypes:=#[105,105] }) (base:Nat) (sp:Option Addr) (n c:Nat) (l:List Ls) (hs:a.eval s=.slice sp n c) (hn:l.length=n) (hown:zp3 base w sp c l)
  (B:Nat) (y:Ls) (hx:a.eval x=.slice (some ⟨B,0,none⟩) 1 1) (hB:w.heap[B]? = some (.cells (ze2 y).toArray 156 (0,0))) (hsz:n≤100000) (hbase:base≤w.heap.size)
  (h:∀ sp' c' w',zp3 base w' sp' c' (l++[y])→Below base w w'→wpList Tryz.prog ops Q rest (a.put o.dst (.slice sp' (n+1) c')) w') :
  wpList Tryz.prog ops Q (o::rest) a w:=by
 subst hn;refine zd2 hgd s x _ _ ho zue Tryz.underlying105 rfl (by omega) base sp l.length c (zgl l) hs hown B (ze2 y) hx hB rfl (zjs y) (by omega) (by omega) hbase ?_;intro sp' c' w' h1 hg;refine h sp' c' w' ?_ (zbt hown hg hbase);unfold zp3;rw[List.length_append,show zgl (l++[y])=zgl l++ze2 y from by simp[zgl]];exact h1
structure CSt (R C:Nat) (w V W:World) (p:Option Addr) (c:Nat) (h:List Nat) (k e:Nat) (cs:Array Value):Prop where
 cb:W.heap[C]? = some (.cells cs 156 (0,0))
 z:KR R W p c h k e
 g:w.grownBy W (some R)
 mid:∀ j,w.heap.size≤j→j<V.heap.size→W.heap[j]? = V.heap[j]?
 rl:R<w.heap.size
 wv:w.heap.size≤V.heap.size
 vc:V.heap.size=C
 vw:V.heap.size≤W.heap.size
section
variable {R C:Nat} {w V W W':World} {p:Option Addr} {c:Nat} {h:List Nat} {k e k0 e0:Nat} {cs:Array Value}
theorem CSt.new (z0:KR R w p c h k0 e0) (z:KR R V p c h k e) (g:w.grownBy V (some R)) (cs:Array Value):CSt R V.heap.size w V (V.alloc (.cells cs 156)) p c h k e cs:=by
 have bA:Below V.heap.size V (V.alloc (.cells cs 156)):=(Below.refl _ _).alloc (Nat.le_refl _) _;exact⟨zad V _,z.later bA,zaf g (zao bA _),fun j _ hj=>bA.block j hj,z0.lt,g.size,rfl,bA.size⟩
theorem CSt.num (s:CSt R C w V W p c h k e cs) {k' e':Nat} (z:KR R W' p c h k' e') (g:W.grownBy W' (some R)):CSt R C w V W' p c h k' e' cs:=by
 have hC:C<W.heap.size:=(Array.getElem?_eq_some_iff.1 s.cb).1;have h1:=s.rl;have h2:=s.wv;have h3:=s.vc;have h4:=s.vw;exact⟨(g.block C hC (fun e=>by have:=Option.some.inj e;omega)).trans s.cb,z,zaf s.g g,fun j hj hjv=>(g.block j (by omega) (fun e=>by have:=Option.some.inj e;omega)).trans (s.mid j hj hjv),h1,h2,h3,Nat.le_trans h4 g.size⟩
theorem CSt.put (s:CSt R C w V W p c h k e cs) (z0:KR R w p c h k0 e0) (i:Nat) (v:Value):CSt R C w V (W.setCell ⟨C,i,none⟩ v) p c h k e (cs.setIfInBounds i v):=by
 have h1:=s.rl;have h2:=s.wv;have h3:=s.vc;have h4:=s.vw;have hb:Below w.heap.size W (W.setCell ⟨C,i,none⟩ v):=zcb (Below.refl _ _) (zak W C i v) (by omega) (by omega);exact⟨heap_setCell_same W C i _ _ _ s.cb,z0.kept s.g s.z hb,zam s.g hb,fun j hj hjv=>(heap_setCell_other W ⟨C,i,none⟩ j v (by show j≠C;omega)).trans (s.mid j hj hjv),h1,h2,h3,by simpa using h4⟩
theorem CSt.row (s:CSt R C w V W p c h k e cs) {T:TypeId} {kk n:Nat} {v:Value} {xs:List Value} (o:V.ownsRow w.heap.size T kk v n xs):W.ownsRow w.heap.size T kk v n xs:=by
 refine⟨o.1,?_⟩;rcases o.2 with hv|⟨j,cap,cur,hv,hbg,hg,r⟩
 ·exact .inl hv
 ·exact .inr ⟨j,cap,cur,hv,hbg,(s.mid j hbg (Array.getElem?_eq_some_iff.1 hg).1).trans hg,r⟩
def zsz (R:Nat) (w:World) (p:Option Addr) (c:Nat) (h:List Nat) (r:List Ls×Nat×Nat) (en:Ending) (w':World):Prop:=∃ sp n cc,en=.returned (.slice sp n cc)∧r.1.length=n∧zp3 w.heap.size w' sp cc r.1∧KR R w' p c h r.2.1 r.2.2∧w.grownBy w' (some R)
theorem zjk (z:KR R w p c h k e):Calls Tryz.prog 57 #[.pointer (some ⟨R,0,none⟩)] w (zsz R w p c h (zn8 h k e)):=by
 have NC:=zaa (zcy z 32 (by omega));unfold zep at NC;have NL:=zaa (zdx h k e 32);have EQ:=zaa (show zn8 h k e=zjh h (zbo h k e 32).1 (zbo h k e 32).2.1 (zbo h k e 32).2.2 from rfl);generalize zbo h k e 32=q at *;obtain⟨n,k1,e1⟩:=q;dsimp only at NC EQ NL;rw[show((32:Nat):Int)=32 from rfl] at NC;have Z0:=zaa z;have hR:=z.lt;have hn16:n≤32:=za NL;clear z;go_enter Tryz.func57,Tryz.ntmps57
 go_wp2_with fail
 go_at_call 100
 refine(za NC).mono ?_;rintro en V1 ⟨rfl,z1,g1⟩;have Z1:=zaa z1;have G1:=zaa g1;clear z1 g1 NC
 go_wp2_with fail
 go_loopw [3,4,7] (fun v s i wr=>∃ (j:Nat) (sp:Option Addr) (m cc:Nat) (acc:List Ls) (kj ej:Nat),j≤n∧v=.slice sp m cc∧i=.int .i64 (j:Int)∧Hid (acc.length=m)∧m=j∧Hid (zp3 w.heap.size wr sp cc acc)∧Hid (KR R wr p c h kj ej)∧Hid (w.grownBy wr (some R))∧Hid (zjh h n k1 e1=(acc++(zjh h (n - j) kj ej).1,(zjh h (n - j) kj ej).2))) (fun _ _ i _=>n - (intOf i).toNat)
 case atStart=>exact⟨0,none,0,0,[],k1,e1,by omega,rfl,rfl,zaa rfl,rfl,zaa (zp3.ofNil _ _),Z1,G1,zaa rfl⟩
 case round =>
  obtain⟨j,sp,m,cc,acc,kj,ej,hj,rfl,rfl,hl,rfl,O,Z,G,E⟩:=hrel;by_cases hjm:m<n
  ·as_aux_lemma =>
   have y1:(m:Int)<(n:Int):=by omega
   have hj1:m+1≤n:=by omega
   have E2:=zaa (show zjh h n k1 e1=(acc++[(zhl h kj ej).1]++(zjh h (n - (m+1)) (zhl h kj ej).2.1 (zhl h kj ej).2.2).1,(zjh h (n - (m+1)) (zhl h kj ej).2.1 (zhl h kj ej).2.2).2) by
    rw[za E,show n - m=(n - (m+1))+1 by omega,zd5]
    simp)
   have TC:=zaa (zby (za Z));unfold zep at TC;have CE:=zaa (fun n1 k2 e2 n2 k3 e3 n3 k4 e4 n4 k5 e5=>@zms h kj ej n1 k2 e2 n2 k3 e3 n3 k4 e4 n4 k5 e5);generalize zhl h kj ej=q9 at *;generalize hq1:zcd h kj ej=q1 at *;obtain⟨n1,k2,e2⟩:=q1;have Q1:=zaa hq1;dsimp only at TC;clear hq1
   go_wp2_with fail
   go_at_call 54
   refine(za TC).mono ?_;rintro en V2 ⟨rfl,z2,g2⟩;have G2:=zaa (zaf (za G) g2);have O2:=zaa (zar (za O) g2 hR);have S1:=zaa (CSt.new (za Z0) z2 (za G2) #[.int .i64 (n1:Int),.int .i64 0,.int .i64 0,.int .i64 0]);have TC2:=zaa (zby (za S1).z);unfold zep at TC2;generalize hq1:zcd h k2 e2=q1 at *;obtain⟨n2,k3,e3⟩:=q1;have Q2:=zaa hq1;dsimp only at TC2;clear hq1 z2 g2 TC O G Z E
   go_wp2_with fail
   go_at_call 54
   generalize (V2.alloc (.cells #[.int .i64 (n1:Int),.int .i64 0,.int .i64 0,.int .i64 0] 156))=A1 at *;generalize hC:V2.heap.size=C at *;refine(za TC2).mono ?_;rintro en V3 ⟨rfl,z3,g3⟩;have S2:=zaa ((za S1).num z3 g3);have f3:=zbf (za S2).cb 1;have c3:=zab (za S2).cb 1 (.int .i64 0) rfl;have S3:=zaa ((za S2).put (za Z0) 1 (.int .i64 (n2:Int)));have TC3:=zaa (zby (za S3).z);unfold zep at TC3;generalize hq1:zcd h k3 e3=q1 at *;obtain⟨n3,k4,e4⟩:=q1;have Q3:=zaa hq1;dsimp only at TC3;clear hq1 z3 g3 TC2 S1 S2
   go_wp2_with fail
   go_at_call 54
   clear f3 c3;generalize (V3.setCell ⟨C,1,none⟩ (.int .i64 (n2:Int)))=A2 at *;refine(za TC3).mono ?_;rintro en V4 ⟨rfl,z4,g4⟩;have S4:=zaa ((za S3).num z4 g4);have f4:=zbf (za S4).cb 2;have c4:=zab (za S4).cb 2 (.int .i64 0) rfl;have S5:=zaa ((za S4).put (za Z0) 2 (.int .i64 (n3:Int)));have TC4:=zaa (zby (za S5).z);unfold zep at TC4;generalize hq1:zcd h k4 e4=q1 at *;obtain⟨n4,k5,e5⟩:=q1;have Q4:=zaa hq1;dsimp only at TC4;clear hq1 z4 g4 TC3 S3 S4
   go_wp2_with fail
   go_at_call 54
   clear f4 c4;generalize (V4.setCell ⟨C,2,none⟩ (.int .i64 (n3:Int)))=A3 at *;refine(za TC4).mono ?_;rintro en V5 ⟨rfl,z5,g5⟩;have S6:=zaa ((za S5).num z5 g5);have f5:=zbf (za S6).cb 3;have c5:=zab (za S6).cb 3 (.int .i64 0) rfl;have S7:=zaa ((za S6).put (za Z0) 3 (.int .i64 (n4:Int)));have EQ9:=za CE _ _ _ _ _ _ _ _ _ _ _ _ rfl (za Q2) (za Q3) (za Q4);subst EQ9;dsimp only at E2;clear z5 g5 TC4 S5 S6 CE Q1 Q2 Q3 Q4;have hcb:=(za S7).cb;have d0:=zab hcb 0 (.int .i64 (n1:Int)) rfl;have d1:=zab hcb 1 (.int .i64 (n2:Int)) rfl;have d2:=zab hcb 2 (.int .i64 (n3:Int)) rfl;have d3:=zab hcb 3 (.int .i64 (n4:Int)) rfl;have OA:=zaa ((za S7).row (za O2));have bA:=zaa (show Below w.heap.size (V5.setCell ⟨C,3,none⟩ (.int .i64 (n4:Int))) ((V5.setCell ⟨C,3,none⟩ (.int .i64 (n4:Int))).alloc (.cells #[.int .i64 (n1:Int),.int .i64 (n2:Int),.int .i64 (n3:Int),.int .i64 (n4:Int)] 156)) from(Below.refl _ _).alloc (by have h1:=(za S7).wv;have h2:=(za S7).vw;omega) _);have bA2:=zaa (show Below (V5.setCell ⟨C,3,none⟩ (.int .i64 (n4:Int))).heap.size (V5.setCell ⟨C,3,none⟩ (.int .i64 (n4:Int))) ((V5.setCell ⟨C,3,none⟩ (.int .i64 (n4:Int))).alloc (.cells #[.int .i64 (n1:Int),.int .i64 (n2:Int),.int .i64 (n3:Int),.int .i64 (n4:Int)] 156)) from(Below.refl _ _).alloc (Nat.le_refl _) _);have XA0:=zad (V5.setCell ⟨C,3,none⟩ (.int .i64 (n4:Int))) (.cells #[.int .i64 (n1:Int),.int .i64 (n2:Int),.int .i64 (n3:Int),.int .i64 (n4:Int)] 156)
   rw[show(V5.setCell ⟨C,3,none⟩ (.int .i64 (n4:Int))).heap.size=V5.heap.size by simp] at XA0;have XA:=zaa XA0;clear XA0;have OB:=zaa (zb0 (za OA) (za bA2));have G5:=zaa (zam (za S7).g (za bA));have Z5:=zaa ((za Z0).kept (za S7).g (za S7).z (za bA));have SZ:=zaa (show w.heap.size≤(V5.setCell ⟨C,3,none⟩ (.int .i64 (n4:Int))).heap.size from Nat.le_trans (za S7).wv (za S7).vw);have SZ2:=zaa (Nat.le_trans (za SZ) (za bA2).size);clear S7 hcb OA bA O2 G2
   go_wp2_with (at_builtin;refine zja rfl (.tmp 26) (.tmp 28) rfl w.heap.size sp m cc acc rfl (za hl) (by exact za OB) V5.heap.size ⟨n1,n2,n3,n4⟩ rfl (by exact za XA) (by omega) (za SZ2) ?_;intro sp2 c2 W2 ho2 hb2;have O6:=zaa ho2;have B6:=zaa hb2;clear ho2 hb2)
   have Z6:=zaa ((za Z0).kept (za G5) (za Z5) (za B6));have G6:=zaa (zam (za G5) (za B6));exact⟨⟨m+1,sp2,m+1,c2,acc++[⟨n1,n2,n3,n4⟩],k5,e5,hj1,rfl,by go_num,zaa (by rw[List.length_append,za hl];rfl),rfl,O6,Z6,G6,E2⟩,by simp[intOf];omega⟩
  ·as_aux_lemma =>
   have y1:¬ (m:Int)<(n:Int):=by omega
   have FF:=zaa (show zsz R w p c h (zn8 h k e) (.returned (.slice sp m cc)) wr from by
    have h0:n - m=0:=by omega
    have e5:=za E;rw[h0] at e5;simp only[zjh,List.append_nil] at e5;rw[za EQ,e5]
    exact⟨sp,m,cc,rfl,za hl,za O,za Z,za G⟩)
   clear E O Z G
   go_wp2
   go_ret
   exact za FF
end
end
end Go.Proofs.YtjcjleaicjhpeaaGreatDoor
