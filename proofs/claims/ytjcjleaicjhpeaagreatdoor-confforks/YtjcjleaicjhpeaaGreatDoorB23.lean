/- Conf: the document's store: New, Seen. -/
import Derived.Test.YtjcjleaicjhpeaaGreatDoorB20
import Derived.Test.YtjcjleaicjhpeaaGreatDoorB22
import Derived.Test.YtjcjleaicjhpeaaGreatDoorB14
import Derived.Test.YtjcjleaicjhpeaaGreatDoorB07
set_option linter.unusedVariables false
set_option maxRecDepth 20000
set_option maxHeartbeats 16000000
namespace Go.Proofs.YtjcjleaicjhpeaaGreatDoor
section
open Go.ChangeShapes Go.WideShapes Go.ChangeAt Go.RowKit
theorem zjg {w:World} {b k:Nat} {v:Value} (h:w.cell? ⟨b,k,none⟩=some v):b<w.heap.size:=by
 rcases Nat.lt_or_ge b w.heap.size with hb|hb
 ·exact hb
 ·have:w.heap[b]? = none:=Array.getElem?_eq_none hb;simp[World.cell?,this] at h
structure RfH where
 ra:Option Addr
 rc:Nat
 pa:Option Addr
 pc:Nat
 la:Option Addr
 lc:Nat
def zib (y:Sm) (k:RfH):Array Value:=#[.int .i64 y.ver,.slice k.ra y.rs.length k.rc,.slice k.pa y.ps.length k.pc,.slice k.la y.cl.length k.lc]
structure RtAt (w:World) (r:Nat) (k:RfH) (y:Sm):Prop where
 hd:w.heap[r]? = some (.cells (zib y k) 119 (0,0))
 rw_:zc9 0 w k.ra k.rc y.rs
 pw:za7 0 w k.pa k.pc (y.ps.map Pq.pr)
 lw:zf 0 w k.la k.lc y.cl
 dt:∀ p∈y.ps,TgD w p
theorem RtAt.later {w w':World} {r:Nat} {k:RfH} {y:Sm} (s:RtAt w r k y) (hb:Below w.heap.size w w'):RtAt w' r k y:=⟨zac hb s.hd,zae s.rw_ hb,zae s.pw hb,zae s.lw hb,fun p hp=>(s.dt p hp).later hb⟩
theorem RtAt.lt {w:World} {r:Nat} {k:RfH} {y:Sm} (s:RtAt w r k y):r<w.heap.size:=(Array.getElem?_eq_some_iff.1 s.hd).1
theorem zj0 (w:World):Calls Tryz.prog 32 #[] w fun e w'=>∃ r,e=.returned (.pointer (some ⟨r,0,none⟩))∧RtAt w' r ⟨none,0,none,0,none,0⟩ sm0∧Below w.heap.size w w'∧w.heap.size≤r:=by
 have hb:=zaa (show Below w.heap.size w (w.alloc (.cells #[.int .i64 0,.slice none 0 0,.slice none 0 0,.slice none 0 0] 119)) from(Below.refl _ _).alloc (Nat.le_refl _) _);have hx:=zaa (zad w (.cells #[.int .i64 0,.slice none 0 0,.slice none 0 0,.slice none 0 0] 119));go_enter Tryz.func32,Tryz.ntmps32
 go_wp2
 go_ret
 exact⟨w.heap.size,rfl,⟨za hx,zc9.ofNil _ _,za7.ofNil _ _,zf.ofNil _ _,by simp[sm0]⟩,za hb,Nat.le_refl _⟩
theorem zg {w:World} {a:Option Addr} {c r m:Nat} {l:List Ls} {V0 V1 V2:Value} (h:zf 0 w a c l) (hm:l.length=m) (hn:m≤1000) (hr:w.heap[r]? = some (.cells #[V0,V1,V2,.slice a m c] 119 (0,0))) (id:Int) :
  Calls Tryz.prog 35 #[.pointer (some ⟨r,0,none⟩),.int .i64 id] w fun e w'=>e=.returned (.tuple #[.int .i64 ((zau lid id l).getD ⟨id,0,0,0⟩).seq,.agg #[.int .i64 ((zau lid id l).getD ⟨id,0,0,0⟩).e,.int .i64 ((zau lid id l).getD ⟨id,0,0,0⟩).ver]])∧Below w.heap.size w w':=by
 have HL:=zaa h;have HM:=zaa hm;have HR:=zaa hr;have RL:=zaa (Array.getElem?_eq_some_iff.1 hr).1;have TG:=zaa (show ∀ t,(zau lid id l).getD ⟨id,0,0,0⟩=t→(zau lid id l).getD ⟨id,0,0,0⟩=t from fun t e=>e);have LG:=zaa (show ∀ t,zau lid id l=some t→(zau lid id l).getD ⟨id,0,0,0⟩=t from fun t e=>by rw[e];rfl);have LN:=zaa (show zau lid id l=none→(zau lid id l).getD ⟨id,0,0,0⟩=⟨id,0,0,0⟩ from fun e=>by rw[e];rfl);generalize (zau lid id l).getD ⟨id,0,0,0⟩=t at *;have b1:=zaa (show Below w.heap.size w (w.alloc (.cells #[.int .i64 0,.int .i64 0] 38)) from(Below.refl _ _).alloc (Nat.le_refl _) _);have X1:=zaa (zad w (.cells #[.int .i64 0,.int .i64 0] 38));have S1:=zaa (show(w.alloc (.cells #[.int .i64 0,.int .i64 0] 38)).heap.size=w.heap.size+1 by simp);clear h hm hr TG;go_enter Tryz.func35,Tryz.ntmps35
 go_wp2_with fail
 generalize w.alloc (.cells #[.int .i64 0,.int .i64 0] 38)=V at *;have FB:=zaa (show ∀ W:World,Below V.heap.size V W→Below w.heap.size w W from fun W hb=>(za b1).trans (hb.mono (za b1).size));go_loopw [6] (fun i wr=>∃ j:Nat,j≤m∧i=.int .i64 (j:Int)∧Hid (zau lid id l=zau lid id (l.drop j))∧Hid (Below V.heap.size V wr)) (fun i _=>m - (intOf i).toNat)
 case atStart=>exact⟨0,by omega,rfl,zaa rfl,zaa (Below.refl _ _)⟩
 case round =>
  obtain⟨j,hj,rfl,DJ,BB⟩:=hrel;have XR:=zaa (zac (za FB _ (za BB)) (za HR));have e3:=zab (za XR) 3 (.slice a m c) rfl;have XZ:=zaa (zac (za BB) (za X1));by_cases hjm:j<m
  ·as_aux_lemma =>
   have y0:(0:Int)≤(j:Int):=by omega
   have y1:(j:Int)<(m:Int):=by omega
   have hjl:j<l.length:=by rw[za HM];exact hjm
   have DC:=zaa (show l.drop j=l[j]::l.drop (j+1) from List.drop_eq_getElem_cons hjl);obtain⟨g,rfl,hg1,q0,q1,q2,q3⟩:=(za HL).cell j hjl;generalize l[j]=x at *;have p0:=cell_later (za FB _ (za BB)) q0;have p1:=cell_later (za FB _ (za BB)) q1;have p2:=cell_later (za FB _ (za BB)) q2;have p3:=cell_later (za FB _ (za BB)) q3;have QL:=zaa q0;clear q0 q1 q2 q3;rw[za DC,zfj] at DJ;by_cases hx:x.id=id
   ·as_aux_lemma =>
    rw[show lid x=x.id from rfl,if_pos hx] at DJ;have ET:=zaa (za LG x (za DJ));have hss:decide (x.id=id)=true:=decide_eq_true hx
    go_wp2_with fail
    have KS:=zaa (show wr.drew.cell? ⟨r,3,none⟩=some (.slice (some ⟨g,0,none⟩) m c)∧wr.drew.cell? ⟨g,j*4+1,none⟩=some (.int .i64 x.seq)∧wr.drew.cell? ⟨g,j*4+2,none⟩=some (.int .i64 x.e)∧wr.drew.cell? ⟨g,j*4+3,none⟩=some (.int .i64 x.ver) from⟨e3,p1,p2,p3⟩);have XZ2:=zaa (show wr.drew.heap[w.heap.size]? = some (.cells #[.int .i64 0,.int .i64 0] 38 (0,0)) from za XZ);have BD:=zaa (show Below w.heap.size w wr.drew from(za FB _ (za BB)).drew);have GL:=zaa (zjg (za QL));refine wp_region_held_drew (S:=fun w'=>w'.cell? ⟨r,3,none⟩=some (.slice (some ⟨g,0,none⟩) m c)∧w'.cell? ⟨g,j*4+1,none⟩=some (.int .i64 x.seq)∧w'.cell? ⟨g,j*4+2,none⟩=some (.int .i64 x.e)∧w'.cell? ⟨g,j*4+3,none⟩=some (.int .i64 x.ver)) (by kernel_rfl) ?_ (fun hHeld=>?_)
    ·try dsimp only
     first|exact za KS|exact za KS2
    refine hT 0 ?_;refine hT 1 ?_;refine hT 2 ?_;refine hT 3 ?_;refine hT 4 ?_;refine hT 5 ?_;refine hT 6 ?_;refine hT 7 ?_;refine hT 8 ?_;refine hT 9 ?_;refine hT 10 ?_;refine hT 11 ?_;refine hT 12 ?_;refine hT 13 ?_;refine hT 14 ?_;refine hT 15 ?_;refine hT 16 ?_;refine wpAnyH_ready (rs:=[17]) (by kernel_rfl) (by simp) ?_;refine AllReadyH.cons rfl (fun K hK=>?_) ?_
    ·have z0:=zab (za XZ) 0 (.int .i64 0) rfl;have z1:=zab (za XZ) 1 (.int .i64 0) rfl;have f0:wr.frozen? ⟨w.heap.size,0,none⟩=false:=by simp[World.frozen?,za XZ]
     have f1:wr.frozen? ⟨w.heap.size,1,none⟩=false:=by simp[World.frozen?,za XZ]
     have A1:=zaa (show((wr.setCell ⟨w.heap.size,0,none⟩ (.int .i64 x.e)).setCell ⟨w.heap.size,1,none⟩ (.int .i64 x.ver)).drew.heap[w.heap.size]? = some (.cells #[.int .i64 x.e,.int .i64 x.ver] 38 (0,0)) from zar (zar (za XZ) 0 (.int .i64 x.e) #[.int .i64 x.e,.int .i64 0] rfl) 1 (.int .i64 x.ver) #[.int .i64 x.e,.int .i64 x.ver] rfl);have G1:=zaa (show wr.grownBy ((wr.setCell ⟨w.heap.size,0,none⟩ (.int .i64 x.e)).setCell ⟨w.heap.size,1,none⟩ (.int .i64 x.ver)).drew (some w.heap.size) from zaf (zai (zag wr w.heap.size 0 (.int .i64 x.e)) (zag _ w.heap.size 1 (.int .i64 x.ver))) (Below.refl _ _).drew);have kr:=(za G1).block r (Nat.lt_of_lt_of_le (za RL) (za BD).size) (fun e=>by have:=Option.some.inj e;have:=za RL;omega);have kg:=(za G1).block g (Nat.lt_of_lt_of_le (za GL) (za BD).size) (fun e=>by have:=Option.some.inj e;have:=za GL;omega);have KS2:=zaa (And.intro ((World.cell?_of_block kr).trans (za KS).1) (And.intro ((World.cell?_of_block kg).trans (za KS).2.1) (And.intro ((World.cell?_of_block kg).trans (za KS).2.2.1) ((World.cell?_of_block kg).trans (za KS).2.2.2))));clear kr kg;go_simp
     clear z0 z1 f0 f1;refine hK.out _ _ ?_ (fun hHeld=>?_)
     ·try dsimp only
      first|exact za KS|exact za KS2
     clear hK K;refine hP ?_;refine wpAnyH_done (by kernel_rfl) ?_ _;generalize ((wr.setCell ⟨w.heap.size,0,none⟩ (.int .i64 x.e)).setCell ⟨w.heap.size,1,none⟩ (.int .i64 x.ver)).drew=W9 at *;clear hHeld KS KS2
     go_wp2
     have g0:=zab (za A1) 0 (.int .i64 x.e) rfl;have g1:=zab (za A1) 1 (.int .i64 x.ver) rfl;refine bodyPost_ret (v:=.tuple #[.int .i64 x.seq,.agg #[.int .i64 x.e,.int .i64 x.ver]]) (by simp[results,Tryz.results35,go_sem,g0,g1]) rfl ⟨by rw[za ET],(za FB _ (za BB)).grown (za G1) (za FB _ (za BB)).size (fun g e=>by have:=Option.some.inj e;omega)⟩
    exact AllReadyH.nil
   ·as_aux_lemma =>
    rw[show lid x=x.id from rfl,if_neg hx] at DJ;have hss:decide (x.id=id)=false:=decide_eq_false hx
    go_wp2
    exact⟨⟨j+1,by omega,by go_num,DJ,BB⟩,by simp[intOf];omega⟩
  ·as_aux_lemma =>
   have hjj:¬ (j:Int)<(m:Int):=by omega
   obtain rfl:m=j:=by omega
   rw[List.drop_of_length_le (by rw[za HM];exact Nat.le_refl _)] at DJ;have ET:=zaa (za LN (za DJ));have z0:=zab (za XZ) 0 (.int .i64 0) rfl;have z1:=zab (za XZ) 1 (.int .i64 0) rfl;have f0:wr.frozen? ⟨w.heap.size,0,none⟩=false:=by simp[World.frozen?,za XZ]
   have f1:wr.frozen? ⟨w.heap.size,1,none⟩=false:=by simp[World.frozen?,za XZ]
   have A1:=zaa (zar (zar (za XZ) 0 (.int .i64 0) #[.int .i64 0,.int .i64 0] rfl) 1 (.int .i64 0) #[.int .i64 0,.int .i64 0] rfl);have G1:=zaa (zai (zag wr w.heap.size 0 (.int .i64 0)) (zag _ w.heap.size 1 (.int .i64 0)))
   go_wp2
   generalize (wr.setCell ⟨w.heap.size,0,none⟩ (.int .i64 0)).setCell ⟨w.heap.size,1,none⟩ (.int .i64 0)=W9 at *;clear z0 z1 f0 f1;have g0:=zab (za A1) 0 (.int .i64 0) rfl;have g1:=zab (za A1) 1 (.int .i64 0) rfl;refine bodyPost_ret (v:=.tuple #[.int .i64 0,.agg #[.int .i64 0,.int .i64 0]]) (by simp[results,Tryz.results35,go_sem,g0,g1]) rfl ⟨by rw[za ET],(za FB _ (za BB)).grown (za G1) (za FB _ (za BB)).size (fun g e=>by have:=Option.some.inj e;omega)⟩
theorem zic (y:Sm) (k:RfH):∀ (i:Nat) (t:ByteArray),(zib y k)[i]?≠some (.string t):=by
 intro i t e;unfold zib at e
 match i with
 |0=>simp at e
 |1=>simp at e
 |2=>simp at e
 |3=>simp at e
 |_+4=>simp at e
theorem RtAt.setV {w:World} {r:Nat} {k:RfH} {y:Sm} (s:RtAt w r k y) (v:Int):RtAt (w.setCell ⟨r,0,none⟩ (.int .i64 v)) r k { y with ver:=v }:=by
 have hg:=zag w r 0 (.int .i64 v);refine⟨zar s.hd 0 (.int .i64 v) _ rfl,zak s.rw_ hg s.hd (by decide),zak s.pw hg s.hd (by decide),zak s.lw hg s.hd (by decide),fun p hp=>zbo (s.dt p hp) hg s.hd (zic _ _)⟩
theorem RtAt.other {w w':World} {r q:Nat} {k:RfH} {y:Sm} {cs:Array Value} {T:TypeId} (s:RtAt w r k y) (hg:w.grownBy w' (some q)) (hq:w.heap[q]? = some (.cells cs T (0,0))) (hcs:∀ (k:Nat) (t:ByteArray),cs[k]?≠some (Value.string t)) (h1:T≠56) (h2:T≠54) (h3:T≠123) (hne:r≠q):RtAt w' r k y :=
 ⟨(hg.block r s.lt (fun e=>hne (Option.some.inj e))).trans s.hd,zak s.rw_ hg hq h1,zak s.pw hg hq h2,zak s.lw hg hq h3,fun p hp=>zbo (s.dt p hp) hg hq hcs⟩
theorem RtAt.cfg {w w':World} {r:Nat} {k:RfH} {y z:Sm} {ra pa:Option Addr} {rc pc:Nat} (s:RtAt w r k y) (hr:zc9 0 w ra rc z.rs) (hp:za7 0 w pa pc (z.ps.map Pq.pr)) (hd:∀ p∈z.ps,TgD w p) (hv:z.ver=y.ver) (hc:z.cl=y.cl) (hg:w.grownBy w' (some r)) (hw:w'.heap[r]? = some (.cells #[.int .i64 y.ver,.slice ra z.rs.length rc,.slice pa z.ps.length pc,.slice k.la y.cl.length k.lc] 119 (0,0))):RtAt w' r ⟨ra,rc,pa,pc,k.la,k.lc⟩ z:=by
 refine⟨?_,zak hr hg s.hd (by decide),zak hp hg s.hd (by decide),?_,fun p hp=>zbo (hd p hp) hg s.hd (zic _ _)⟩
 ·unfold zib;rw[hv,hc];exact hw
 ·rw[hc];exact zak s.lw hg s.hd (by decide)
theorem wL_is (z:Ls) (l:List Ls) (h:Kl lid l):wL z l=zbq lid z l:=by
 rw[zfz lid z l h];have e1:(fun x:Ls=>ltL x z)=(fun x=>decide (Kord.lt (lid x) (lid z))):=by funext x;exact decide_eq_decide.2 Iff.rfl
 have e2:(fun x:Ls=>ltL z x)=(fun x=>decide (Kord.lt (lid z) (lid x))):=by funext x;exact decide_eq_decide.2 Iff.rfl
 unfold wL;rw[e1,e2]
theorem zbb {w u v:World} {r q:Nat} (h:w.grownBy u (some r)) (g:u.grownBy v (some q)) (hq:w.heap.size≤q):w.grownBy v (some r) :=
 ⟨g.os.trans h.os,g.tape.trans h.tape,g.output.trans h.output,Nat.le_trans h.size g.size,fun i hi hne=>(g.block i (Nat.lt_of_lt_of_le hi h.size) (fun e=>by have:=Option.some.inj e;omega)).trans (h.block i hi hne)⟩
theorem zek (c:Cmd) (a':Option Addr) (tc':Nat) (x:Sm):(actN c a' tc' x).2.ver=x.ver∧(actN c a' tc' x).2.cl=x.cl:=by
 unfold actN zc zba zbm zbd
 repeat' split
 all_goals exact⟨rfl,rfl⟩
theorem zkf {c:Cmd} {x:Sm} (h:0≤c.exp∧c.exp≠x.ver) (a':Option Addr) (tc':Nat):zbp c a' tc' x=(12,x):=by
 unfold zbp;rw[if_pos h]
theorem zjf {c:Cmd} {x:Sm} (h:¬ (0≤c.exp∧c.exp≠x.ver)) (a':Option Addr) (tc':Nat):zbp c a' tc' x=actN c a' tc' x:=by
 unfold zbp actN;rw[if_neg h]
theorem zds {w:World} {r:Nat} {k:RfH} {y:Sm} (s:RtAt w r k y) (hi:SmI y) (hx:SmOk y) (c:Cmd) (a:Option Addr) (tc:Nat) (hc:CmdAt w c a tc) (hck:zam c=0) :
  Calls Tryz.prog 70 #[.agg #[.int .i64 y.ver,.slice k.ra y.rs.length k.rc,.slice k.pa y.ps.length k.pc],zas c a tc] w fun e w'=>∃ a' tc' ra' rc' pa' pc' er z,actN c a' tc' y=(er,z)∧e=.returned (.tuple #[.agg #[.int .i64 y.ver,.slice ra' z.rs.length rc',.slice pa' z.ps.length pc'],.int .i64 er])∧zc9 0 w' ra' rc' z.rs∧za7 0 w' pa' pc' (z.ps.map Pq.pr)∧(∀ p∈z.ps,TgD w' p)∧Below w.heap.size w w':=by
 have hn:=(zb0 hck).1;have ha:1≤c.act∧c.act≤4:=by
  unfold zbe at hn;simp only[Bool.and_eq_true,decide_eq_true_eq] at hn;exact hn.1.1.1
 refine(zlb s.rw_ s.pw s.dt hx.ver (by have:=hx.t;exact this) y.rs.length y.ps.length rfl rfl (by have:=hi.rn;omega) (by have:=hi.pn;omega) c a tc hc (zgo hck) ha).mono ?_;rintro e w' ⟨a',tc',ra',rc',pa',pc',rfl,h1,h2,h3,h4⟩;rw[zny hi] at *;exact⟨a',tc',ra',rc',pa',pc',_,_,rfl,rfl,h1,h2,h3,h4⟩
theorem zc4 (s:ByteArray) (j:Nat) (h:j<s.size):s.data.toList.drop j=(s[j]'h)::s.data.toList.drop (j+1):=by
 rw[List.drop_eq_getElem_cons (by simpa using h)];simp;rfl
theorem zd6 (s:ByteArray) (j:Nat) (h:¬ j<s.size):s.data.toList.drop j=[]:=List.drop_of_length_le (by simp;omega)
def zc0 (q:UInt8→Bool) (l:List UInt8):Bool:=l.all q
def zgi (pt:Bool) (c:UInt8):Bool:=zet c||(pt&&decide (c.toNat=46))
theorem zk4:zgi false=zet:=by funext c;simp[zgi]
theorem zfi (s:ByteArray) (pt:Bool) (hs:s.size≤maxLen) (w:World):Calls Tryz.prog 52 #[.string s,.bool pt] w fun e w'=>e=.returned (.bool (zc0 (zgi pt) s.data.toList))∧w'=w:=by
 simp only[maxLen] at hs;go_enter Tryz.func52,Tryz.ntmps52
 go_wp2
 go_loopw [5,6,7] (fun i _ _ wr=>∃ j:Nat,i=.int .i64 (j:Int)∧j≤s.size∧Hid (zc0 (zgi pt) (s.data.toList.drop j)=zc0 (zgi pt) s.data.toList)∧Hid (wr=w)) (fun i _ _ _=>s.size - (intOf i).toNat)
 case atStart=>exact⟨0,rfl,by omega,zaa rfl,zaa rfl⟩
 case round =>
  obtain⟨j,rfl,hj,hE,hB⟩:=hrel;by_cases h:j<s.size
  ·have hE2:=zaa (show zc0 (zgi pt) (s.data.toList.drop j)=(zgi pt (s[j]'h)&&zc0 (zgi pt) (s.data.toList.drop (j+1))) by rw[zc4 s j h];rfl);generalize hx:(s[j]'h)=x at *;have hx2:∀ hh,(s[j]'hh)=x:=fun _=>hx;have hw:IntKind.i64.wrap ((j:Int)+1)=((j+1:Nat):Int):=by rw[IntKind.wrap_i64];omega
   have hlt:(j:Int)<(s.size:Int):=by omega
   have hn256:x.toNat<256:=x.toNat_lt;have HL:=zaa (show zgi pt x=((decide (97≤x.toNat)&&decide (x.toNat≤122))||((decide (48≤x.toNat)&&decide (x.toNat≤57))||decide (x.toNat=45))||(pt&&decide (x.toNat=46))) from rfl);generalize zgi pt x=q at *;generalize hn:x.toNat=n at *;have done:q=true→Hid (zc0 (zgi pt) (s.data.toList.drop (j+1))=zc0 (zgi pt) s.data.toList):=fun hq=>by rw[← za hE,za hE2,hq];exact zaa rfl
   have none:q=false→Hid (zc0 (zgi pt) s.data.toList=false):=fun hq=>by rw[← za hE,za hE2,hq];exact zaa rfl
   have D:=zaa done;have N:=zaa none;clear done none hx;by_cases h1:97≤n
   ·have i1:(97:Int)≤(n:Int):=by omega
    by_cases h2:n≤122
    ·have i2:(n:Int)≤122:=by omega
     have HQ:=(za D (by rw[za HL];simp <;> omega))
     clear D N HL hn256
     go_wp2
     exact⟨⟨j+1,by go_num,by omega,HQ,hB⟩,by simp[intOf];omega⟩
    ·have i2:¬ (n:Int)≤122:=by omega
     have i3:(48:Int)≤(n:Int):=by omega
     have i4:¬ (n:Int)≤57:=by omega
     have i5:¬ (n:Int)=45:=by omega
     have i6:¬ (n:Int)=46:=by omega
     have j5:((n:Int)==45)=false:=by simp;omega
     have j6:((n:Int)==46)=false:=by simp;omega
     cases pt with
     |true =>
      have HQ:=(za N (by rw[za HL];simp <;> omega))
      clear D N HL hn256
      go_wp2
      go_ret
      exact⟨by first|(rw[za HQ];done)|(rw[za HQ];rfl),za hB⟩
     |false =>
      have HQ:=(za N (by rw[za HL];simp <;> omega))
      clear D N HL hn256
      go_wp2
      go_ret
      exact⟨by first|(rw[za HQ];done)|(rw[za HQ];rfl),za hB⟩
   ·have i1:¬ (97:Int)≤(n:Int):=by omega
    by_cases h3:48≤n
    ·have i3:(48:Int)≤(n:Int):=by omega
     by_cases h4:n≤57
     ·have i4:(n:Int)≤57:=by omega
      have HQ:=(za D (by rw[za HL];simp <;> omega))
      clear D N HL hn256
      go_wp2
      exact⟨⟨j+1,by go_num,by omega,HQ,hB⟩,by simp[intOf];omega⟩
     ·have i4:¬ (n:Int)≤57:=by omega
      have i5:¬ (n:Int)=45:=by omega
      have i6:¬ (n:Int)=46:=by omega
      have j5:((n:Int)==45)=false:=by simp;omega
      have j6:((n:Int)==46)=false:=by simp;omega
      cases pt with
      |true =>
       have HQ:=(za N (by rw[za HL];simp <;> omega))
       clear D N HL hn256
       go_wp2
       go_ret
       exact⟨by first|(rw[za HQ];done)|(rw[za HQ];rfl),za hB⟩
      |false =>
       have HQ:=(za N (by rw[za HL];simp <;> omega))
       clear D N HL hn256
       go_wp2
       go_ret
       exact⟨by first|(rw[za HQ];done)|(rw[za HQ];rfl),za hB⟩
    ·have i3:¬ (48:Int)≤(n:Int):=by omega
     by_cases h5:n=45
     ·subst h5;have HQ:=(za D (by rw[za HL];simp <;> omega))
      clear D N HL hn256
      go_wp2
      exact⟨⟨j+1,by go_num,by omega,HQ,hB⟩,by simp[intOf];omega⟩
     ·have i5:¬ (n:Int)=45:=by omega
      have j5:((n:Int)==45)=false:=by simp;omega
      by_cases h6:n=46
      ·subst h6;cases pt with
       |true =>
        have HQ:=(za D (by rw[za HL];simp <;> omega))
        clear D N HL hn256
        go_wp2
        exact⟨⟨j+1,by go_num,by omega,HQ,hB⟩,by simp[intOf];omega⟩
       |false =>
        have HQ:=(za N (by rw[za HL];simp <;> omega))
        clear D N HL hn256
        go_wp2
        go_ret
        exact⟨by first|(rw[za HQ];done)|(rw[za HQ];rfl),za hB⟩
      ·have i6:¬ (n:Int)=46:=by omega
       have j6:((n:Int)==46)=false:=by simp;omega
       cases pt with
       |true =>
        have HQ:=(za N (by rw[za HL];simp <;> omega))
        clear D N HL hn256
        go_wp2
        go_ret
        exact⟨by first|(rw[za HQ];done)|(rw[za HQ];rfl),za hB⟩
       |false =>
        have HQ:=(za N (by rw[za HL];simp <;> omega))
        clear D N HL hn256
        go_wp2
        go_ret
        exact⟨by first|(rw[za HQ];done)|(rw[za HQ];rfl),za hB⟩
  ·have hE3:=zaa (show zc0 (zgi pt) s.data.toList=true by rw[← za hE,zd6 s j h];rfl);have hlt:¬ (j:Int)<(s.size:Int):=by omega
   go_wp2
   go_ret
   exact⟨by first|(rw[za hE3];done)|(rw[za hE3];rfl),za hB⟩
theorem zhn (s:ByteArray) (hs:s.size≤maxLen) (w:World):Calls Tryz.prog 53 #[.string s] w fun e w'=>e=.returned (.bool (zc0 zch s.data.toList))∧w'=w:=by
 simp only[maxLen] at hs;go_enter Tryz.func53,Tryz.ntmps53
 go_wp2
 go_loopw [3] (fun i wr=>∃ j:Nat,i=.int .i64 (j:Int)∧j≤s.size∧Hid (zc0 zch (s.data.toList.drop j)=zc0 zch s.data.toList)∧Hid (wr=w)) (fun i _=>s.size - (intOf i).toNat)
 case atStart=>exact⟨0,rfl,by omega,zaa rfl,zaa rfl⟩
 case round =>
  obtain⟨j,rfl,hj,hE,hB⟩:=hrel;by_cases h:j<s.size
  ·have hE2:=zaa (show zc0 zch (s.data.toList.drop j)=(zch (s[j]'h)&&zc0 zch (s.data.toList.drop (j+1))) by rw[zc4 s j h];rfl);generalize hx:(s[j]'h)=x at *;have hx2:∀ hh,(s[j]'hh)=x:=fun _=>hx;have hw:IntKind.i64.wrap ((j:Int)+1)=((j+1:Nat):Int):=by rw[IntKind.wrap_i64];omega
   have hlt:(j:Int)<(s.size:Int):=by omega
   have HL:=zaa (show zch x=(decide (33≤x.toNat)&&decide (x.toNat≤126)) from rfl);generalize zch x=q at *;generalize hn:x.toNat=n at *;have D:=zaa (show q=true→Hid (zc0 zch (s.data.toList.drop (j+1))=zc0 zch s.data.toList) from fun hq=>by rw[← za hE,za hE2,hq];exact zaa rfl);have N:=zaa (show q=false→Hid (zc0 zch s.data.toList=false) from fun hq=>by rw[← za hE,za hE2,hq];exact zaa rfl);clear hx;by_cases h1:n<33
   ·have i1:(n:Int)<33:=by omega
    have HQ:=(za N (by rw[za HL];simp <;> omega))
    clear D N HL
    go_wp2
    go_ret
    exact⟨by first|(rw[za HQ];done)|(rw[za HQ];rfl),za hB⟩
   ·have i1:¬ (n:Int)<33:=by omega
    by_cases h2:126<n
    ·have i2:(126:Int)<(n:Int):=by omega
     have HQ:=(za N (by rw[za HL];simp <;> omega))
     clear D N HL
     go_wp2
     go_ret
     exact⟨by first|(rw[za HQ];done)|(rw[za HQ];rfl),za hB⟩
    ·have i2:¬ (126:Int)<(n:Int):=by omega
     have HQ:=(za D (by rw[za HL];simp <;> omega))
     clear D N HL
     go_wp2
     exact⟨⟨j+1,by go_num,by omega,HQ,hB⟩,by simp[intOf];omega⟩
  ·have hE3:=zaa (show zc0 zch s.data.toList=true by rw[← za hE,zd6 s j h];rfl);have hlt:¬ (j:Int)<(s.size:Int):=by omega
   go_wp2
   go_ret
   exact⟨by first|(rw[za hE3];done)|(rw[za hE3];rfl),za hB⟩
theorem ze0 (x:Nat) (w:World):Calls Tryz.prog 164 #[.float .f64 x] w fun e w'=>e=.returned (.bool (wtB x))∧w'=w:=by
 have hb:=zdc x;unfold wtB;by_cases h:x<9218868437227405312
 ·have hi:(x:Int)<9218868437227405312:=by omega
  rw[decide_eq_true h];go_enter Tryz.func164,Tryz.ntmps164
  go_wp2
  go_ret
  exact⟨rfl,rfl⟩
 ·have hi:¬ (x:Int)<9218868437227405312:=by omega
  rw[decide_eq_false h];go_enter Tryz.func164,Tryz.ntmps164
  go_wp2
  go_ret
  exact⟨rfl,rfl⟩
theorem zbl (s:ByteArray) (hs:s.size≤maxLen) (w:World):Calls Tryz.prog 123 #[.string s] w fun e w'=>e=.returned (.bool (zcq s))∧w'=w:=by
 have CC:=zaa (show Calls Tryz.prog 52 #[.string s,.bool false] w fun e w'=>e=.returned (.bool (zc0 zet s.data.toList))∧w'=w from by have:=zfi s false hs w;rw[zk4] at this;exact this);have HE:=zaa (show zcq s=(decide (1≤s.size)&&decide (s.size≤64)&&zc0 zet s.data.toList) from rfl);simp only[maxLen] at hs;generalize zc0 zet s.data.toList=b at *;by_cases h1:1≤s.size
 ·have i1:(1:Int)≤(s.size:Int):=by omega
  by_cases h2:s.size≤64
  ·have i2:(s.size:Int)≤64:=by omega
   rw[decide_eq_true h1,decide_eq_true h2,Bool.true_and,Bool.true_and] at HE;rw[za HE];go_enter Tryz.func123,Tryz.ntmps123
   go_wp2_with fail
   refine(za CC).mono ?_;rintro e w' ⟨rfl,rfl⟩
   go_wp2
   go_ret
   exact⟨rfl,rfl⟩
  ·have i2:¬ (s.size:Int)≤64:=by omega
   rw[decide_eq_false h2,Bool.and_false,Bool.false_and] at HE;rw[za HE];go_enter Tryz.func123,Tryz.ntmps123
   go_wp2
   go_ret
   exact⟨rfl,rfl⟩
 ·have i1:¬ (1:Int)≤(s.size:Int):=by omega
  rw[decide_eq_false h1,Bool.false_and,Bool.false_and] at HE;rw[za HE];go_enter Tryz.func123,Tryz.ntmps123
  go_wp2
  go_ret
  exact⟨rfl,rfl⟩
theorem zgn (s:ByteArray) (hs:s.size≤maxLen) (w:World):Calls Tryz.prog 165 #[.string s] w fun e w'=>e=.returned (.bool (zdb s))∧w'=w:=by
 have CC:=zaa (zhn s hs w);have HE:=zaa (show zdb s=(decide (1≤s.size)&&decide (s.size≤64)&&zc0 zch s.data.toList) from rfl);simp only[maxLen] at hs;generalize zc0 zch s.data.toList=b at *;by_cases h1:1≤s.size
 ·have i1:(1:Int)≤(s.size:Int):=by omega
  by_cases h2:s.size≤64
  ·have i2:(s.size:Int)≤64:=by omega
   rw[decide_eq_true h1,decide_eq_true h2,Bool.true_and,Bool.true_and] at HE;rw[za HE];go_enter Tryz.func165,Tryz.ntmps165
   go_wp2_with fail
   refine(za CC).mono ?_;rintro e w' ⟨rfl,rfl⟩
   go_wp2
   go_ret
   exact⟨rfl,rfl⟩
  ·have i2:¬ (s.size:Int)≤64:=by omega
   rw[decide_eq_false h2,Bool.and_false,Bool.false_and] at HE;rw[za HE];go_enter Tryz.func165,Tryz.ntmps165
   go_wp2
   go_ret
   exact⟨rfl,rfl⟩
 ·have i1:¬ (1:Int)≤(s.size:Int):=by omega
  rw[decide_eq_false h1,Bool.false_and,Bool.false_and] at HE;rw[za HE];go_enter Tryz.func165,Tryz.ntmps165
  go_wp2
  go_ret
  exact⟨rfl,rfl⟩
end
end Go.Proofs.YtjcjleaicjhpeaaGreatDoor
