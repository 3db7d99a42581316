/- Conf: done. -/
import Derived.Test.YtjcjleaicjhpeaaGreatDoorB21
set_option linter.unusedVariables false
set_option maxRecDepth 20000
set_option maxHeartbeats 16000000
namespace Go.Proofs.YtjcjleaicjhpeaaGreatDoor
section
open Go.ChangeShapes Go.WideShapes Go.ChangeAt Go.RowKit
def zdb (r:Int×Sm):(Int×Int)×Sm:=if r.1=0 then ((0,r.2.ver+1),{ r.2 with ver:=r.2.ver+1 }) else ((r.1,r.2.ver),r.2)
theorem zrx (c:Cmd) (a':Option Addr) (tc':Nat) (x:Sm):(zf5 c a' tc' x).2.ver=x.ver:=by
 unfold zf5 zfz zd8 zdz zeo
 repeat' split
 all_goals rfl
theorem zrw (c:Cmd) (a':Option Addr) (tc':Nat) (x:Sm):0≤(zf5 c a' tc' x).1∧(zf5 c a' tc' x).1≤13:=by
 unfold zf5 zfz zd8 zdz zeo
 repeat' split
 all_goals simp
theorem StAt.aside {w w':World} {h:StH} {x:Sm} (s:StAt w h x) {r:Nat} {cs:Array Value} {T:TypeId} (hg:w.grownBy w' (some r)) (hr:w.heap[r]? = some (.cells cs T (0,0))) (hcs:∀ (k:Nat) (t:ByteArray),cs[k]?≠some (Value.string t)) (hS:h.S≠r):StAt w' h x:=by
 have nm:∀ (g:Nat) (es:Array MapEntry) (k:Nat),w.heap[g]? = some (Obj.map es k)→w'.heap[g]? = w.heap[g]?:=fun g es k hm=>hg.block g (Array.getElem?_eq_some_iff.1 hm).1 (fun e=>by
  have:=Option.some.inj e;subst this;rw[hr] at hm
  cases hm)
 obtain⟨e1,k1,m1⟩:=s.pm.isMap;obtain⟨e2,k2,m2⟩:=s.rm.isMap;obtain⟨e3,k3,m3⟩:=s.cm.isMap;refine⟨(hg.block h.S (Array.getElem?_eq_some_iff.1 s.hd).1 (fun e=>hS (Option.some.inj e))).trans s.hd,s.pm.same (nm _ _ _ m1),s.rm.same (nm _ _ _ m2),s.cm.same (nm _ _ _ m3),fun p hp=>⟨(s.tg p hp).lt,fun i hi=>?_⟩,s.ne⟩;obtain⟨b,off,e,h1,h2⟩:=(s.tg p hp).cell i hi;have hb:b<w.heap.size:=(s.noText h1).1;have hne:b≠r:=fun e=>by
  subst e;rw[cell_of_row _ _ _ _ _ _ hr] at h1;exact hcs _ _ h1
 have hk:=hg.block b hb (fun e=>hne (Option.some.inj e));exact⟨b,off,e,(World.cell?_of_block hk).trans h1,(World.cell?_of_block hk).trans h2⟩
theorem Chg.newer {h:StH} {w w1 w2:World} {r:Nat} (c:Chg h w w1) (hg:w1.grownBy w2 (some r)) (hr:w.heap.size≤r):Chg h w w2 :=
 ⟨hg.os.trans c.os,hg.tape.trans c.tape,hg.output.trans c.output,Nat.le_trans c.size hg.size,fun g hl h1 h2 h3 h4=>(hg.block g (Nat.lt_of_lt_of_le hl c.size) (fun e=>by have:=Option.some.inj e;omega)).trans (c.block g hl h1 h2 h3 h4)⟩
theorem zej (a b:Int):∀ (k:Nat) (t:ByteArray),(#[Value.int .i64 a,Value.int .i64 b]:Array Value)[k]?≠some (.string t):=by
 intro k t e
 match k with
 |0=>simp at e
 |1=>simp at e
 |_+2=>simp at e
theorem zo3 {w:World} {h:StH} {x:Sm} (s:StAt w h x) (hx:SmOk x) (hv:x.ver+1≤9223372036854775807) (c:Cmd) (a:Option Addr) (tc:Nat) (hc:CmdAt w c a tc) (hs:SmallCmd c) :
  Calls Tryz.prog 40 #[.pointer (some ⟨h.S,0,none⟩),zc4 c a tc] w fun e w'=>∃ a' tc',e=.returned (.agg #[.int .i64 (zdb (zf5 c a' tc' x)).1.1,.int .i64 (zdb (zf5 c a' tc' x)).1.2])∧StAt w' h (zdb (zf5 c a' tc' x)).2∧Chg h w w':=by
 have b1:Below w.heap.size w (w.alloc (.cells (zdm c a tc) 33)):=(Below.refl _ _).alloc (Nat.le_refl _) _;have b2:=b1.alloc b1.size (.cells #[.int .i64 0,.int .i64 0] 38);have s1:(w.alloc (.cells (zdm c a tc) 33)).heap.size=w.heap.size+1:=by simp
 have X1:=zaa (show((w.alloc (.cells (zdm c a tc) 33)).alloc (.cells #[.int .i64 0,.int .i64 0] 38)).heap[w.heap.size]? = some (.cells (zdm c a tc) 33 (0,0)) by rw[Below.heap_alloc _ _ _ (by simp)];exact zad _ _);have X2:=zaa (show((w.alloc (.cells (zdm c a tc) 33)).alloc (.cells #[.int .i64 0,.int .i64 0] 38)).heap[w.heap.size+1]? = some (.cells #[.int .i64 0,.int .i64 0] 38 (0,0)) by rw[← s1];exact zad _ _);have Z2:=zaa (show((w.alloc (.cells (zdm c a tc) 33)).alloc (.cells #[.int .i64 0,.int .i64 0] 38)).heap.size=w.heap.size+2 by simp);have B2:=zaa b2;have LT:=zaa s.lts;have AC:=zaa (zp5 (s.later b2) hx c a tc (hc.later b2) hs);have AV:=zaa (fun a' tc'=>zrx c a' tc' x);have AE:=zaa (fun a' tc'=>zrw c a' tc' x);have hv2:=hx.ver.1;clear b1 b2 s1;unfold zdm at *;unfold zc4 at *;generalize zf5 c=AA at *;obtain⟨act,cli,seq,exp,host,pre,pool,ts⟩:=c;simp only at *;have k0:=zab (za X1) 0 _ rfl;have k1:=zab (za X1) 1 _ rfl;have k2:=zab (za X1) 2 _ rfl;have k3:=zab (za X1) 3 _ rfl;have k4:=zab (za X1) 4 _ rfl;have k5:=zab (za X1) 5 _ rfl;have k6:=zab (za X1) 6 _ rfl;have k7:=zab (za X1) 7 _ rfl;go_enter Tryz.func40,Tryz.ntmps40
 go_wp2_with fail
 generalize ((w.alloc (.cells #[.int .i64 act,.int .i64 cli,.int .i64 seq,.int .i64 exp,.string host,.string pre,.string pool,.slice a ts.length tc] 33)).alloc (.cells #[.int .i64 0,.int .i64 0] 38))=V at *;clear k0 k1 k2 k3 k4 k5 k6 k7;refine(za AC).mono ?_;rintro e U ⟨a',tc',rfl,sd,cd⟩;obtain⟨t1,t2,t3,t4⟩:=za LT;have hR:=zaa (show U.heap[w.heap.size+1]? = some (.cells #[.int .i64 0,.int .i64 0] 38 (0,0)) from(cd.block (w.heap.size+1) (by have:=za Z2;omega) (by omega) (by omega) (by omega) (by omega)).trans (za X2));have CD:=zaa ((Chg.below (h:=h) (za B2)).trans cd);have sv:=za AV a' tc';have se:=za AE a' tc';generalize hr:AA a' tc' x=r at *;obtain⟨er,y⟩:=r;simp only at sd sv se ⊢;have SD:=zaa sd;have c0:=sd.cell.1;rw[sv] at c0;have SV:=zaa sv;have HR:=zaa hr;have L1:=zaa (show h.S≠w.heap.size+1 by omega);have z0:=zab (za hR) 0 _ rfl;have z1:=zab (za hR) 1 _ rfl;have f0:U.frozen? ⟨w.heap.size+1,0,none⟩=false:=by simp[World.frozen?,za hR]
 have f1:U.frozen? ⟨w.heap.size+1,1,none⟩=false:=by simp[World.frozen?,za hR]
 clear sd cd sv hr t1 t2 t3 t4 AC;by_cases he:er=0
 ·as_aux_lemma =>
  subst he;have hd:zdb (0,y)=((0,x.ver+1),{ y with ver:=x.ver+1 }):=by unfold zdb;simp only[if_pos,za SV]
  have HD:=zaa hd;have sV:=(za SD).withV (x.ver+1);have SW:=zaa sV.1;have CW:=zaa ((za CD).trans sV.2);have hs0:=(za SD).hd;have fS:U.frozen? ⟨h.S,0,none⟩=false:=by simp[World.frozen?,hs0]
  have hR2:=zaa (show(U.setCell ⟨h.S,0,none⟩ (.int .i64 (x.ver+1))).heap[w.heap.size+1]? = some (.cells #[.int .i64 0,.int .i64 0] 38 (0,0)) from(heap_setCell_other U ⟨h.S,0,none⟩ (w.heap.size+1) _ (fun e=>za L1 e.symm)).trans (za hR));have y0:=sV.1.cell.1;have y1:=zab (za hR2) 0 _ rfl;have y2:=zab (za hR2) 1 _ rfl;have g0:(U.setCell ⟨h.S,0,none⟩ (.int .i64 (x.ver+1))).frozen? ⟨w.heap.size+1,0,none⟩=false:=by simp[World.frozen?,za hR2]
  have g1:(U.setCell ⟨h.S,0,none⟩ (.int .i64 (x.ver+1))).frozen? ⟨w.heap.size+1,1,none⟩=false:=by simp[World.frozen?,za hR2]
  obtain⟨a1,a2⟩:=zru (x:=.int .i64 0) (y:=.int .i64 (x.ver+1)) (za hR2);have A1:=zaa a1;have FS:=zaa ((za SW).aside a2 (za hR2) (zej _ _) (za L1));have FC:=zaa ((za CW).newer a2 (by omega));clear a1 a2 sV hs0 hd z0 z1 f0 f1
  go_wp2
  generalize (((U.setCell ⟨h.S,0,none⟩ (.int .i64 (x.ver+1))).setCell ⟨w.heap.size+1,0,none⟩ (.int .i64 0)).setCell ⟨w.heap.size+1,1,none⟩ (.int .i64 (x.ver+1)))=W9 at *;clear y0 y1 y2 g0 g1 fS c0;have o0:W9.cell? ⟨w.heap.size+1,0,none⟩=some (.int .i64 0):=zab (za A1) 0 _ rfl;have o1:W9.cell? ⟨w.heap.size+1,1,none⟩=some (.int .i64 (x.ver+1)):=zab (za A1) 1 _ rfl;exact bodyPost_ret (v:=.agg #[.int .i64 0,.int .i64 (x.ver+1)]) (by simp[results,Tryz.results40,go_sem,o0,o1]) rfl ⟨a',tc',by rw[za HR,za HD],by rw[za HR,za HD];exact za FS,za FC⟩
 ·as_aux_lemma =>
  have hd:zdb (er,y)=((er,x.ver),y):=by unfold zdb;simp only[if_neg he,za SV]
  have HD:=zaa hd;obtain⟨a1,a2⟩:=zru (x:=.int .i64 er) (y:=.int .i64 x.ver) (za hR);have A1:=zaa a1;have FS:=zaa ((za SD).aside a2 (za hR) (zej _ _) (za L1));have FC:=zaa ((za CD).newer a2 (by omega));clear a1 a2 hd
  go_wp2
  generalize ((U.setCell ⟨w.heap.size+1,0,none⟩ (.int .i64 er)).setCell ⟨w.heap.size+1,1,none⟩ (.int .i64 x.ver))=W9 at *;clear z0 z1 f0 f1 c0;have o0:W9.cell? ⟨w.heap.size+1,0,none⟩=some (.int .i64 er):=zab (za A1) 0 _ rfl;have o1:W9.cell? ⟨w.heap.size+1,1,none⟩=some (.int .i64 x.ver):=zab (za A1) 1 _ rfl;exact bodyPost_ret (v:=.agg #[.int .i64 er,.int .i64 x.ver]) (by simp[results,Tryz.results40,go_sem,o0,o1]) rfl ⟨a',tc',by rw[za HR,za HD],by rw[za HR,za HD];exact za FS,za FC⟩
def xC3:Cmd:=⟨2,0,0,-1,⟨#[]⟩,⟨#[]⟩,⟨#[97]⟩,[]⟩
def xS1 (a:Option Addr) (t:Nat):Sm:=⟨1,[⟨⟨⟨#[97]⟩,[(⟨#[116]⟩,4607182418800017408)]⟩,a,t⟩],[],[]⟩
def xS2 (a:Option Addr) (t:Nat):Sm:=⟨2,[⟨⟨⟨#[97]⟩,[(⟨#[116]⟩,4607182418800017408)]⟩,a,t⟩],[⟨⟨#[120,46,121]⟩,⟨#[47]⟩,⟨#[97]⟩⟩],[]⟩
def zfl (nm:ByteArray):Cmd:=⟨1,0,0,-1,⟨#[]⟩,⟨#[]⟩,nm,[(⟨#[116]⟩,4607182418800017408)]⟩
def ze8 (h p l:ByteArray):Cmd:=⟨3,0,0,-1,h,p,l,[]⟩
theorem zna (w:World) (nm:ByteArray):Calls Tryz.prog 20 #[.string nm] w fun e w'=>∃ B,e=.returned (zc4 (zfl nm) (some ⟨B,0,none⟩) 1)∧TgsAt w' (some ⟨B,0,none⟩) (zfl nm).ts∧Below w.heap.size w w':=by
 have b1:Below w.heap.size w (w.alloc (.cells #[.int .i64 1,.int .i64 0,.int .i64 0,.int .i64 (-1),.string ⟨#[]⟩,.string ⟨#[]⟩,.string nm,.slice (some ⟨w.heap.size+1,0,none⟩) 1 1] 33)):=(Below.refl _ _).alloc (Nat.le_refl _) _;have b2:=zaa (b1.alloc b1.size (.cells #[.string ⟨#[116]⟩,.float .f64 4607182418800017408] 70));have s1:(w.alloc (.cells #[.int .i64 1,.int .i64 0,.int .i64 0,.int .i64 (-1),.string ⟨#[]⟩,.string ⟨#[]⟩,.string nm,.slice (some ⟨w.heap.size+1,0,none⟩) 1 1] 33)).heap.size=w.heap.size+1:=by simp
 have X1:((w.alloc (.cells #[.int .i64 1,.int .i64 0,.int .i64 0,.int .i64 (-1),.string ⟨#[]⟩,.string ⟨#[]⟩,.string nm,.slice (some ⟨w.heap.size+1,0,none⟩) 1 1] 33)).alloc (.cells #[.string ⟨#[116]⟩,.float .f64 4607182418800017408] 70)).heap[w.heap.size]? = some (.cells #[.int .i64 1,.int .i64 0,.int .i64 0,.int .i64 (-1),.string ⟨#[]⟩,.string ⟨#[]⟩,.string nm,.slice (some ⟨w.heap.size+1,0,none⟩) 1 1] 33 (0,0)):=by rw[Below.heap_alloc _ _ _ (by simp)];exact zad _ _
 have X2:((w.alloc (.cells #[.int .i64 1,.int .i64 0,.int .i64 0,.int .i64 (-1),.string ⟨#[]⟩,.string ⟨#[]⟩,.string nm,.slice (some ⟨w.heap.size+1,0,none⟩) 1 1] 33)).alloc (.cells #[.string ⟨#[116]⟩,.float .f64 4607182418800017408] 70)).heap[w.heap.size+1]? = some (.cells #[.string ⟨#[116]⟩,.float .f64 4607182418800017408] 70 (0,0)):=by
  have h:=zad (w.alloc (.cells #[.int .i64 1,.int .i64 0,.int .i64 0,.int .i64 (-1),.string ⟨#[]⟩,.string ⟨#[]⟩,.string nm,.slice (some ⟨w.heap.size+1,0,none⟩) 1 1] 33)) (.cells #[.string ⟨#[116]⟩,.float .f64 4607182418800017408] 70);rw[s1] at h;exact h
 have g0:=zab X1 0 _ rfl;have g1:=zab X1 1 _ rfl;have g2:=zab X1 2 _ rfl;have g3:=zab X1 3 _ rfl;have g4:=zab X1 4 _ rfl;have g5:=zab X1 5 _ rfl;have g6:=zab X1 6 _ rfl;have g7:=zab X1 7 _ rfl;have t0:=zab X2 0 _ rfl;have t1:=zab X2 1 _ rfl
 have TG:=zaa (show TgsAt ((w.alloc (.cells #[.int .i64 1,.int .i64 0,.int .i64 0,.int .i64 (-1),.string ⟨#[]⟩,.string ⟨#[]⟩,.string nm,.slice (some ⟨w.heap.size+1,0,none⟩) 1 1] 33)).alloc (.cells #[.string ⟨#[116]⟩,.float .f64 4607182418800017408] 70)) (some ⟨w.heap.size+1,0,none⟩) (zfl nm).ts from⟨by simp[zfl],fun i hi=>by
  obtain rfl:i=0:=by simp[zfl] at hi;omega
  exact⟨w.heap.size+1,0,rfl,t0,t1⟩⟩)
 clear b1 s1 X1 X2 t0 t1;go_enter Tryz.func20,Tryz.ntmps20
 go_wp2
 exact bodyPost_ret (v:=.agg #[.int .i64 1,.int .i64 0,.int .i64 0,.int .i64 (-1),.string ⟨#[]⟩,.string ⟨#[]⟩,.string nm,.slice (some ⟨w.heap.size+1,0,none⟩) 1 1]) (by simp[results,Tryz.results20,go_sem,g0,g1,g2,g3,g4,g5,g6,g7]) rfl ⟨w.heap.size+1,rfl,za TG,za b2⟩
theorem zlh (w:World) (h p l:ByteArray):Calls Tryz.prog 23 #[.string h,.string p,.string l] w fun e w'=>e=.returned (zc4 (ze8 h p l) none 0)∧Below w.heap.size w w':=by
 have b1:=zaa (show Below w.heap.size w (w.alloc (.cells #[.int .i64 3,.int .i64 0,.int .i64 0,.int .i64 (-1),.string h,.string p,.string l,.slice none 0 0] 33)) from(Below.refl _ _).alloc (Nat.le_refl _) _);have X1:=zad w (.cells #[.int .i64 3,.int .i64 0,.int .i64 0,.int .i64 (-1),.string h,.string p,.string l,.slice none 0 0] 33);have g0:=zab X1 0 _ rfl;have g1:=zab X1 1 _ rfl;have g2:=zab X1 2 _ rfl;have g3:=zab X1 3 _ rfl;have g4:=zab X1 4 _ rfl;have g5:=zab X1 5 _ rfl;have g6:=zab X1 6 _ rfl;have g7:=zab X1 7 _ rfl;clear X1;go_enter Tryz.func23,Tryz.ntmps23
 go_wp2
 exact bodyPost_ret (v:=.agg #[.int .i64 3,.int .i64 0,.int .i64 0,.int .i64 (-1),.string h,.string p,.string l,.slice none 0 0]) (by simp[results,Tryz.results23,go_sem,g0,g1,g2,g3,g4,g5,g6,g7]) rfl ⟨rfl,za b1⟩
end
end Go.Proofs.YtjcjleaicjhpeaaGreatDoor
