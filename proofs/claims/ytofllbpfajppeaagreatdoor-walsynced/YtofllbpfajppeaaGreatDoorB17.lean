/- Logs: SetHard. -/
import Derived.Test.YtofllbpfajppeaaGreatDoorB16
import Derived.Test.YtofllbpfajppeaaGreatDoorB01
import Derived.Test.YtofllbpfajppeaaGreatDoorB10
set_option linter.unusedVariables false
set_option maxRecDepth 20000
set_option maxHeartbeats 16000000
namespace Go.Proofs.YtofllbpfajppeaaGreatDoor
section
open Go.ChangeShapes Go.WideShapes Go.ChangeAt Go.RowKit
def zmc (room n:Nat) (c:Wc) (t v:Nat) (ss:Ds):Nat×Ds×Wc×Nat :=
 if t=c.ht∧v=c.hv then (0,ss,c,n)
 else if (zc0 room n c (zb2 t v) ss).1≠0 then ((zc0 room n c (zb2 t v) ss).1,(zc0 room n c (zb2 t v) ss).2.1,c,(zc0 room n c (zb2 t v) ss).2.2)
 else (0,(zc0 room n c (zb2 t v) ss).2.1,{ c with ht:=t,hv:=v },(zc0 room n c (zb2 t v) ss).2.2)
section
variable {Av:Nat→Prop} {base:Nat} {w w':World} {L d M room N N':Nat} {ss ss':Ds} {c:Wc} {n:Nat} {ep:Option Addr} {ec:Nat} {hs:List (Option Addr×Nat)}
def ze0 (Av:Nat→Prop) (base L d M room N:Nat) (w:World) (r:Nat×Ds×Wc×Nat) (e:Ending) (w':World):Prop :=
 e=.returned (.int .i64 (r.1:Int))∧(∃ ep ec hs,WAt Av base w' L d M room N r.2.1 r.2.2.1 r.2.2.2 ep ec hs)∧Asd Av base w w'
theorem set2 {w:World} {g:Nat} {o a b c d e f x y:Value} {T:TypeId} (h:w.heap[g]? = some (.cells #[o,a,b,c,d,e,f] T (0,0))):((w.setCell ⟨g,3,none⟩ x).setCell ⟨g,4,none⟩ y).heap[g]? = some (.cells #[o,a,b,x,y,e,f] T (0,0))∧w.grownBy ((w.setCell ⟨g,3,none⟩ x).setCell ⟨g,4,none⟩ y) (some g):=by
 have h1:=heap_setCell_same w g 3 #[o,a,b,c,d,e,f] T x h;have h2:=heap_setCell_same _ g 4 _ T y h1;exact⟨h2,(zaf w g 3 x).trans (zaf _ g 4 y)⟩
theorem zvv (z:WAt Av base w L d M room N ss c n ep ec hs) (t v:Int) (h:¬ (0≤t∧t≤1099511627776∧0≤v∧v≤9)) :
  Calls Tryz.prog 31 #[.pointer (some ⟨L,0,none⟩),.agg #[.int .i64 t,.int .i64 v]] w (ze0 Av base L d M room N w (2,ss,c,n)):=by
 have b1:Below w.heap.size w (w.alloc (.cells #[.int .i64 t,.int .i64 v] 29)):=(Below.refl _ _).alloc (Nat.le_refl _) _;have X1:=zad w (.cells #[.int .i64 t,.int .i64 v] 29);have HC:=zaa (fun W=>zn7 t v W h);have x0:=zab X1 0 _ rfl;have x1:=zab X1 1 _ rfl;have B1:=zaa b1;have Z:=zaa z;clear z b1 X1 h;go_enter Tryz.func31,Tryz.ntmps31
 go_wp2_with fail
 clear x0 x1;generalize w.alloc _=w1 at *;go_at_call 72
 refine(za HC _).mono ?_;rintro e V1 ⟨rfl,v1⟩;have U1:=(za B1).trans (v1.mono (za B1).size);have FE:=zaa (show ze0 Av base L d M room N w (2,ss,c,n) (.returned (.int .i64 2)) V1 from⟨rfl,⟨ep,ec,hs,(za Z).later U1⟩,((za Z).asdB U1).sub (fun g hg=>.inl hg)⟩);clear v1 U1
 go_wp2
 go_ret
 exact za FE
theorem zlk (z:WAt Av base w L d M room N ss c n ep ec hs) (hN:N+2≤1000000) (t v:Nat) (ht:t≤1099511627776) (hv:v≤9) :
  Calls Tryz.prog 31 #[.pointer (some ⟨L,0,none⟩),.agg #[.int .i64 (t:Int),.int .i64 (v:Int)]] w (ze0 Av base L d M room (N+2) w (zmc room n c t v ss)):=by
 have WH:=zaa (show zmc room n c t v ss=(if t=c.ht∧v=c.hv then (0,ss,c,n)
  else if (zc0 room n c (zb2 t v) ss).1≠0 then ((zc0 room n c (zb2 t v) ss).1,(zc0 room n c (zb2 t v) ss).2.1,c,(zc0 room n c (zb2 t v) ss).2.2)
  else (0,(zc0 room n c (zb2 t v) ss).2.1,{ c with ht:=t,hv:=v },(zc0 room n c (zb2 t v) ss).2.2)) from rfl)
 generalize zmc room n c t v ss=wh at *;have b1:Below w.heap.size w (w.alloc (.cells #[.int .i64 (t:Int),.int .i64 (v:Int)] 29)):=(Below.refl _ _).alloc (Nat.le_refl _) _;have X1:=zaa (zad w (.cells #[.int .i64 (t:Int),.int .i64 (v:Int)] 29));have HC:=zaa (fun W=>zh0 t v W ht hv);have HL:=zaa (zg2 t v ht hv);have x0:=zab (za X1) 0 _ rfl;have x1:=zab (za X1) 1 _ rfl;have B1:=zaa b1;have Z:=zaa z;have TV:=zaa (show t≤1099511627776∧v≤9 from⟨ht,hv⟩);clear z b1 ht hv;go_enter Tryz.func31,Tryz.ntmps31
 go_wp2_with fail
 clear x0 x1;generalize w.alloc _=w1 at *;go_at_call 72
 refine(za HC _).mono ?_;rintro e V1 ⟨g1,m1,rfl,hm1,o1,v1⟩;have U1:=zaa ((za B1).trans (v1.mono (za B1).size));have X2:=zaa (zac v1 (za X1));have Z1:=zaa ((za Z).more (za U1));have SZ:=zaa (za B1).size;have O1:=zaa o1;clear v1 o1 HC;have x0:=zab (za X2) 0 _ rfl;have x1:=zab (za X2) 1 _ rfl;have R1:=zaa (za Z1).lg.row;have l3:V1.cell? ⟨L,3,none⟩=some (.int .i64 (c.ht:Int)):=zab (za R1) 3 _ rfl;have l4:V1.cell? ⟨L,4,none⟩=some (.int .i64 (c.hv:Int)):=zab (za R1) 4 _ rfl;have BD:=zaa (show ∀ k,Below V1.heap.size V1 (V1.drewN k) from fun k=>⟨rfl,rfl,rfl,Nat.le_refl _,fun _ _=>rfl⟩);by_cases h1:t=c.ht∧v=c.hv
 ·have FE:=zaa (show ∀ k,ze0 Av base L d M room (N+2) w wh (.returned (.int .i64 0)) (V1.drewN k) from fun k=>by
   have u:=(za U1).trans ((za BD k).mono (za U1).size);rw[za WH,if_pos h1]
   exact⟨rfl,⟨ep,ec,hs,((za Z).later u).monoN (by omega) hN⟩,((za Z).asdB u).sub (fun g hg=>.inl hg)⟩)
  obtain⟨rfl,rfl⟩:=h1
  go_wp2_with fail
  go_quiet (fail)
  go_wp2
  go_ret
  exact za FE _
 ·rw[if_neg h1] at WH;have h2:(((t:Int)==(c.ht:Int))=true∧((v:Int)==(c.hv:Int))=false∧¬ (v:Int)=(c.hv:Int))∨(((t:Int)==(c.ht:Int))=false∧¬ (t:Int)=(c.ht:Int)):=by
   by_cases h2:t=c.ht
   ·left
    have h3:v≠c.hv:=fun h=>h1 ⟨h2,h⟩;exact⟨by simp[h2],by simp;omega,by omega⟩
   ·right
    exact⟨by simp;omega,by omega⟩
  clear h1;rcases h2 with⟨k1,k2,k3⟩|⟨k1,k2⟩
  focus
   go_wp2_with fail
   go_quiet (fail)
  rotate_left
  focus
   go_wp2_with fail
   go_quiet (fail)
  all_goals
   have Z2:=zaa ((za Z1).later (za BD nq));have O2:=zaa ((za O1).later (za BD nq));have X3:=zaa (zac (za BD nq) (za X2));have A2:=zaa (((za Z).asdB ((za U1).trans ((za BD nq).mono (za U1).size))).sub (Bv:=Av) (fun g hg=>.inl hg));have S1:=zaa (show V1.heap.size=(V1.drewN nq).heap.size from rfl);clear k1 k2;try clear k3
   clear l3 l4 x0 x1 R1 BD X2 X1;generalize V1.drewN nq=V2 at *
   have AC:=zaa (zgn (za Z2) hN (some ⟨g1,0,none⟩) m1 m1 (zb2 t v) (za hm1) (Nat.le_refl _) (za O2).bytes (fun h=>by cases h) (fun g off e h0=>.inr (.inr ⟨by
    have h1:=((za O2).blk_lt g (by rw[e];rfl)).1;have h2:=za SZ
    omega,by rw[za S1];exact((za O2).blk_lt g (by rw[e];rfl)).2⟩)) (by have:=za hm1;have:=za HL;omega))
   generalize zc0 room n c (zb2 t v) ss=r3 at *;obtain⟨e3,s3,n3⟩:=r3;try dsimp only at WH
   go_wp2_with fail
   go_at_call 66
   refine(za AC).mono ?_;rintro e V3 ⟨rfl,z3,a3⟩;have A3:=zaa ((za A2).trans (a3.sub (Bv:=Av) (fun g hg=>.inl hg)));have X4:=zaa ((a3.av w.heap.size (.inr ⟨Nat.le_refl _,by rw[za S1];exact(Array.getElem?_eq_some_iff.1 (za X3)).1⟩)).trans (za X3));have Z3:=zaa z3;clear z3 a3 AC;dsimp only;by_cases h3:e3=0
   ·subst h3;rw[if_neg (by simp)] at WH;have R3:=zaa (za Z3).lg.row;obtain⟨l1,l2⟩:=set2 (x:=.int .i64 (t:Int)) (y:=.int .i64 (v:Int)) (za R3);have zok:=(za Z3).ok;obtain⟨p1,p2⟩:=(za Z3).put (c2:={ c with ht:=t,hv:=v }) (n':=n3) (hs2:=hs) ⟨l1⟩ l2 (za Z3).ow (fun g hg=>.inr hg) ⟨zok.bi,zok.bt,(za TV).1,(za TV).2,zok.es⟩ (za Z3).nn (za Z3).le
    have FE:=zaa (show ze0 Av base L d M room (N+2) w wh (.returned (.int .i64 0)) ((V3.setCell ⟨L,3,none⟩ (.int .i64 (t:Int))).setCell ⟨L,4,none⟩ (.int .i64 (v:Int))) by
     rw[za WH]
     exact⟨rfl,⟨ep,ec,hs,p1.sub (fun g hg=>⟨.inl hg,((za Z).av g hg).2⟩)⟩,(za A3).trans (p2.sub (fun g hg=>.inl hg))⟩)
    have x0:V3.cell? ⟨w.heap.size,0,none⟩=some (.int .i64 (t:Int)):=zab (za X4) 0 _ rfl;have x1:V3.cell? ⟨w.heap.size,1,none⟩=some (.int .i64 (v:Int)):=zab (za X4) 1 _ rfl;have m3:V3.cell? ⟨L,3,none⟩=some (.int .i64 (c.ht:Int)):=zab (za R3) 3 _ rfl;have m4:V3.cell? ⟨L,4,none⟩=some (.int .i64 (c.hv:Int)):=zab (za R3) 4 _ rfl;have f3:=zbj (za R3) 3;have f4:=zbj (za R3) 4;clear p1 p2 l1 l2 zok
    go_wp2
    go_ret
    exact za FE
   ·rw[if_pos h3] at WH;have h3':((e3:Int)==0)=false:=by simp;omega
    have h3'':¬ (e3:Int)=0:=by omega
    have FE:=zaa (show ze0 Av base L d M room (N+2) w wh (.returned (.int .i64 (e3:Int))) V3 by
     rw[za WH]
     exact⟨rfl,⟨ep,ec,hs,(za Z3).sub (fun g hg=>.inl hg)⟩,za A3⟩)
    go_wp2
    go_ret
    exact za FE
end
theorem zuv (ad:Addr) (n c:Nat) (w:World):(binOp .eql 62 (.slice (some ad) n c) (.slice none 0 0)).run Tryz.prog w=.ok (.bool false) w:=by kernel_rfl
theorem zuu (n c:Nat) (w:World):(binOp .eql 62 (.slice none n c) (.slice none 0 0)).run Tryz.prog w=.ok (.bool true) w:=by kernel_rfl
theorem zkh (a:Option Addr) (n c:Nat) (l:List Nat) (w:World) (hn:l.length=n) (hl:n≤140737488355328) (hb:BytesAt w a l) (hz:a=none→c=0) :
  Calls Tryz.prog 51 #[.slice a n c] w fun e w'=>∃ sp' c',e=.returned (.slice sp' n c')∧OwnB w.heap.size w' sp' c' l∧Below w.heap.size w w':=by
 cases a with
 |none =>
  obtain rfl:l=[]:=by
   cases l with
   |nil=>rfl
   |cons x r=>obtain⟨b,off,h,_⟩:=hb.cell 0 (by simp);cases h
  obtain rfl:=hz rfl;obtain rfl:0=n:=hn;have hq:=zuu 0 0 w;clear hb hz;go_enter Tryz.func51,Tryz.ntmps51
  go_wp2
  go_ret
  exact⟨none,0,rfl,OwnB.ofNil _ _,Below.refl _ _⟩
 |some ad =>
  have O1:=zaa (OwnB.empty w w.heap.size (Nat.le_refl _));have b1:=zaa (show Below w.heap.size w (w.alloc (.cells #[] 5)) from(Below.refl _ _).alloc (Nat.le_refl _) _);have HB:=zaa (hb.later (za b1));have HN:=zaa hn;have hq:=zuv ad n c w;clear hb hz hn;go_enter Tryz.func51,Tryz.ntmps51
  go_wp2_with (at_builtin;refine za ?_)
  refine zaa ?_;refine zby rfl (.tmp 5) (.tmp 6) rfl w.heap.size (some ⟨w.heap.size,0,none⟩) 0 0 [] rfl rfl (za O1) (some ad) n c rfl l (za HN) (za HB) (fun h=>by cases h) (by simp only[List.length_nil];omega) (by exact(za b1).size) ?_;intro sp2 n2 c2 W2 hn2 ho2 hg2 hl2;rw[List.nil_append] at hn2 ho2;obtain rfl:n=n2:=(za HN).symm.trans (za hn2);have B2:=zaa ((za b1).grown hg2 (za b1).size (fun g hg=>by have:=Option.some.inj hg;simp only at this;omega));have O2:=zaa ho2;clear hg2 hl2 ho2
  go_wp2
  go_ret
  exact⟨sp2,c2,rfl,za O2,za B2⟩
def toN (e:EntI):EntN:=(e.1.toNat,e.2.1.toNat,e.2.2.1.toNat,e.2.2.2)
def zbk (c:Wc) (es:List EntI):Wc:=es.foldl (fun c e=>zfb c (toN e)) c
theorem zh:∀ {es:List EntI} {b:List Nat},zcl es=.ok b→∀ e∈es,toI (toN e)=e∧EOk (toN e)
 |[],_,_,e,he=>by simp at he
 |x::r,b,h,e,he=>by
  rw[zdh] at h;cases hp:zi6 x with
  |error y=>rw[hp] at h;cases h
  |ok c =>
   rw[hp] at h;dsimp only at h;cases hr:zcl r with
   |error y=>rw[hr] at h;cases h
   |ok m =>
    rcases List.mem_cons.1 he with rfl|he
    ·obtain⟨k,t,i,h1,h2,h3,h4,h5,_,_⟩:=zk1 hp;obtain⟨⟨a1,a2⟩,⟨b1,b2⟩,⟨c1,c2⟩,d1⟩:=h4;obtain⟨ek,et,ei,ed⟩:=e;dsimp only at h1 h2 h3 h5 d1;subst h1 h2 h3;refine⟨by simp[toI,toN],⟨⟨?_,?_⟩,⟨?_,?_⟩,⟨?_,?_⟩,?_,h5⟩⟩ <;> simp only[toN,Int.toNat_natCast]
     ·omega
     ·omega
     ·omega
     ·omega
     ·omega
     ·omega
     ·intro hk;rcases d1 with d1|d1
      ·omega
      ·exact List.eq_nil_of_length_eq_zero d1
    ·exact zh hr e he
theorem zk6:∀ {es:List EntI} {b:List Nat},zcl es=.ok b→b.length≤es.length*2100
 |[],_,h=>by cases h;simp
 |x::r,b,h=>by
  rw[zdh] at h;cases hp:zi6 x with
  |error y=>rw[hp] at h;cases h
  |ok c =>
   rw[hp] at h;dsimp only at h;cases hr:zcl r with
   |error y=>rw[hr] at h;cases h
   |ok m =>
    rw[hr] at h;cases h
    have ih:=zk6 hr;obtain⟨k,t,i,_,_,_,_,_,_,h7⟩:=zk1 hp;rw[List.length_append,zdc,List.length_cons];omega
theorem zf7 (c:Wc) (es:List EntI) (j:Nat) (hj:j<es.length):zbk c (es.take (j+1))=zfb (zbk c (es.take j)) (toN es[j]):=by
 unfold zbk;rw[List.take_succ_eq_append_getElem hj,List.foldl_append];rfl
theorem zgr (c:Wc) (es:List EntI):(zbk c es).bi=c.bi∧(zbk c es).bt=c.bt∧(zbk c es).ht=c.ht∧(zbk c es).hv=c.hv:=by
 unfold zbk;induction es generalizing c with
 |nil=>exact⟨rfl,rfl,rfl,rfl⟩
 |cons e r ih=>exact ih (zfb c (toN e))
theorem zpa {c:Wc} (hc:WOk c):∀ (es:List EntI),(∀ e∈es,EOk (toN e))→WOk (zbk c es):=by
 intro es;unfold zbk;induction es generalizing c with
 |nil=>exact fun _=>hc
 |cons e r ih =>
  intro h;refine ih (c:=zfb c (toN e)) ⟨hc.bi,hc.bt,hc.ht,hc.hv,fun x hx=>?_⟩ (fun x hx=>h x (by simp[hx]));rcases List.mem_append.1 hx with hx|hx
  ·exact hc.es x (List.mem_of_mem_take hx)
  ·rw[List.mem_singleton.1 hx];exact h e (by simp)
theorem zhg (c:Wc) (es:List EntI):(zbk c es).es.length≤c.es.length+es.length:=by
 unfold zbk;induction es generalizing c with
 |nil=>exact Nat.le_refl _
 |cons e r ih =>
  have:=ih (zfb c (toN e));rw[List.foldl_cons,List.length_cons];have h2:(zfb c (toN e)).es.length≤c.es.length+1:=by
   unfold zfb;rw[List.length_append,List.length_take];simp only[List.length_singleton];omega
  omega
theorem znx:∀ (i:Int) (es:List EntI),zfg i es=true→∀ j (hj:j<es.length),es[j].2.2.1=i+1+j
 |_,[],_,j,hj=>by simp at hj
 |i,e::r,h,j,hj=>by
  rw[zid,Bool.and_eq_true,beq_iff_eq] at h;cases j with
  |zero=>simp only[List.getElem_cons_zero];omega
  |succ j =>
   have:=znx _ r h.2 j (by simp only[List.length_cons] at hj;omega);simp only[List.getElem_cons_succ];rw[this,h.1];omega
theorem zwy {c:Wc} {es:List EntI} (h:zcn c es=true) (hp:∀ e∈es,1≤e.2.2.1):∀ j (hj:j<es.length),c.bi<es[j].2.2.1.toNat∧es[j].2.2.1.toNat≤c.bi+(zbk c (es.take j)).es.length+1:=by
 cases es with
 |nil=>intro j hj;simp at hj
 |cons e r =>
  rw[zgy,Bool.and_eq_true] at h;obtain⟨h1,h2⟩:=h;unfold zde at h1;rw[Bool.and_eq_true,decide_eq_true_eq,decide_eq_true_eq] at h1;have hix:∀ j (hj:j<(e::r).length),(e::r)[j].2.2.1=e.2.2.1+j:=by
   intro j hj;cases j with
   |zero=>simp
   |succ j =>
    have:=znx _ r h2 j (by simp only[List.length_cons] at hj;omega);simp only[List.getElem_cons_succ];rw[this];omega
  intro j;induction j with
  |zero =>
   intro hj;have:=hix 0 hj;simp only[List.getElem_cons_zero,List.take_zero] at this ⊢;have h0:(zbk c []).es=c.es:=rfl;rw[h0];omega
  |succ j ih =>
   intro hj;have ih:=ih (by omega);have h3:=hix (j+1) hj;have h4:=hix j (by omega);rw[zf7 c (e::r) j (by omega)];have hb:=(zgr c ((e::r).take j)).1;have h5:(zfb (zbk c ((e::r).take j)) (toN (e::r)[j])).es.length=(e::r)[j].2.2.1.toNat - c.bi:=by
    unfold zfb;rw[List.length_append,List.length_take,hb];simp only[List.length_singleton,toN];omega
   rw[h5];omega
def zev (room n:Nat) (c:Wc) (es:List EntI) (ss:Ds):Nat×Ds×Wc×Nat :=
 match zcl es with
 |.error x=>(x,ss,c,n)
 |.ok b =>
  if zcn c es=false then (2,ss,c,n)
  else if es.length=0 then (0,ss,c,n)
  else if (zc0 room n c b ss).1≠0 then ((zc0 room n c b ss).1,(zc0 room n c b ss).2.1,c,(zc0 room n c b ss).2.2)
  else (0,(zc0 room n c b ss).2.1,zbk c es,(zc0 room n c b ss).2.2)
structure EntsIn (P:Nat→Prop) (w:World) (a:Option Addr) (es:List EntI):Prop where
 at_:EntsAt w a es
 row:∀ b off,a=some ⟨b,off,none⟩→0<es.length→P b
 dat:∀ i (hi:i<es.length) b off dp dc n,a=some ⟨b,off,none⟩→w.cell? ⟨b,off+i*4+3,none⟩=some (.slice dp n dc)→∀ g o,dp=some ⟨g,o,none⟩→0<(es[i]).2.2.2.length→P g
section
variable {Av:Nat→Prop} {base:Nat} {w w':World} {L d M room N N':Nat} {ss ss':Ds} {c:Wc} {n:Nat} {ep:Option Addr} {ec:Nat} {hs:List (Option Addr×Nat)}
theorem EntsIn.asd {a:Option Addr} {es:List EntI} (h:EntsIn (fun g=>g<base∨Av g) w a es) (ha:Asd Av base w w'):EntsIn (fun g=>g<base∨Av g) w' a es:=by
 have hk:∀ g,(g<base∨Av g)→w'.heap[g]? = w.heap[g]?:=fun g hg=>hg.elim (ha.bel.block g) (ha.av g);refine⟨⟨fun i hi=>?_⟩,h.row,fun i hi b off dp dc n e hc=>?_⟩
 ·obtain⟨b,off,dp,dc,h0,h1,h2,h3,h4,h5,h6⟩:=h.at_.cell i hi;have hb:=hk b (h.row b off h0 (by omega));refine⟨b,off,dp,dc,h0,(World.cell?_of_block hb).trans h1,(World.cell?_of_block hb).trans h2,(World.cell?_of_block hb).trans h3,(World.cell?_of_block hb).trans h4,⟨h5.lt,fun k hk2=>?_⟩,h6⟩;obtain⟨g,o,e1,e2⟩:=h5.cell k hk2;exact⟨g,o,e1,(World.cell?_of_block (hk g (h.dat i hi b off dp dc _ h0 h4 g o e1 (by omega)))).trans e2⟩
 ·have hb:=hk b (h.row b off e (by omega));exact h.dat i hi b off dp dc n e ((World.cell?_of_block hb).symm.trans hc)
theorem EntsIn.ofLt {a:Option Addr} {es:List EntI} (h:EntsAt w a es):EntsIn (fun g=>g<w.heap.size) w a es:=by
 have lt:∀ b i v,w.cell? ⟨b,i,none⟩=some v→b<w.heap.size:=fun b i v hc=>by
  by_cases hb:b<w.heap.size
  ·exact hb
  ·unfold World.cell? at hc;simp only[Array.getElem?_eq_none (Nat.not_lt.1 hb)] at hc;cases hc
 refine⟨h,fun b off e h0=>?_,fun i hi b off dp dc n e hc g o e1 h0=>?_⟩
 ·obtain⟨b',off',dp,dc,q0,q1,_⟩:=h.cell 0 h0;rw[e] at q0;cases q0
  exact lt b _ _ q1
 ·obtain⟨b',off',dp',dc',q0,_,_,_,q4,q5,_⟩:=h.cell i hi;rw[e] at q0;cases q0
  rw[hc] at q4;simp only[Option.some.injEq,Value.slice.injEq] at q4;obtain⟨rfl,_,_⟩:=q4;obtain⟨g',o',e2,e3⟩:=q5.cell 0 h0;rw[e1] at e2;cases e2
  exact lt g _ _ e3
theorem EntsIn.sub {P Q:Nat→Prop} {a:Option Addr} {es:List EntI} (h:EntsIn P w a es) (hs:∀ g,P g→Q g):EntsIn Q w a es :=
 ⟨h.at_,fun b off e h0=>hs b (h.row b off e h0),fun i hi b off dp dc n e hc g o e1 h0=>hs g (h.dat i hi b off dp dc n e hc g o e1 h0)⟩
theorem DAt.grow (h:DAt Av base w d M room N ss) (hs:∀ g,g<w.heap.size→¬ Av g→w'.heap[g]? = w.heap[g]?) (hz:w.heap.size≤w'.heap.size):DAt (fun g=>Av g∨(w.heap.size≤g∧g<w'.heap.size)) base w' d M room N ss:=by
 obtain⟨fs,h1,h2,h3⟩:=h.at_;refine⟨Nat.le_trans h.le hz,h.few,fs,h1.same (fun g hg hm=>hs g hg (fun ha=>?_)),h2,fun g hg=>?_⟩
 ·rcases hm with hm|hm
  ·exact(h3 g ha).2.1 hm
  ·exact(h3 g ha).2.2 hm
 ·rcases hg with hg|⟨g1,g2⟩
  ·exact⟨Nat.lt_of_lt_of_le (h3 g hg).1 hz,(h3 g hg).2⟩
  ·refine⟨g2,fun hm=>?_,fun hm=>?_⟩
   ·have:=(h1.mut_lt hm).2;omega
   ·have:=(h1.red_lt hm).2;omega
theorem WAt.added (z:WAt Av base w L d M room N ss c n ep ec hs) {V:World} (u:Below w.heap.size w V) {c':Wc} {ep':Option Addr} {ec':Nat} {hs':List (Option Addr×Nat)} (hC:CtAt w' L 84 [.pointer (some ⟨d,0,none⟩)] [.int .i64 (n:Int)] c' ep' ec') (hO:OwnL base w' ep' ec' c'.es hs') (hg:Grew2 L (blk ep) V w') (hf:∀ g,zc6 ep' hs' g→zc6 ep hs g∨w.heap.size≤g) (hok:WOk c') (hle:c'.es.length≤1000000) :
  WAt Av base w' L d M room N ss c' n ep' ec' hs'∧Asd Av base w w':=by
 have hz:w.heap.size≤w'.heap.size:=Nat.le_trans u.size hg.size;have hs1:∀ g,g<w.heap.size→¬ (Av g∨g=L∨zc6 ep hs g)→w'.heap[g]? = w.heap[g]?:=fun g h1 h2 =>
  (hg.block g (Nat.lt_of_lt_of_le h1 u.size) (fun e=>h2 (.inr (.inl e))) (fun e=>h2 (.inr (.inr (.inl e))))).trans (u.block g h1)
 have hA:∀ g,Av g→w'.heap[g]? = w.heap[g]?:=fun g h1 =>
  (hg.block g (Nat.lt_of_lt_of_le (z.dk.lt (.inl h1)) u.size) (z.av g h1).1 (fun e=>(z.av g h1).2 (.inl e))).trans (u.block g (z.dk.lt (.inl h1)))
 have hb:Below base w w':=by
  refine⟨hg.os.trans u.os,hg.tape.trans u.tape,hg.output.trans u.output,hz,fun g h1=>?_⟩;refine(hg.block g (Nat.lt_of_lt_of_le h1 (Nat.le_trans z.dk.le u.size)) (fun e=>by have:=z.bl;omega) (fun e=>?_)).trans (u.block g (Nat.lt_of_lt_of_le h1 z.dk.le));have:=(z.ow.foot g (.inl e)).1;omega
 refine⟨⟨(z.dk.grow hs1 hz).av (fun g h1=>?_),hC,hO,z.bl,fun g h1=>⟨(z.av g h1).1,fun h2=>?_⟩,hok,z.nn,hle,let ⟨w0,q1,q2,q3⟩:=z.tz;⟨w0,q1,q2,q3.trans hb⟩⟩,hA,hb⟩
 ·rcases h1 with h1|h1|h1
  ·exact .inl (.inl h1)
  ·exact .inl (.inr (.inl h1))
  ·rcases hf g h1 with q|q
   ·exact .inl (.inr (.inr q))
   ·exact .inr ⟨q,(hO.foot g h1).2.1⟩
 ·rcases hf g h2 with q|q
  ·exact(z.av g h1).2 q
  ·have:=z.dk.lt (.inl h1);omega
end
theorem ztv:∀ {es:List EntI} {x:Nat},zcl es=.error x→x≠0
 |[],_,h=>by cases h
 |e::r,x,h=>by
  rw[zdh] at h;cases hp:zi6 e with
  |error y =>
   rw[hp] at h;cases h
   unfold zi6 at hp;split at hp
   ·split at hp
    ·cases hp
    ·cases hp;omega
   ·cases hp;omega
  |ok c =>
   rw[hp] at h;dsimp only at h;cases hr:zcl r with
   |error y=>rw[hr] at h;cases h;exact ztv hr
   |ok m=>rw[hr] at h;cases h
section
variable {Av:Nat→Prop} {base:Nat} {w w':World} {L d M room N N':Nat} {ss ss':Ds} {c:Wc} {n:Nat} {ep:Option Addr} {ec:Nat} {hs:List (Option Addr×Nat)}
theorem zjq (z:WAt Av base w L d M room N ss c n ep ec hs) (hN:N+2≤1000000) (a:Option Addr) (m k:Nat) (es:List EntI) (hm:es.length=m) (hE:EntsIn (fun g=>g<base∨Av g) w a es) (hl:c.es.length+m≤1000000) :
  Calls Tryz.prog 29 #[.pointer (some ⟨L,0,none⟩),.slice a m k] w (ze0 Av base L d M room (N+2) w (zev room n c es ss)):=by
 have WH:=zaa (show zev room n c es ss=(match zcl es with
  |.error x=>(x,ss,c,n)
  |.ok b =>
   if zcn c es=false then (2,ss,c,n)
   else if es.length=0 then (0,ss,c,n)
   else if (zc0 room n c b ss).1≠0 then ((zc0 room n c b ss).1,(zc0 room n c b ss).2.1,c,(zc0 room n c b ss).2.2)
   else (0,(zc0 room n c b ss).2.1,zbk c es,(zc0 room n c b ss).2.2)) from rfl)
 generalize zev room n c es ss=wh at *;have Z:=zaa z;have HE:=zaa hE;have HM:=zaa hm;have EC:=zaa (zfi a m k es w hm hE.at_ (by omega));have FS:=zaa (show ∀ (r:Nat) W,Below w.heap.size w W→ze0 Av base L d M room (N+2) w (r,ss,c,n) (.returned (.int .i64 (r:Int))) W from fun r W u=>⟨rfl,⟨ep,ec,hs,(z.later u).monoN (by omega) hN⟩,(z.asdB u).sub (fun g hg=>.inl hg)⟩);clear z hE hm;cases hr:zcl es with
 |error x =>
  rw[hr] at WH EC;have hx:=ztv hr;have hx0:¬ (x:Int)=0:=by omega
  have hx1:((x:Int)==0)=false:=by simp;omega
  clear hr hx;go_enter Tryz.func29,Tryz.ntmps29
  go_wp2_with fail
  go_at_call 64
  refine(za EC).mono ?_;rintro e V1 ⟨v1,rfl⟩;have FE:=zaa (za FS x V1 v1);clear v1
  go_wp2
  go_ret
  rw[za WH];exact za FE
 |ok b =>
  rw[hr] at WH EC;dsimp only at WH;have AL:=zaa (zh hr);have RL:=zaa (zk6 hr)
  have IX:=zaa (show ∀ e∈es,1≤e.2.2.1∧e.2.2.1≤1099511627776 from fun e he=>by
   obtain⟨h1,⟨_,_,⟨h2,h3⟩,_⟩⟩:=zh hr e he;simp only[toN] at h2 h3
   omega)
  clear hr;go_enter Tryz.func29,Tryz.ntmps29
  go_wp2_with fail
  go_at_call 64
  refine(za EC).mono ?_;rintro e V1 ⟨v1,sp1,n1,k1,rfl,hn1,o1⟩;have U1:=zaa v1;have O1:=zaa o1;have FC:=zaa (zpt ((za Z).later v1).lg 1 rfl (za Z).ok.bi (za Z).le a m k es (za HM) (by omega) ((za HE).at_.later v1) (za IX));clear v1 o1 EC
  go_wp2_with fail
  go_at_call 65
  refine(za FC).mono ?_;rintro e V2 ⟨rfl,v2⟩;have U2:=zaa ((za U1).trans (v2.mono (za U1).size));have O2:=zaa ((za O1).later v2);clear v2 O1 FC;cases hfa:zcn c es with
  |false =>
   rw[if_pos hfa] at WH;have FE:=zaa (za FS 2 V2 (za U2));clear hfa
   go_wp2
   go_ret
   rw[za WH];exact za FE
  |true =>
   rw[if_neg (by rw[hfa];simp)] at WH;by_cases h0:m=0
   ·rw[if_pos (by rw[za HM];exact h0)] at WH;have h0':((m:Int)==0)=true:=by simp[h0]
    have FE:=zaa (za FS 0 V2 (za U2));clear h0 hfa
    go_wp2
    go_ret
    rw[za WH];exact za FE
   ·rw[if_neg (by rw[za HM];exact h0)] at WH;have h0':((m:Int)==0)=false:=by simp;omega
    have h0'':¬ (m:Int)=0:=by omega
    have FA:=zaa (zwy hfa (fun e he=>(za IX e he).1));have Z2:=zaa ((za Z).more (za U2))
    have AC:=zaa (zgn (za Z2) hN sp1 n1 k1 b (za hn1) (by rw[← za hn1];exact(za O2).cap.1) (za O2).bytes (za O2).toBx.nil0 (fun g off e h0=>.inr (.inr ⟨by
     have h1:=((za O2).blk_lt g (by rw[e];rfl)).1
     omega,((za O2).blk_lt g (by rw[e];rfl)).2⟩)) (by have:=za hn1;have:=za RL;have:=za HM;omega))
    generalize zc0 room n c b ss=r3 at *;obtain⟨e3,s3,n3⟩:=r3;try dsimp only at WH
    clear h0 hfa
    go_wp2_with fail
    go_at_call 66
    refine(za AC).mono ?_;rintro e V3 ⟨rfl,z3,a3⟩;have A3:=zaa ((((za Z).asdB (za U2)).sub (Bv:=Av) (fun g hg=>.inl hg)).trans (a3.sub (Bv:=Av) (fun g hg=>.inl hg)));have Z3:=zaa (z3.sub (Bv:=Av) (fun g hg=>.inl hg));clear z3 a3 AC;dsimp only at *;by_cases h3:e3=0
    ·subst h3;rw[if_neg (by simp)] at WH;rw[show((0:Nat):Int)=0 from rfl]
     go_wp2_with fail
     go_loopw [37] (fun i wr=>∃ (j:Nat) (ep:Option Addr) (ec:Nat) (hs:List (Option Addr×Nat)),j≤m∧i=.int .i64 (j:Int)∧Hid (WAt Av base wr L d M room (N+2) s3 (zbk c (es.take j)) n3 ep ec hs)∧Hid (Asd Av base w wr)) (fun i _=>m - (intOf i).toNat)
     case atStart=>exact⟨0,ep,ec,hs,by omega,rfl,Z3,A3⟩
     case round =>
      clear Z3 A3;obtain⟨j,ep,ec,hs,hj,rfl,Z4,A4⟩:=hrel;by_cases hjm:j<m
      ·have y0:(0:Int)≤(j:Int):=by omega
       have y1:(j:Int)<(m:Int):=by omega
       have hjl:j<es.length:=by rw[za HM];exact hjm
       obtain⟨b',off,dp,dc,rfl,p0,p1,p2,p3,q4,nz⟩:=((za HE).asd (za A4)).at_.cell j hjl;obtain⟨hx1,hx2⟩:=za AL es[j] (List.getElem_mem hjl);have FJ:=za FA j hjl;have ST:=zf7 c es j hjl;have OK1:=zaa (zpa (za Z).ok (es.take (j+1)) (fun e he=>(za AL e (List.mem_of_mem_take he)).2))
       have LE1:=zaa (show(zbk c (es.take (j+1))).es.length≤1000000 by
        have h1:=zhg c (es.take (j+1));rw[List.length_take] at h1
        omega)
       have LE0:=(za Z4).le;have BI0:(zbk c (es.take j)).bi=c.bi:=(zgr c (es.take j)).1;obtain⟨x,hx⟩:∃ x,toN es[j]=x:=⟨_,rfl⟩
       rw[hx] at hx1 hx2 ST;rw[← hx1] at p0 p1 p2 p3 q4 FJ;obtain⟨xk,xt,xi,xd⟩:=x;simp only[toI] at p0 p1 p2 p3 q4 FJ;rw[Int.toNat_natCast] at FJ;have hxd:xd.length≤2048:=hx2.2.2.2.2;have cbi:=(za Z).ok.bi;have AD:=zaa (fun (W:World) (u:Below wr.heap.size wr W) (sp:Option Addr) (k:Nat) (hb:Bx base W sp k xd)=>zpd (e:=(xk,xt,xi,xd)) ((za Z4).later u).lg 1 rfl (by decide) (by decide) ((za Z4).later u).ow (by rw[BI0];exact cbi) LE0 sp xd.length k rfl hb (by dsimp only;rw[BI0];exact FJ.1) (by dsimp only;rw[BI0];exact FJ.2) (Nat.le_trans (za Z4).dk.le u.size));rw[← ST] at AD;have v1:Below wr.heap.size wr (wr.alloc (entB (xk:Int) (xt:Int) (xi:Int) dp xd.length dc)):=(Below.refl _ _).alloc (Nat.le_refl _) _;have X1:=zaa (zad wr (entB (xk:Int) (xt:Int) (xi:Int) dp xd.length dc));obtain⟨e0,e1,e2,e3⟩:=zar (za X1);have SZ1:=zaa (show(wr.alloc (entB (xk:Int) (xt:Int) (xi:Int) dp xd.length dc)).heap.size=wr.heap.size+1 by simp);have CL:=zaa (zkh dp xd.length dc xd (wr.alloc (entB (xk:Int) (xt:Int) (xi:Int) dp xd.length dc)) rfl (by omega) (q4.later v1) nz);have B1:=zaa v1;clear v1 q4 nz hx1 hx2 FJ ST BI0 LE0 hx hjl
       go_wp2_with fail
       clear e0 e1 e2 e3 p0 p1 p2 p3;generalize wr.alloc _=W1 at *;go_at_call 51
       refine(za CL).mono ?_;rintro e V4 ⟨sp4,c4,rfl,o4,v4⟩;have X2:=zaa (zac v4 (za X1));obtain⟨e0,e1,e2,e3⟩:=zar (za X2);have f3:=zbj (za X2) 3;have U4:=zaa ((za B1).trans (v4.mono (za B1).size));have X5:=zaa (heap_setCell_same V4 wr.heap.size 3 _ _ (.slice sp4 xd.length c4) (za X2));have G5:=zaa (zaf V4 wr.heap.size 3 (.slice sp4 xd.length c4));have U5:=zaa ((za U4).grown (za G5) (za U4).size (fun g e=>by have:=Option.some.inj e;omega));have O5:=zaa (o4.far (za G5) (by rw[za SZ1];omega));clear o4 v4 CL
       go_wp2_with fail
       clear e0 e1 e2 e3 f3;generalize V4.setCell _ _=W5 at *;have d0:W5.drew.cell? ⟨wr.heap.size,0,none⟩=some (.int .i64 (xk:Int)):=zab (za X5) 0 _ rfl;have d1:W5.drew.cell? ⟨wr.heap.size,1,none⟩=some (.int .i64 (xt:Int)):=zab (za X5) 1 _ rfl;have d2:W5.drew.cell? ⟨wr.heap.size,2,none⟩=some (.int .i64 (xi:Int)):=zab (za X5) 2 _ rfl;have d3:W5.drew.cell? ⟨wr.heap.size,3,none⟩=some (.slice sp4 xd.length c4):=zab (za X5) 3 _ rfl;have U6:=zaa (show Below wr.heap.size wr W5.drew from(za U5).trans ((Below.refl _ _).drew));have AC:=zaa (za AD W5.drew (za U6) sp4 c4 ((((za O5).mono (show base≤W1.heap.size by rw[za SZ1];have:=(za Z4).dk.le;omega)).later ((Below.refl _ _).drew)).toBx));have S5:=zaa (show wr.heap.size<W5.heap.size from(Array.getElem?_eq_some_iff.1 (za X5)).1);refine wp_region_held_drew (S:=fun w'=>w'.cell? ⟨wr.heap.size,0,none⟩=some (.int .i64 (xk:Int))∧w'.cell? ⟨wr.heap.size,1,none⟩=some (.int .i64 (xt:Int))∧w'.cell? ⟨wr.heap.size,2,none⟩=some (.int .i64 (xi:Int))∧w'.cell? ⟨wr.heap.size,3,none⟩=some (.slice sp4 xd.length c4)) (by kernel_rfl) ?_ (fun hHeld=>?_)
       ·try dsimp only
        first|exact⟨d0,d1,d2,d3⟩|exact⟨g0,g1,g2,g3⟩
       refine hT 0 ?_;refine hT 1 ?_;refine hT 2 ?_;refine hT 3 ?_;refine hO 4 (fun K hK=>?_);go_simp
       first
        |(go_at_call 67
          refine(za AC).mono ?_;rintro e V6 ⟨rfl,ep6,ec6,hs6,hc6,ho6,hg6,hf6⟩;have hk6:=hg6.block wr.heap.size (za S5) (fun e=>by have:=(za Z4).ltL;omega) (fun e=>by have:=((za Z4).ow.foot _ (.inl e)).2.1;omega);have g0:=(World.cell?_of_block (a:=⟨wr.heap.size,0,none⟩) hk6).trans d0;have g1:=(World.cell?_of_block (a:=⟨wr.heap.size,1,none⟩) hk6).trans d1;have g2:=(World.cell?_of_block (a:=⟨wr.heap.size,2,none⟩) hk6).trans d2;have g3:=(World.cell?_of_block (a:=⟨wr.heap.size,3,none⟩) hk6).trans d3
          have ZA:=zaa ((za Z4).added (za U6) hc6 ho6 hg6 (fun g hg=>by
           rcases hf6 g hg with q|q|q
           ·exact .inl q
           ·right
            have h1:=((za O5).blk_lt g q).1;have h2:=za SZ1;omega
           ·right
            exact Nat.le_trans (za U6).size q) (za OK1) (za LE1))
          clear hc6 ho6 hg6 hf6 hk6)
       go_wp2_with fail
       refine hK.out _ _ ?_ (fun hHeld=>?_)
       ·try dsimp only
        first|exact⟨d0,d1,d2,d3⟩|exact⟨g0,g1,g2,g3⟩
       clear hK K;refine hP ?_;refine wpAnyH_done (by kernel_rfl) ?_ _;have Z6:=zaa (za ZA).1;have A6:=zaa ((za A4).trans (za ZA).2);clear ZA d0 d1 d2 d3 g0 g1 g2 g3
       go_wp2
       exact⟨⟨j+1,ep6,ec6,hs6,by omega,by go_num,Z6,A6⟩,by simp[intOf];omega⟩
      ·have hjj:¬ (j:Int)<(m:Int):=by omega
       obtain rfl:j=m:=by omega
       have FE:=zaa (show ze0 Av base L d M room (N+2) w wh (.returned (.int .i64 0)) wr by
        have h:=za Z4;rw[List.take_of_length_le (by rw[za HM];exact Nat.le_refl _)] at h;rw[za WH]
        exact⟨rfl,⟨ep,ec,hs,h⟩,za A4⟩)
       go_wp2
       go_ret
       exact za FE
    ·rw[if_pos h3] at WH;have h3':((e3:Int)==0)=false:=by simp;omega
     have h3'':¬ (e3:Int)=0:=by omega
     have FE:=zaa (show ze0 Av base L d M room (N+2) w wh (.returned (.int .i64 (e3:Int))) V3 by
      rw[za WH]
      exact⟨rfl,⟨ep,ec,hs,za Z3⟩,za A3⟩)
     go_wp2
     go_ret
     exact za FE
end
def zAj (n:Nat) (k:Nm):Bool:=decide (k=zau)||(decide (0<zm6 k)&&decide (zm6 k≠n))
def zjy (n:Nat):List Nm→Ds→Ds
 |[],ss=>ss
 |k::r,ss=>zjy n r (if zAj n k=true then (zat k ss).2 else ss)
theorem zxq (n:Nat) (a:List Nm) (k:Nm) (ss:Ds):zjy n (a++[k]) ss=(if zAj n k=true then (zat k (zjy n a ss)).2 else zjy n a ss):=by
 induction a generalizing ss with
 |nil=>rfl
 |cons x a ih=>exact ih _
theorem zyf:(⟨#[119,97,108,46,116,109,112]⟩:ByteArray)=str zau:=rfl
section
variable {Av:Nat→Prop} {base:Nat} {w w':World} {L d M room N N':Nat} {ss ss':Ds} {c:Wc} {n:Nat} {ep:Option Addr} {ec:Nat} {hs:List (Option Addr×Nat)}
theorem ziy (z:WAt Av base w L d M room N ss c n ep ec hs) :
  Calls Tryz.prog 58 #[.pointer (some ⟨L,0,none⟩)] w fun e w'=>e=.returned (.tuple #[])∧WAt Av base w' L d M room N (zjy n (ss.map (·.1)) ss) c n ep ec hs∧Asd Av base w w':=by
 have NC:=zaa (zep z.dk);have LN:=zaa z.dk.len;have NM:=zaa z.dk.nmlen;have Z:=zaa z;have c0:=z.ptr.1;clear z;go_enter Tryz.func58,Tryz.ntmps58
 go_wp2_with fail
 clear c0;go_at_call 41
 refine(za NC).mono ?_;rintro e V1 ⟨sp1,n1,k1,rfl,hn1,o1,v1⟩;have Z1:=zaa ((za Z).more v1);have A1:=zaa (((za Z).asdB v1).sub (Bv:=Av) (fun g hg=>.inl hg));have HN:=zaa (show(ss.map (·.1)).length=n1 by rw[List.length_map];exact hn1)
 have NL:=zaa (show ∀ s∈ss.map (·.1),s.length≤64 from fun s hs=>by
  obtain⟨x,hx,rfl⟩:=List.mem_map.1 hs
  exact za NM x hx)
 have N16:=zaa (show n1≤16 by rw[← hn1];exact za LN);have OB:=zaa (show ∀ g,blk sp1=some g→w.heap.size≤g∧g<V1.heap.size from fun g hg=>⟨(o1.blk_is g hg).1,(o1.blk_is g hg).2.1⟩);have O1:=zaa o1;clear o1 v1 hn1 NC LN NM;obtain⟨l,hll⟩:∃ l,ss.map (·.1)=l:=⟨_,rfl⟩
 rw[hll] at O1 HN NL;have HLL:=zaa hll;clear hll;have hq:=za N16
 go_wp2_with fail
 go_loopw [11] (fun i wr=>∃ (j:Nat),j≤n1∧i=.int .i64 (j:Int)∧Hid (WAt (fun g=>Av g∨(w.heap.size≤g∧g<V1.heap.size)) base wr L d M room N (zjy n (l.take j) ss) c n ep ec hs)∧Hid (Asd (fun g=>Av g∨(w.heap.size≤g∧g<V1.heap.size)) base V1 wr)) (fun i _=>n1 - (intOf i).toNat)
 case atStart=>exact⟨0,by omega,rfl,Z1,zaa (Asd.refl _ _ _)⟩
 case round =>
  obtain⟨j,hj,rfl,Z4,A4⟩:=hrel;by_cases hjm:j<n1
  ·have y0:(0:Int)≤(j:Int):=by omega
   have y1:(j:Int)<(n1:Int):=by omega
   have hjl:j<l.length:=by rw[za HN];exact hjm
   have O4:=zaa ((za O1).same (w':=wr) (fun g hg=>(za A4).av g (.inr (za OB g hg))));obtain⟨g,rfl,q0⟩:=(za O4).cell j hjl;have NX:=za NL l[j] (List.getElem_mem hjl);have NU:=zaa (zh2 l[j] NX wr (za Z4).tzw);have TS:=zaa (show zjy n (l.take (j+1)) ss=(if zAj n l[j]=true then (zat l[j] (zjy n (l.take j) ss)).2 else zjy n (l.take j) ss) by rw[List.take_succ_eq_append_getElem hjl,zxq]);have EQ:=zst l[j] zau;have SS:=zaa (show(str l[j]).size≤maxLen by rw[zb];simp only[maxLen];omega);have RM:=zaa (fun (W:World) (u:Below wr.heap.size wr W)=>zf8 ((za Z4).dk.later u) (str l[j]) (za SS));rw[zam] at RM;rw[← zyf,show(⟨#[119,97,108,46,116,109,112]⟩:ByteArray).toList=[119,97,108,46,116,109,112] by rw[ByteArray.toList_eq]] at EQ;have OT:=zaa (show zAj n l[j]=(decide (l[j]=zau)||(decide (0<zm6 l[j])&&decide (zm6 l[j]≠n))) from rfl);generalize zAj n l[j]=ot at *;generalize zm6 l[j]=nu at *;generalize decide (l[j]=zau)=et at *;generalize zat l[j] (zjy n (l.take j) ss)=rm at *;generalize str l[j]=nm at *;clear NX hjl
   go_wp2_with fail
   clear q0;go_at_call 90
   refine(za NU).mono ?_;rintro e V4 ⟨rfl,v4⟩;have B4:=zaa v4;have Z5:=zaa ((za Z4).later v4);have A5:=zaa ((za A4).trans (((za Z4).asdB v4).sub (fun g hg=>.inl hg)));obtain⟨c0,c6,_⟩:=(za Z5).ptr;clear v4 NU;have CA:(ot=true)∨(ot=false):=by cases ot <;> simp
   have R1:=zaa (show ∀ W,ot=true→WAt (fun g=>Av g∨(w.heap.size≤g∧g<V1.heap.size)) base W L d M room N rm.2 c n ep ec hs→WAt (fun g=>Av g∨(w.heap.size≤g∧g<V1.heap.size)) base W L d M room N (zjy n (l.take (j+1)) ss) c n ep ec hs from fun W h z=>by rw[za TS,if_pos h];exact z);have R0:=zaa (show ∀ W,ot=false→WAt (fun g=>Av g∨(w.heap.size≤g∧g<V1.heap.size)) base W L d M room N (zjy n (l.take j) ss) c n ep ec hs→WAt (fun g=>Av g∨(w.heap.size≤g∧g<V1.heap.size)) base W L d M room N (zjy n (l.take (j+1)) ss) c n ep ec hs from fun W h z=>by rw[za TS,h,if_neg (by simp)];exact z);obtain⟨er,sr⟩:=rm;have CS:(et=true∧ot=true)∨(et=false∧0<nu∧nu≠n∧ot=true)∨(et=false∧nu=0∧ot=false)∨(et=false∧0<nu∧nu=n∧ot=false):=by
    rw[za OT];cases et with
    |true=>left;simp
    |false =>
     right
     by_cases h1:0<nu
     ·by_cases h2:nu=n
      ·right;right;simp[h2];omega
      ·left;simp[h1,h2]
     ·right;left
      have:nu=0:=by omega
      simp[this]
   clear CA OT;rcases CS with⟨rfl,ho⟩|⟨rfl,h1,h2,ho⟩|⟨rfl,h1,ho⟩|⟨rfl,h1,h2,ho⟩
   focus
    have HO:=zaa ho;have EP:=eq_of_beq EQ;clear ho
    go_wp2_with fail
    try clear EP
   rotate_left
   focus
    have HO:=zaa ho;have EP:=ne_of_beq_false EQ;have k1:(0:Int)<(nu:Int):=by omega
    have k2:((nu:Int)==(n:Int))=false:=by simp;omega
    have k3:¬ (nu:Int)=(n:Int):=by omega
    clear ho h1 h2
    go_wp2_with fail
    clear k1 k2 k3
   rotate_left
   focus
    have Z6:=zaa (za R0 _ ho (za Z5));have EP:=ne_of_beq_false EQ;have k1:¬ (0:Int)<(nu:Int):=by omega
    clear ho h1
    go_wp2
    exact⟨⟨j+1,by omega,by go_num,Z6,A5⟩,by simp[intOf];omega⟩
   focus
    have Z6:=zaa (za R0 _ ho (za Z5));have EP:=ne_of_beq_false EQ;have k1:(0:Int)<(nu:Int):=by omega
    have k2:((nu:Int)==(n:Int))=true:=by simp;omega
    clear ho h1 h2
    go_wp2
    exact⟨⟨j+1,by omega,by go_num,Z6,A5⟩,by simp[intOf];omega⟩
   all_goals
    clear c0 c6;go_at_call 91
    refine(za RM _ (za B4)).mono ?_;rintro e V6 ⟨rfl,dk6,as6⟩;have Z6:=zaa (za R1 _ (za HO) ((za Z5).disk dk6 as6));have A6:=zaa ((za A5).trans (as6.sub (fun g hg=>.inl hg)));clear dk6 as6
    go_wp2
    exact⟨⟨j+1,by omega,by go_num,Z6,A6⟩,by simp[intOf];omega⟩
  ·have hjj:¬ (j:Int)<(n1:Int):=by omega
   obtain rfl:j=n1:=by omega
   have FE:=zaa (show WAt Av base wr L d M room N (zjy n l ss) c n ep ec hs∧Asd Av base w wr by
    have h:=za Z4;rw[List.take_of_length_le (by rw[za HN];exact Nat.le_refl _)] at h
    exact⟨h.sub (fun g hg=>.inl hg),(za A1).trans ((za A4).sub (fun g hg=>.inl hg))⟩)
   go_wp2
   go_end0
   exact⟨rfl,by rw[za HLL];exact(za FE).1,(za FE).2⟩
end
def zqh (l:List Nat):Nat→Nat→List (List Nat)×Nat
 |0,k=>([],k)
 |f+1,k=>if zca l k=0 then (zdo l k::(zqh l f (k+8+(zdo l k).length)).1,(zqh l f (k+8+(zdo l k).length)).2) else ([],k)
def zdq (l:List Nat):List (List Nat)×Nat:=zqh l l.length 0
theorem ztw {l:List Nat} {k:Nat} (he:0<zca l k):∀ (hs:List (List Nat)) (f k0:Nat),zhu l k0 hs k→hs.length≤f→zqh l f k0=(hs,k)
 |[],0,k0,h,_=>by rw[show k0=k from h];rfl
 |[],f+1,k0,h,_=>by
  obtain rfl:k0=k:=h;unfold zqh;rw[if_neg (by omega)]
 |x::r,0,k0,h,hl=>by simp at hl
 |x::r,f+1,k0,h,hl=>by
  obtain⟨h1,rfl,h3⟩:=h;have:=ztw he r f _ h3 (by simp only[List.length_cons] at hl;omega);unfold zqh;rw[if_pos h1,this]
theorem zog {l:List Nat} {k:Nat} {hs:List (List Nat)} (h:zhu l 0 hs k) (he:0<zca l k) (hk:k≤l.length):zdq l=(hs,k):=by
 have:=h.length_le;exact ztw he hs _ 0 h (by omega)
theorem zz6 {c c':Wc} {l:List Nat} (h:zcz c l=some c') (hl:∀ x∈l,x<256) (hk:WOk c):WOk c':=by
 cases l with
 |nil=>cases h
 |cons k b =>
  have hlb:∀ x∈b,x<256:=fun x hx=>hl x (List.mem_cons_of_mem _ hx);rw[zeh] at h;split at h
  ·unfold zjh at h;cases h1:zbh b 0 with
   |error x=>rw[h1] at h;cases h
   |ok r =>
    obtain⟨i,k1⟩:=r;rw[h1] at h;dsimp only at h;have hi:=zeu h1 hlb;cases h2:zbh b k1 with
    |error x=>rw[h2] at h;cases h
    |ok r2 =>
     obtain⟨t,k2⟩:=r2;rw[h2] at h;dsimp only at h;have ht:=zeu h2 hlb;split at h
     ·cases h
     ·cases h
      exact⟨hi.2,ht.2,hk.ht,hk.hv,fun e he=>by simp at he⟩
  ·split at h
   ·unfold zje at h;cases h1:za6 b (zd9 b 0) with
    |error x=>rw[h1] at h;cases h
    |ok r =>
     obtain⟨t,v⟩:=r;rw[h1] at h;cases h
     have hb:t≤1099511627776∧v≤9:=by
      unfold za6 zd9 at h1;cases q1:zbh b 0 with
      |error x=>rw[q1] at h1;cases h1
      |ok r =>
       obtain⟨t1,k1⟩:=r;rw[q1] at h1;dsimp only at h1;have b1:=zeu q1 hlb;cases q2:zbh b k1 with
       |error x=>rw[q2] at h1;cases h1
       |ok r2 =>
        obtain⟨v1,k2⟩:=r2;rw[q2] at h1;dsimp only at h1;by_cases q3:9<v1
        ·rw[if_pos q3] at h1;cases h1
        ·rw[if_neg q3] at h1;dsimp only at h1;split at h1
         ·cases h1
         ·cases h1
          exact⟨b1.2,by omega⟩
     exact⟨hk.bi,hk.bt,hb.1,hb.2,hk.es⟩
   ·split at h
    ·unfold zuq at h;cases h1:za6 b (za9 b 0) with
     |error x=>rw[h1] at h;cases h
     |ok e =>
      rw[h1] at h;dsimp only at h;split at h
      ·cases h
       refine⟨hk.bi,hk.bt,hk.ht,hk.hv,fun x hx=>?_⟩;obtain⟨kd,t,i,d⟩:=e;rcases List.mem_append.1 hx with hx|hx
       ·exact hk.es x (List.mem_of_mem_take hx)
       ·rw[List.mem_singleton.1 hx];exact(zmn hlb h1).2
      ·cases h
    ·cases h
theorem zn5:∀ {rs:List (List Nat)} {c c':Wc},zb4 c rs=some c'→(∀ r∈rs,∀ x∈r,x<256)→WOk c→WOk c'
 |[],c,c',h,_,hk=>by cases h;exact hk
 |r::rs,c,c',h,hl,hk=>by
  rw[zb5] at h;cases h1:zcz c r with
  |none=>rw[h1] at h;cases h
  |some c1 =>
   rw[h1] at h;exact zn5 h (fun x hx=>hl x (by simp[hx])) (zz6 h1 (hl r (by simp)) hk)
theorem zyw {rs:List (List Nat)} {c:Wc} (h:zc4 rs=some c) (hl:∀ r∈rs,∀ x∈r,x<256):WOk c:=by
 cases rs with
 |nil=>cases h
 |cons r rs =>
  change (if zcq r=true then zb4 wc0 (r::rs) else none)=some c at h;split at h
  ·exact zn5 h hl ⟨by simp[wc0],by simp[wc0],by simp[wc0],by simp[wc0],by simp[wc0]⟩
  ·cases h
theorem zou {l:List Nat} : ∀ {hs:List (List Nat)} {k0 k:Nat},zhu l k0 hs k→∀ h∈hs,h.length≤l.length
 |[],_,_,_,h,hm=>by simp at hm
 |x::r,k0,k,h,y,hm=>by
  obtain⟨h1,rfl,h3⟩:=h;rcases List.mem_cons.1 hm with rfl|hm
  ·have:=(zhl h1).2.2;omega
  ·exact zou h3 y hm
def zf5 (n:Nat) (c:Wc) (ss:Ds):Nat×Ds×Wc×Nat :=
 if zex (walNm n) ss≠0 then (8,ss,c,n)
 else match zc4 (zdq (zdn (walNm n) ss)).1 with
  |none=>(4,ss,c,n)
  |some c2 =>
   if (zf (walNm n) ((zdq (zdn (walNm n) ss)).2:Int) ss).1≠0 then ((zf (walNm n) ((zdq (zdn (walNm n) ss)).2:Int) ss).1,(zf (walNm n) ((zdq (zdn (walNm n) ss)).2:Int) ss).2,c,n)
   else ((zax (walNm n) (zf (walNm n) ((zdq (zdn (walNm n) ss)).2:Int) ss).2).1,(zax (walNm n) (zf (walNm n) ((zdq (zdn (walNm n) ss)).2:Int) ss).2).2,c2,n)
end
end Go.Proofs.YtofllbpfajppeaaGreatDoor
