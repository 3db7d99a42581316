/- Both logs: opened (open, begin of the law). -/
import Derived.Test.YtofllbpfajppeaaGreatDoorB36
set_option linter.unusedVariables false
set_option maxRecDepth 20000
set_option maxHeartbeats 16000000
namespace Go.Proofs.YtofllbpfajppeaaGreatDoor
section
open Go.ChangeShapes Go.WideShapes Go.ChangeAt Go.RowKit Go.Maps
structure OpOk (room k0:Nat) (ss:Ds):Prop where
 k:k0+1<1099511627776
 nm:∀ x∈ss,zg6 walW x.1=k0
 e:ss=[]→k0=0
 t:zcc zau ss=none
 o:zqc room k0 ss=zfc room ss
theorem OpOk.none (room:Nat):OpOk room 0 []:=⟨by omega,fun x hx=>by simp at hx,fun _=>rfl,rfl,zxf room⟩
theorem OpOk.one (room n:Nat) (s:Sp) (h1:1≤n) (h2:n+1<1099511627776):OpOk room n [(walNm n,s)]:=by
 refine⟨h2,fun x hx=>?_,fun h=>by simp at h,?_,zzo room n s h1 (by omega)⟩
 ·rw[List.mem_singleton.1 hx,zxc];exact zhm n h1 (by omega)
 ·rw[zb8];intro h;simp at h;exact zlr n h.symm
def zwa (Bv:Nat→Prop) (base B d M R room N:Nat) (w:World) (r:Nat×Ds×Option (Wc×Nat)) (e:Ending) (w':World):Prop :=
 e=.returned (.bool true)∧Below base w w'∧(∀ g,Bv g→g≠B→w'.heap[g]? = w.heap[g]?)∧(match r.2.2 with
 |none=>TB Bv base w' B d M R none none room N r.2.1 r.2.1
 |some (c,n)=>∃ L Lr,TL Bv base w' B d M R L Lr room N r.2.1 c n r.2.1 c n)
section
variable {Bv Cv:Nat→Prop} {base B d M R L Lr room N N':Nat} {w w':World} {ss tt:Ds} {c cc:Wc} {n nn:Nat} {lp rp:Option Addr}
theorem zrf {u:World} {j:Nat} {x0 x1 x2 x3:Value} {T:TypeId} (h:u.heap[j]? = some (.cells #[x0,x1,x2,x3] T (0,0))) (a b:Value):∃ W,W.heap[j]? = some (.cells #[x0,a,x2,b] T (0,0))∧u.grownBy W (some j)∧(u.setCell ⟨j,1,none⟩ a).setCell ⟨j,3,none⟩ b=W:=by
 have h1:=heap_setCell_same u j 1 _ T a h;have h2:=heap_setCell_same _ j 3 _ T b h1;exact⟨_,h2,zag (zaf u j 1 a) (zaf _ j 3 b),rfl⟩
theorem zds {j:Nat} (g:w.grownBy w' (some j)) (h:base≤j) (hb:base≤w.heap.size):Below base w w':=⟨g.os,g.tape,g.output,g.size,fun i hi=>g.block i (by omega) (fun e=>by have:=Option.some.inj e;omega)⟩
theorem TB.le (h:TB Bv base w B d M R lp rp room N ss tt):base≤w.heap.size:=by
 obtain⟨Fv,h1,_⟩:=h.at_;exact h1.le
theorem TB.ltB (h:TB Bv base w B d M R lp rp room N ss tt) {g:Nat} (hg:Bv g):g<w.heap.size:=by
 obtain⟨Fv,h1,_⟩:=h.at_;exact h1.lt (.inr (.inr hg))
theorem zi5 {base:Nat} {w w':World} (h:∃ w0:World,w0.heap.size=base∧Tz w0∧Below base w0 w) (u:Below base w w'):∃ w0:World,w0.heap.size=base∧Tz w0∧Below base w0 w':=let ⟨w0,q1,q2,q3⟩:=h;⟨w0,q1,q2,q3.trans u⟩
theorem TB.later (h:TB Bv base w B d M R lp rp room N ss tt) (u:Below w.heap.size w w'):TB Bv base w' B d M R lp rp room N ss tt:=by
 obtain⟨Fv,h1,h2,h3,h4⟩:=h.at_;exact⟨h.lowR,h.inB,zac u h.bx,⟨Fv,h1.later u,h2.later u,h3,h4⟩,zi5 h.tz (u.mono h.le)⟩
theorem TB.more (h:TB Bv base w B d M R lp rp room N ss tt) (u:Below w.heap.size w w'):TB (fun g=>Bv g∨(w.heap.size≤g∧g<w'.heap.size)) base w' B d M R lp rp room N ss tt:=by
 obtain⟨Fv,h1,h2,h3,h4⟩:=h.at_;have hR:=h2.ltR;refine⟨h.lowR,.inl h.inB,zac u h.bx,⟨fun g=>Fv g∧g<w.heap.size,(h1.more u).av (fun g hg=>?_),h2.ltF.later u,fun q=>h3 q.1,fun g hg=>?_⟩,zi5 h.tz (u.mono h.le)⟩
 ·rcases hg with hg|hg|hg|hg
  ·exact .inl (.inl hg)
  ·exact .inl (.inr (.inl hg.1))
  ·exact .inl (.inr (.inr hg))
  ·exact .inr hg
 ·rcases hg with hg|hg
  ·exact⟨fun q=>(h4 g hg).1 q.1,(h4 g hg).2⟩
  ·exact⟨fun q=>by omega,by omega⟩
theorem TB.sub (h:TB Bv base w B d M R lp rp room N ss tt) (hs:∀ g,Cv g→Bv g) (hB:Cv B):TB Cv base w B d M R lp rp room N ss tt:=by
 obtain⟨Fv,h1,h2,h3,h4⟩:=h.at_;exact⟨h.lowR,hB,h.bx,⟨Fv,h1.av (fun g hg=>hg.imp id (fun q=>q.imp id (hs g))),h2,h3,fun g hg=>h4 g (hs g hg)⟩,h.tz⟩
theorem TB.fewC (h:TB Bv base w B d M R lp rp room N ss tt):zht N ss:=by
 obtain⟨Fv,h1,_⟩:=h.at_;obtain⟨fs,q1,rfl,q3⟩:=h1.at_;intro x hx;unfold sps at hx;obtain⟨y,hy,rfl⟩:=List.mem_map.1 hx;have:=(q1.ok y hy).few;show(y.2.2.xs.map (·.1)).length≤N
 rw[List.length_map];exact this
theorem TB.box (h:TB Bv base w B d M R lp rp room N ss tt) (lowB:base≤B) {lp' rp':Option Addr} (g:w.grownBy w' (some B)) (hb:w'.heap[B]? = some (.cells (zd7 d R lp' rp') 43 (0,0))) (hs:w'.heap.size=w.heap.size):TB Bv base w' B d M R lp' rp' room N ss tt:=by
 obtain⟨Fv,h1,h2,h3,h4⟩:=h.at_;refine⟨h.lowR,h.inB,hb,⟨Fv,(h1.grow (fun x hx hn=>g.block x hx (fun e=>hn (by rw[Option.some.inj e];exact .inr (.inr h.inB)))) g.size).av (fun x hx=>.inl hx),?_,h3,h4⟩,zi5 h.tz (zds g lowB h.le)⟩;obtain⟨sp,c,rs,q1,q2,q3⟩:=h2;exact⟨sp,c,rs,q1.same (g.block R q1.ltR (fun e=>(h4 B h.inB).2 (Option.some.inj e).symm)) (fun x hx=>g.block x (q1.own.lt hx).2 (fun e=>(h4 B h.inB).1 (by rw[← Option.some.inj e];exact q3 x hx))),q2,q3⟩
theorem TB.callL {f:Nat} {args:Array Value} {P:Ending→Prop} {uu:Ds} (h:TB Bv base w B d M R lp rp room N ss tt) (hk:∀ Av,DAt Av base w d M room N ss→(∀ g,Bv g→Av g)→Calls Tryz.prog f args w fun e w'=>P e∧DAt Av base w' d M room N' uu∧Asd Av base w w') :
  Calls Tryz.prog f args w fun e w'=>P e∧TB Bv base w' B d M R lp rp room N' uu tt∧Asd Bv base w w':=by
 obtain⟨Fv,h1,h2,h3,h4⟩:=h.at_;refine(hk _ h1 (fun g hg=>.inr (.inr hg))).mono ?_;rintro e w' ⟨hp,k1,k2⟩;exact⟨hp,⟨h.lowR,h.inB,(k2.av B (.inr (.inr h.inB))).trans h.bx,⟨Fv,k1,h2.same (k2.av R (.inl rfl)) (fun g hg=>k2.av g (.inr (.inl hg))),h3,h4⟩,zi5 h.tz k2.bel⟩,k2.sub (fun g hg=>.inr (.inr hg))⟩
theorem TB.callR {f:Nat} {args:Array Value} {P:Ending→Prop} {uu:Ds} (h:TB Bv base w B d M R lp rp room N ss tt) (hk:∀ Fv,RAt Fv w R room tt→Calls Tryz.prog f args w fun e w'=>P e∧RSo Fv w w' R room uu) :
  Calls Tryz.prog f args w fun e w'=>P e∧TB Bv base w' B d M R lp rp room N ss uu∧Asd Bv base w w':=by
 obtain⟨Fv,h1,h2,h3,h4⟩:=h.at_;refine(hk Fv h2).mono ?_;rintro e w' ⟨hp,hs⟩;have kb:∀ x,Bv x→w'.heap[x]? = w.heap[x]?:=fun x hx=>hs.grown.block x (h.ltB hx) (fun e=>(h4 x hx).2 (Option.some.inj e));have bl:Below base w w':=zds hs.grown h.lowR h.le;have hR:=h2.ltR;refine⟨hp,⟨h.lowR,h.inB,(kb B h.inB).trans h.bx,⟨fun g=>Fv g∨(w.heap.size≤g∧g<w'.heap.size),(h1.right (.inl rfl) hs.grown).av (fun g hg=>?_),hs.at_,fun q=>?_,fun g hg=>⟨fun q=>?_,(h4 g hg).2⟩⟩,zi5 h.tz bl⟩,kb,bl⟩
 ·rcases hg with hg|(hg|hg)|hg
  ·exact .inl (.inl hg)
  ·exact .inl (.inr (.inl hg))
  ·exact .inr hg
  ·exact .inl (.inr (.inr hg))
 ·rcases q with q|q
  ·exact h3 q
  ·omega
 ·rcases q with q|q
  ·exact(h4 g hg).1 q
  ·have:=h.ltB hg;omega
theorem TB.ofNo {Fv:Nat→Prop} {V1 V2:World} {s0:Ds} (h:TB Bv base w B d M R lp rp room N ss tt) (h4:∀ g,Bv g→¬ Fv g∧g≠R) (h3:¬ Fv R) (lowB:base≤B) (a1:Asd (fun g=>g=R∨Fv g∨Bv g) base w V1) (dk1:DAt (fun g=>g=R∨Fv g∨Bv g) base V1 d M room N' s0) (g2:V1.grownBy V2 (some R)) (ra2:RAt (fun g=>(Fv g∧g<w.heap.size)∨(V1.heap.size≤g∧g<V2.heap.size)) V2 R room s0) (hR:R<w.heap.size) (gW:V2.grownBy w' (some B)) (hs:w'.heap.size=V2.heap.size) {lp' rp':Option Addr} (hb:w'.heap[B]? = some (.cells (zd7 d R lp' rp') 43 (0,0))):TB Bv base w' B d M R lp' rp' room N' s0 s0:=by
 have s1:=a1.bel.size;have s2:=g2.size;have kb:∀ x,Bv x→V2.heap[x]? = w.heap[x]?:=fun x hx=>(g2.block x (by have:=h.ltB hx;omega) (fun e=>(h4 x hx).2 (Option.some.inj e))).trans (a1.av x (.inr (.inr hx)));have T2:TB Bv base V2 B d M R lp rp room N' s0 s0:=by
  refine⟨h.lowR,h.inB,(kb B h.inB).trans h.bx,⟨_,(dk1.right (.inl rfl) g2).av (fun g hg=>?_),ra2,fun q=>?_,fun g hg=>⟨fun q=>?_,(h4 g hg).2⟩⟩,zi5 (zi5 h.tz a1.bel) (zds g2 h.lowR dk1.le)⟩
  ·rcases hg with hg|(hg|hg)|hg
   ·exact .inl (.inl hg)
   ·exact .inl (.inr (.inl hg.1))
   ·exact .inr hg
   ·exact .inl (.inr (.inr hg))
  ·rcases q with q|q
   ·exact h3 q.1
   ·omega
  ·rcases q with q|q
   ·exact(h4 g hg).1 q.1
   ·have:=h.ltB hg;omega
 exact T2.box lowB gW hb hs
theorem TL.ofYes {Fv:Nat→Prop} {V1 V2:World} {s0:Ds} {ep:Option Addr} {ec:Nat} {hs:List (Option Addr×Nat)} (h:TB Bv base w B d M R lp rp room N ss tt) (h4:∀ g,Bv g→¬ Fv g∧g≠R) (lowB:base≤B) (a1:Asd (fun g=>g=R∨Fv g∨Bv g) base w V1) (z1:WAt (fun g=>g=R∨Fv g∨Bv g) base V1 L d M room N' s0 c n ep ec hs) (g2:V1.grownBy V2 (some R)) (hl:V1.heap.size≤Lr) (hl2:Lr<V2.heap.size) (rl:RL (zwd (fun g=>Fv g∧g<w.heap.size) V1 V2 Lr) V2 Lr R room s0 n c) (gW:V2.grownBy w' (some B)) (hsz:w'.heap.size=V2.heap.size) (hb:w'.heap[B]? = some (.cells (zd7 d R (some ⟨L,0,none⟩) (some ⟨Lr,0,none⟩)) 43 (0,0))):TL Bv base w' B d M R L Lr room N' s0 c n s0 c n:=by
 have s1:=a1.bel.size;have s2:=g2.size;have s3:=h.le;have hB:∀ x,Bv x→¬ zwd (fun g=>Fv g∧g<w.heap.size) V1 V2 Lr x∧x≠R∧x≠Lr:=fun x hx=>by
  have h5:=h.ltB hx;refine⟨fun q=>?_,(h4 x hx).2,by omega⟩;rcases q with q|q
  ·exact(h4 x hx).1 q.1
  ·omega
 have z2:=z1.grow (w':=V2) (fun g hg hn=>g2.block g hg (fun e=>hn (.inl (Option.some.inj e)))) (zds g2 h.lowR (by omega))
 have z3:=(z2.sub (Bv:=fun g=>g=R∨g=Lr∨zwd (fun g=>Fv g∧g<w.heap.size) V1 V2 Lr g∨Bv g) (fun g hg=>by
  rcases hg with hg|hg|hg|hg
  ·exact .inl (.inl hg)
  ·exact .inr (by omega)
  ·rcases hg with hg|hg
   ·exact .inl (.inr (.inl hg.1))
   ·exact .inr ⟨hg.1,hg.2.1⟩
  ·exact .inl (.inr (.inr hg)))).grow (w':=w') (fun g hg hn=>gW.block g hg (fun e=>hn (by rw[Option.some.inj e];exact .inr (.inr (.inr h.inB))))) (zds gW lowB (by omega))
 have kw:∀ x,x≠B→x<V2.heap.size→w'.heap[x]? = V2.heap[x]?:=fun x hx hl=>gW.block x hl (fun e=>hx (Option.some.inj e));refine⟨h.lowR,by omega,h.inB,hb,_,ep,ec,hs,z3.sub (fun g hg=>.inl (hg.imp id (fun q=>q.imp id (fun q=>q.imp (fun z=>z.1) id)))),rl.lt.same (kw Lr (fun e=>(hB B h.inB).2.2 e.symm) hl2) (kw R (fun e=>(hB B h.inB).2.1 e.symm) rl.dk.ltR) (fun g hg=>kw g (fun e=>(hB B h.inB).1 (by rw[← e];exact hg.1)) hg.2),fun g hg=>⟨fun q=>(hB g hg).1 q.1,(hB g hg).2⟩⟩
theorem zib (h:TB Bv base w B d M R lp rp room N ss ss) (lowB:base≤B) (hN:N+2≤302) (k0:Nat) (hk:OpOk room k0 ss) :
  Calls Tryz.prog 27 #[.pointer (some ⟨B,0,none⟩)] w (zwa Bv base B d M R room (N+2) w (zfc room ss)):=by
 obtain⟨Fv,h1,h2,h3,h4⟩:=h.at_;have OC:=zaa (zey h1 h.tz (by omega));have few:zht 300 ss:=fun x hx=>Nat.le_trans (h.fewC x hx) (by omega);have nml:=h1.nmlen;have RK:=zaa (fun (V:World) (hr:RAt (fun g=>Fv g∧g<w.heap.size) V R room ss) (hV:w.heap.size≤V.heap.size)=>zsi hr (fun g hg=>Nat.lt_of_lt_of_le hg.2 hV) (fun q=>h3 q.1) few k0 hk.k hk.nm hk.e hk.t nml);rw[hk.o] at RK;have H:=zaa h;have H2:=zaa h2.ltF;have HR:=zaa h2.ltR;have H4:=zaa h4;have H3:=zaa h3;have LB:=zaa lowB;have b0:w.cell? ⟨B,0,none⟩=some (.pointer (some ⟨d,0,none⟩)):=zab h.bx 0 _ rfl;generalize zfc room ss=ro at *;obtain⟨e0,s0,o0⟩:=ro;clear h h1 h2 h3 h4 few nml hk lowB hN;cases o0 with
 |none =>
  as_aux_lemma =>
  go_enter Tryz.func27,Tryz.ntmps27
  go_wp2_with fail
  clear b0;go_at_call 21
  refine(za OC).mono ?_;rintro e V1 ⟨a1,rfl,dk1⟩;have A1:=zaa a1;have D1:=zaa dk1;have XB1:=zaa ((a1.av B (.inr (.inr (za H).inB))).trans (za H).bx);have RC:=zaa (za RK V1 ((za H2).same (a1.av R (.inl rfl)) (fun g hg=>a1.av g (.inr (.inl hg.1)))) a1.bel.size);have b2:V1.cell? ⟨B,2,none⟩=some (.pointer (some ⟨R,0,none⟩)):=zab (za XB1) 2 _ rfl;clear a1 dk1 OC
  go_wp2_with fail
  clear b2;go_at_call 63
  refine(za RC).mono ?_;rintro e V2 ⟨g2,rfl,ra2⟩;have XB2:=(g2.block B (Array.getElem?_eq_some_iff.1 (za XB1)).1 (fun e=>(za H4 B (za H).inB).2 (Option.some.inj e))).trans (za XB1);unfold zd7 at XB2;obtain⟨W,hrW,gW,hW⟩:=zrf XB2 (.pointer none) (.pointer none);have FE:=zaa (show zwa Bv base B d M R room (N+2) w (e0,s0,none) (.returned (.bool true)) W from⟨rfl,((za A1).bel.trans (zds g2 (za H).lowR (za D1).le)).trans (zds gW (za LB) (Nat.le_trans (za D1).le g2.size)),fun g hg hne=>(gW.block g (by have h5:=(za H).ltB hg;have h6:=(za A1).bel.size;have h7:=g2.size;omega) (fun e=>hne (Option.some.inj e))).trans ((g2.block g (by have h5:=(za H).ltB hg;have h6:=(za A1).bel.size;omega) (fun e=>(za H4 g hg).2 (Option.some.inj e))).trans ((za A1).av g (.inr (.inr hg)))),TB.ofNo (za H) (za H4) (za H3) (za LB) (za A1) (za D1) g2 ra2 (za HR) gW (by rw[← hW];simp) hrW⟩);have b1:=zab XB2 1 _ rfl;have b3:=zab XB2 3 _ rfl;have f1:=zae XB2 1;have f3:=zae XB2 3;have HW:=zaa hW;clear g2 ra2 XB2 hrW gW hW RC
  go_wp2_with fail
  rw[za HW];go_ret
  exact za FE
 |some cn =>
  as_aux_lemma =>
  obtain⟨c,n⟩:=cn;go_enter Tryz.func27,Tryz.ntmps27
  go_wp2_with fail
  clear b0;go_at_call 21
  refine(za OC).mono ?_;rintro e V1 ⟨a1,L,ep,ec,hs,rfl,z1,_⟩;have A1:=zaa a1;have Z1:=zaa z1;have XB1:=zaa ((a1.av B (.inr (.inr (za H).inB))).trans (za H).bx);have RC:=zaa (za RK V1 ((za H2).same (a1.av R (.inl rfl)) (fun g hg=>a1.av g (.inr (.inl hg.1)))) a1.bel.size);have b2:V1.cell? ⟨B,2,none⟩=some (.pointer (some ⟨R,0,none⟩)):=zab (za XB1) 2 _ rfl;clear a1 z1 OC
  go_wp2_with fail
  clear b2;go_at_call 63
  refine(za RC).mono ?_;rintro e V2 ⟨g2,Lr,rfl,hl,hl2,rl2⟩;have XB2:=(g2.block B (Array.getElem?_eq_some_iff.1 (za XB1)).1 (fun e=>(za H4 B (za H).inB).2 (Option.some.inj e))).trans (za XB1);unfold zd7 at XB2;obtain⟨W,hrW,gW,hW⟩:=zrf XB2 (.pointer (some ⟨L,0,none⟩)) (.pointer (some ⟨Lr,0,none⟩));have FE:=zaa (show zwa Bv base B d M R room (N+2) w (e0,s0,some (c,n)) (.returned (.bool true)) W from⟨rfl,((za A1).bel.trans (zds g2 (za H).lowR (za Z1).dk.le)).trans (zds gW (za LB) (Nat.le_trans (za Z1).dk.le g2.size)),fun g hg hne=>(gW.block g (by have h5:=(za H).ltB hg;have h6:=(za A1).bel.size;have h7:=g2.size;omega) (fun e=>hne (Option.some.inj e))).trans ((g2.block g (by have h5:=(za H).ltB hg;have h6:=(za A1).bel.size;omega) (fun e=>(za H4 g hg).2 (Option.some.inj e))).trans ((za A1).av g (.inr (.inr hg)))),L,Lr,TL.ofYes (za H) (za H4) (za LB) (za A1) (za Z1) g2 hl hl2 rl2 gW (by rw[← hW];simp) hrW⟩);have b1:=zab XB2 1 _ rfl;have b3:=zab XB2 3 _ rfl;have f1:=zae XB2 1;have f3:=zae XB2 3;have HW:=zaa hW;clear g2 rl2 XB2 hrW gW hW RC hl hl2
  go_wp2_with fail
  rw[za HW];go_ret
  exact za FE
end
def ss1:Ds:=[(walNm 1,⟨true,cat (zue wc0),[]⟩)]
def zwb (room:Nat) (w:World) (e:Ending) (w':World):Prop:=∃ B d M R,e=.returned (.tuple #[.pointer (some ⟨B,0,none⟩),.bool true])∧Below w.heap.size w w'∧w.heap.size≤B ∧
 ((room<22∧TB (fun g=>g=B) w.heap.size w' B d M R none none room 2 [] [])∨(22≤room∧∃ L Lr,TL (fun g=>g=B) w.heap.size w' B d M R L Lr room 2 ss1 wc0 1 ss1 wc0 1))
theorem zf9 (w:World) (z:Int) (hTz:Tz w):Calls Tryz.prog 8 #[.int .i64 z] w (zwb z.toNat w):=by
 have NC:=zaa (zmi w z);have TZ:=zaa hTz;clear hTz;go_enter Tryz.func8,Tryz.ntmps8
 go_wp2_with fail
 go_at_call 25
 refine(za NC).mono ?_;rintro e V1 ⟨d,M,rfl,d1,v1⟩;have D1:=zaa d1;have A1:=zaa v1;have RC:=zaa (zvm (base:=0) V1 (Nat.zero_le _) z);clear d1 v1 NC
 go_wp2_with fail
 go_at_call 26
 refine(za RC).mono ?_;rintro e V2 ⟨rfl,r2,v2⟩;have U3:Below V2.heap.size V2 (V2.alloc (.cells (zd7 d V1.heap.size none none) 43)):=(Below.refl _ _).alloc (Nat.le_refl _) _;have X3:=zad V2 (.cells (zd7 d V1.heap.size none none) 43);have hs3:(V2.alloc (.cells (zd7 d V1.heap.size none none) 43)).heap.size=V2.heap.size+1:=by simp
 have B3:=zaa (((za A1).trans (v2.mono (za A1).size)).trans (U3.mono (Nat.le_trans (za A1).size v2.size)));have hs1:=(za A1).size;have hs2:=r2.ltR
 have T3:=zaa (show TB (fun g=>g=V2.heap.size) w.heap.size (V2.alloc (.cells (zd7 d V1.heap.size none none) 43)) V2.heap.size d M V1.heap.size none none z.toNat 0 [] [] from
  ⟨hs1,rfl,X3,⟨fun _=>False,((za D1).more (v2.trans (U3.mono v2.size))).av (fun g hg=>by
   rcases hg with hg|hg|hg
   ·exact .inr (by rw[hs3];omega)
   ·exact hg.elim
   ·exact .inr (by rw[hs3];have:=v2.size;omega)),⟨none,0,[],r2.later U3,rfl,fun g hg=>by
   rcases hg with hg|⟨x,hx,_⟩
   ·cases hg
   ·simp at hx⟩,fun h=>h,fun g hg=>⟨fun h=>h,by omega⟩⟩,⟨w,rfl,za TZ,za B3⟩⟩)
 have OC:=zaa (zib (za T3) (by have:=v2.size;omega) (by omega) 0 (OpOk.none _));have LB:=zaa (show w.heap.size≤V2.heap.size by have:=v2.size;omega);unfold zd7 at OC B3;clear r2 v2 U3 X3 hs3 hs1 hs2 RC D1 A1 T3
 go_wp2_with fail
 generalize V2.alloc _=V3 at *;generalize V2.heap.size=B at *;by_cases h22:z.toNat<22
 ·rw[zhr,if_pos h22] at OC;go_at_call 27
  refine(za OC).mono ?_;rintro e V4 ⟨rfl,v4,_,t4⟩;have FE:=zaa (show zwb z.toNat w (.returned (.tuple #[.pointer (some ⟨B,0,none⟩),.bool true])) V4 from⟨B,d,M,V1.heap.size,rfl,(za B3).trans v4,za LB,.inl ⟨h22,t4⟩⟩);clear v4 t4 OC
  go_wp2
  go_ret2
  exact za FE
 ·rw[(LS.begin (show 22≤z.toNat by omega)).1] at OC;go_at_call 27
  refine(za OC).mono ?_;rintro e V4 ⟨rfl,v4,_,t4⟩;have FE:=zaa (show zwb z.toNat w (.returned (.tuple #[.pointer (some ⟨B,0,none⟩),.bool true])) V4 from⟨B,d,M,V1.heap.size,rfl,(za B3).trans v4,za LB,.inr ⟨by omega,t4⟩⟩);clear v4 t4 OC
  go_wp2
  go_ret2
  exact za FE
section
variable {Bv:Nat→Prop} {base B d M R L Lr room N:Nat} {w w' W1:World} {ss:Ds} {c:Wc} {n:Nat} {r1 r2:List (List Nat)}
def zi (Bv:Nat→Prop) (base B d M R room N:Nat) (c:Wc) (n:Nat) (w:World) (e:Ending) (w':World):Prop :=
 e=.returned (.bool true)∧Below base w w'∧(∀ g,Bv g→g≠B→w'.heap[g]? = w.heap[g]?)∧∃ L Lr ss c' n' r1 r2,TL Bv base w' B d M R L Lr room N ss c' n' ss c' n'∧LS room ss c' n' r1 r2∧n'≤n+1∧(c'.es.length≤c.es.length+300∨c'.es.length≤32768)
theorem zi.of {Cv:Nat→Prop} {r:Nat×Ds×Wc×Nat} {k:Nat} (hk:k≤300) (hle:base≤w.heap.size) (hlt:∀ g,Bv g→g<w.heap.size) (u1:Below w.heap.size w W1) (hC:∀ g,Bv g→Cv g) (hB:Bv B) (t:TL Cv base w' B d M R L Lr room N r.2.1 r.2.2.1 r.2.2.2 r.2.1 r.2.2.1 r.2.2.2) (a:Asd Cv base W1 w') (nx:Nxt room n c k r):zi Bv base B d M R room N c n w (.returned (.bool true)) w':=by
 obtain⟨⟨r1,r2,ls⟩,h1,h2⟩:=nx;exact⟨rfl,(u1.mono hle).trans a.bel,fun g hg _=>(a.av g (hC g hg)).trans (u1.block g (hlt g hg)),L,Lr,_,_,_,r1,r2,t.sub hC hB,ls,h1,.inl (by omega)⟩
theorem TL.y8 {tt:Ds} {cc:Wc} {nn:Nat} (h:TL Bv base w B d M R L Lr room N ss c n tt cc nn):∀ x∈ss,x.2.y.length≤262144:=by
 obtain⟨Fv,ep,ec,hs,z,_⟩:=h.at_;obtain⟨fs,q1,rfl,q3⟩:=z.dk.at_;intro x hx;unfold sps at hx;obtain⟨y,hy,rfl⟩:=List.mem_map.1 hx;exact(q1.ok y hy).y8
theorem LS.crashed (h:LS room ss c n r1 r2) (ks:List Int):∃ s,za5 ks 0 ss=[(walNm n,s)]:=by
 obtain⟨cs,rfl,ha⟩:=h.fil;refine⟨⟨true,cat r1++(cat r2).take (zbw ks 0),[]⟩,?_⟩;show zcf (zbw ks 0) (walNm n,(⟨true,cat r1,cs⟩:Sp))++[]=_
 unfold zcf;rw[if_neg (by simp),ha.crash];rfl
theorem LS.opOk (h:LS room ss c n r1 r2) (hn:n+1<1099511627776):OpOk room n ss:=by
 obtain⟨s,rfl,_⟩:=h.now;exact OpOk.one room n s h.n1 hn
theorem LS.opCr (h:LS room ss c n r1 r2) (hn:n+1<1099511627776) (ks:List Int):OpOk room n (za5 ks 0 ss):=by
 obtain⟨s,e⟩:=h.crashed ks;rw[e];exact OpOk.one room n s h.n1 hn
theorem LS.xHardN (h:LS room ss c n r1 r2) (hk:WOk c) (t v:Int):Nxt room n c 0 (zs5 room n c t v ss):=by
 unfold zs5;split
 ·exact h.hardN hk (by omega) (by omega)
 ·exact⟨⟨r1,r2,h⟩,by dsimp only;omega,by dsimp only;omega⟩
theorem LS.xResetN (h:LS room ss c n r1 r2) (hk:WOk c) (i t:Int):Nxt room n c 0 (zlx room n c i t ss):=by
 unfold zlx;split
 ·exact h.newN ⟨by dsimp only;omega,by dsimp only;omega,hk.ht,hk.hv,fun e he=>by simp at he⟩ Ix.nil (by simp)
 ·exact⟨⟨r1,r2,h⟩,by dsimp only;omega,by dsimp only;omega⟩
theorem zq9 {tt:Ds} {cc:Wc} {nn:Nat} (h:TL Bv base w B d M R L Lr room N ss c n tt cc nn) (kp:Option Addr) (kn kc:Nat) (ks:List Int) (hks:ks.length=kn) (hI:IntsAt w kp ks) (hlo:∀ b off,kp=some ⟨b,off,none⟩→0<ks.length→b<base) :
  Calls Tryz.prog 20 #[.pointer (some ⟨d,0,none⟩),.slice kp kn kc] w fun e w'=>e=.returned (.tuple #[])∧TL Bv base w' B d M R L Lr room N (za5 ks 0 ss) c n tt cc nn∧Asd Bv base w w' :=
 h.callL (r:=(0,za5 ks 0 ss,c,n)) (P:=fun e=>e=.returned (.tuple #[])) (fun Av ep ec hs z hb=>(zfd z.dk kp kn kc ks hks hI (fun b off e h0=>.inl (hlo b off e h0))).mono fun e w' ⟨h1,h2,h3⟩=>⟨h1,⟨ep,ec,hs,z.disk h2 h3⟩,h3.sub (fun g hg=>.inl hg)⟩)
theorem zox {tt:Ds} {cc:Wc} {nn:Nat} (h:TL Bv base w B d M R L Lr room N ss c n tt cc nn) (kp:Option Addr) (kn kc:Nat) (ks:List Int) (hks:ks.length=kn) (hI:IntsAt w kp ks) :
  Calls Tryz.prog 38 #[.pointer (some ⟨R,0,none⟩),.slice kp kn kc] w fun e w'=>e=.returned (.tuple #[])∧TL Bv base w' B d M R L Lr room N ss c n (za5 ks 0 tt) cc nn∧Asd Bv base w w' :=
 h.callR (r:=(0,za5 ks 0 tt,cc,nn)) (P:=fun e=>e=.returned (.tuple #[])) (fun Fv rl=>(zj0 (RSo.start rl.dk) kp kn kc ks hks hI).mono fun e w' ⟨h1,h2,h3⟩=>⟨h1,rl.disk h2,Grew2.ofGrown h3⟩)
end
end
end Go.Proofs.YtofllbpfajppeaaGreatDoor
