/- Plane: a configuration copied, by the document. -/
import Derived.Test.YtjcjleaicjhpeaaGreatDoorB07
set_option linter.unusedVariables false
set_option maxRecDepth 20000
set_option maxHeartbeats 16000000
namespace Go.Proofs.YtjcjleaicjhpeaaGreatDoor
open Go.ChangeShapes Go.WideShapes Go.ChangeAt Go.RowKit
def zp4 (e:Cf):Prop:=e.rs.length≤1000∧e.ps.length≤1000∧∀ p∈e.ps,p.ts.length≤1000
theorem zbs {base:Nat} {w w':World} {T:TypeId} {k n g c:Nat} {xs:List Value} (h:w.ownsRow base T k (.slice (some ⟨g,0,none⟩) n c) n xs) (hb:base≤g→g<w.heap.size→w'.heap[g]? = w.heap[g]?):w'.ownsRow base T k (.slice (some ⟨g,0,none⟩) n c) n xs:=by
 refine⟨h.1,?_⟩;rcases h.2 with⟨hv,h0⟩|⟨g',cap,cur,hv,hbg,hg,r⟩
 ·cases hv
 ·simp only[Value.slice.injEq,Option.some.injEq,Addr.mk.injEq,and_true,true_and] at hv;obtain⟨rfl,rfl⟩:=hv;exact .inr ⟨g,c,cur,rfl,hbg,(hb hbg (Array.getElem?_eq_some_iff.1 hg).1).trans hg,r⟩
theorem OwnW.blk_lt {base:Nat} {w:World} {sp:Option Addr} {c:Nat} {l:List Pw} (h:OwnW base w sp c l):∀ g,sp.map (·.block)=some g→g<w.heap.size:=fun g hg=>by
 rcases h.row.2 with⟨hv,h0⟩|⟨g',cap,cur,hv,hbg,hh,_⟩
 ·simp only[Value.slice.injEq] at hv;rw[hv.1] at hg;cases hg
 ·simp only[Value.slice.injEq] at hv;rw[hv.1] at hg;cases hg
  exact(Array.getElem?_eq_some_iff.1 hh).1
theorem zag {V W U:World} {C:Nat} (h:V.grownBy W (some C)) (hb:Below V.heap.size W U):V.grownBy U (some C) :=
 ⟨hb.os.trans h.os,hb.tape.trans h.tape,hb.output.trans h.output,Nat.le_trans h.size hb.size,fun k hk hne=>(hb.block k hk).trans (h.block k hk hne)⟩
theorem zaq {V W U:World} {C:Nat} (h:V.grownBy W (some C)) (k:W.grownBy U (some C)):V.grownBy U (some C) :=
 ⟨k.os.trans h.os,k.tape.trans h.tape,k.output.trans h.output,Nat.le_trans h.size k.size,fun i hi hne=>(k.block i (Nat.lt_of_lt_of_le hi h.size) hne).trans (h.block i hi hne)⟩
theorem OwnW.low {base base':Nat} {w:World} {sp:Option Addr} {c:Nat} {l:List Pw} (h:OwnW base w sp c l) (hb:base'≤base):OwnW base' w sp c l:=⟨⟨h.row.1,h.row.2.imp id (fun ⟨g,cap,cur,h1,h2,h3⟩=>⟨g,cap,cur,h1,Nat.le_trans hb h2,h3⟩)⟩,fun x hx=>⟨(h.dat x hx).1.low hb,(h.dat x hx).2⟩⟩
def CpI (ver:Int) (C g n c3:Nat) (ps:List Po) (V:World) (j:Nat) (wr:World):Prop :=
 ∃ sp c l,List.map Pw.po l=ps.take j∧l.length=j∧OwnW V.heap.size wr sp c l∧wr.heap[C]? = some (.cells #[.int .i64 ver,.slice (some ⟨g,0,none⟩) n c3,.slice sp j c] 45 (0,0))∧V.grownBy wr (some C)
theorem zmy {w:World} {e:Cf} {h:CfH} (hc:CfAt w e h) (hs:zp4 e):Calls Tryz.prog 68 #[zcw e h] w fun r w'=>∃ h',r=.returned (zcw e h')∧CfAt w' e h'∧Below w.heap.size w w'∧∃ l,OwnW w.heap.size w' h'.pa h'.pc l∧l.map Pw.po=e.ps∧w'.ownsRow 0 56 3 (.slice h'.ra e.rs.length h'.rc) e.rs.length (zch e.rs):=by
 unfold zcw;obtain⟨hr2,hp2,ht2⟩:=hs;have b1:Below w.heap.size w (w.alloc (.cells #[.int .i64 e.ver,.slice h.ra e.rs.length h.rc,.slice h.pa e.ps.length h.pc] 45)):=(Below.refl _ _).alloc (Nat.le_refl _) _;have b2:=b1.alloc b1.size (.cells #[.int .i64 0,.slice none 0 0,.slice none 0 0] 45);have s1:(w.alloc (.cells #[.int .i64 e.ver,.slice h.ra e.rs.length h.rc,.slice h.pa e.ps.length h.pc] 45)).heap.size=w.heap.size+1:=by simp
 have X1:=zaa (show((w.alloc (.cells #[.int .i64 e.ver,.slice h.ra e.rs.length h.rc,.slice h.pa e.ps.length h.pc] 45)).alloc (.cells #[.int .i64 0,.slice none 0 0,.slice none 0 0] 45)).heap[w.heap.size]? = some (.cells #[.int .i64 e.ver,.slice h.ra e.rs.length h.rc,.slice h.pa e.ps.length h.pc] 45 (0,0)) by rw[Below.heap_alloc _ _ _ (by simp)];exact zad _ _);have X2:=zaa (show((w.alloc (.cells #[.int .i64 e.ver,.slice h.ra e.rs.length h.rc,.slice h.pa e.ps.length h.pc] 45)).alloc (.cells #[.int .i64 0,.slice none 0 0,.slice none 0 0] 45)).heap[w.heap.size+1]? = some (.cells #[.int .i64 0,.slice none 0 0,.slice none 0 0] 45 (0,0)) by rw[← s1];exact zad _ _);have Z2:=zaa (show((w.alloc (.cells #[.int .i64 e.ver,.slice h.ra e.rs.length h.rc,.slice h.pa e.ps.length h.pc] 45)).alloc (.cells #[.int .i64 0,.slice none 0 0,.slice none 0 0] 45)).heap.size=w.heap.size+2 by simp);have B2:=zaa b2;have R1:=zaa hc.rts;have P1:=zaa hc.pos;have WV:=zaa hc.wv;have hrz:=hc.rz;obtain⟨ver,rs,ps⟩:=e;obtain⟨ra,rc,pa,pc⟩:=h;simp only at *;have RN:=zaa (show ra=none→rs.length=0∧rc=0 from fun e=>by subst e;exact⟨(za R1).nil,hrz rfl⟩);have RL:=zaa (zhj rs);have TS:=zaa ht2;generalize hn:rs.length=n at *;generalize hm:ps.length=m at *;have HN:=zaa hn;have HM:=zaa hm;clear hc b1 b2 s1 hrz ht2 hn hm;obtain⟨i0,hi,hz0,hz1,hz2⟩:=info_parts zqq;obtain⟨i1,ti,tz0,tz1,tz2⟩:=info_parts ztb;have I0:=zaa hi;have I1:=zaa hz0;have I2:=zaa hz1;have I3:=zaa hz2;have J0:=zaa ti
 have J1:=zaa tz0;have J2:=zaa tz1;have J3:=zaa tz2;clear hi hz0 hz1 hz2 ti tz0 tz1 tz2;go_enter Tryz.func68,Tryz.ntmps68
 go_wp2_with fail
 generalize ((w.alloc (.cells #[.int .i64 ver,.slice ra n rc,.slice pa m pc] 45)).alloc (.cells #[.int .i64 0,.slice none 0 0,.slice none 0 0] 45))=W2 at *;have d0:=zab (za X1) 0 _ rfl;have d1:=zab (za X1) 1 _ rfl;have d2:=zab (za X1) 2 _ rfl;have D2:=zaa d2;have SS:=zaa (show ∀ W:World,Below W2.heap.size W2 W→W.cell? ⟨w.heap.size,0,none⟩=some (.int .i64 ver)∧W.cell? ⟨w.heap.size,1,none⟩=some (.slice ra n rc) from fun W hb=>⟨cell_later hb d0,cell_later hb d1⟩);have R2:=zaa ((za R1).later (za B2));have P2:=zaa ((za P1).later (za B2));have F:=zaa (show Below W2.heap.size W2 W2.drew from(Below.refl _ _).drew);clear d0 d1 d2;refine wp_region_held_drew (S:=fun w'=>w'.cell? ⟨w.heap.size,0,none⟩=some (.int .i64 ver)∧w'.cell? ⟨w.heap.size,1,none⟩=some (.slice ra n rc)) (by kernel_rfl) ?_ (fun hHeld=>?_)
 ·try dsimp only
  exact za SS _ (za F)
 refine hT 0 ?_;refine hT 1 ?_;refine hT 3 ?_;refine hT 4 ?_;refine wpAnyH_ready (rs:=[2,7]) (by kernel_rfl) (by simp) ?_;refine AllReadyH.cons rfl (fun K hK=>?_) ?_
 ·refine zl7 rfl rfl ?_;intro E U hE hEn hb;have LE:=zaa (show W2.heap.size≤E by rw[← hE];exact(za F).size);have HE:=zaa hEn;first
   |(have hV:HC=HC:=rfl
     clear hV;have NE:=zaa (show C≠E by have:=(Array.getElem?_eq_some_iff.1 (za HC)).1;omega)
     have HC:=zaa (zac hb (za HC)))
   |skip
  have F:=zaa ((za F).trans (hb.mono (za F).size));clear hE hEn hb;refine hK.out _ _ ?_ (fun hHeld=>?_)
  ·try dsimp only
   exact za SS _ (za F)
  clear hK K;refine hP ?_;refine wpAnyH_ready (rs:=[5,7]) (by kernel_rfl) (by simp) ?_;refine AllReadyH.cons rfl (fun K hK=>?_) ?_
  ·refine zbc rfl (.tmp 7) (.tmp 9) 42 56 rfl i0 _ 3 48 Tryz.underlying42 (za I0) (za I1) (za I2) (za I3) rfl (by omega) E rfl (za HE) ra n rc rfl (za RN) (zch rs) (za RL) ((za R2).later (za F)).news (zec rs) (by omega) (by omega) ?_;intro g3 c3 U ho3 hg3 hw3;have hEl:=(Array.getElem?_eq_some_iff.1 (za HE)).1;have O3:=zaa ho3;first
    |(have hV:HC=HC:=rfl
      clear hV;have NC:=zaa (show g3≠C by have:=(Array.getElem?_eq_some_iff.1 (za HC)).1;have:=za NE;omega)
      have HC:=zaa ((hg3.block C (Array.getElem?_eq_some_iff.1 (za HC)).1 (fun e=>za NE (Option.some.inj e))).trans (za HC)))
    |skip
   have GL:=zaa (show W2.heap.size≤g3 by have:=za LE;have:=(za F).size;omega)
   have G3:=zaa (show g3<U.heap.size by
    rcases ho3.2 with⟨hv,_⟩|⟨g',cap,cur,hv,_,hg,_⟩
    ·cases hv
    ·simp only[Value.slice.injEq,Option.some.injEq,Addr.mk.injEq,and_true,true_and] at hv;rw[hv.1]
     exact(Array.getElem?_eq_some_iff.1 hg).1)
   have F:=zaa ((za F).grown hg3 (za F).size (fun g hg=>by have:=Option.some.inj hg;have:=za LE;omega));clear ho3 hg3 hw3 hEl;refine hK.out _ _ ?_ (fun hHeld=>?_)
   ·try dsimp only
    exact za SS _ (za F)
   clear hK K;refine hP ?_;refine hT 6 ?_;refine wpAnyH_ready (rs:=[7]) (by kernel_rfl) (by simp) ?_;refine AllReadyH.cons rfl (fun K hK=>?_) ?_
   ·refine zi5 rfl rfl ?_;intro C U hC hCn hb;have LC:=zaa (show W2.heap.size≤C by rw[← hC];exact(za F).size);have HC:=zaa hCn;first
     |(have hV:O3=O3:=rfl
       clear hV;have NC:=zaa (show g3≠C by have:=za G3;omega);have O3:=zaa (zbs (za O3) (fun _ hg=>hb.block _ hg))
       have G3:=zaa (Nat.lt_of_lt_of_le (za G3) hb.size))
     |(have hV:HE=HE:=rfl
       clear hV;have NE:=zaa (show C≠E by have:=(Array.getElem?_eq_some_iff.1 (za HE)).1;omega)
       have HE:=zaa (zac hb (za HE)))
     |skip
    have F:=zaa ((za F).trans (hb.mono (za F).size));clear hC hCn hb;refine hK.out _ _ ?_ (fun hHeld=>?_)
    ·try dsimp only
     exact za SS _ (za F)
    clear hK K;refine hP ?_;refine wpAnyH_ready (rs:=[8]) (by kernel_rfl) (by simp) ?_;refine AllReadyH.cons rfl (fun K hK=>?_) ?_
    ·obtain⟨a1,a2⟩:=zps (x:=.int .i64 ver) (y:=.slice (some ⟨g3,0,none⟩) n c3) (z:=.slice none 0 0) (za HC);have F:=zaa ((za F).grown a2 (za F).size (fun g hg=>by have:=Option.some.inj hg;have:=za LC;omega));have O3:=zaa (zbs (za O3) (fun _ hg=>a2.block _ hg (fun e=>za NC (Option.some.inj e))));have G3:=zaa (Nat.lt_of_lt_of_le (za G3) a2.size);have u0:=zab (za HC) 0 _ rfl;have u1:=zab (za HC) 1 _ rfl;have u2:=zab (za HC) 2 _ rfl;have f0:U.frozen? ⟨C,0,none⟩=false:=by simp[World.frozen?,za HC]
     have f1:U.frozen? ⟨C,1,none⟩=false:=by simp[World.frozen?,za HC]
     have f2:U.frozen? ⟨C,2,none⟩=false:=by simp[World.frozen?,za HC]
     have HC:=zaa a1;clear a1 a2;go_simp
     clear u0 u1 u2 f0 f1 f2;refine hK.out _ _ ?_ (fun hHeld=>?_)
     ·try dsimp only
      exact za SS _ (za F)
     clear hK K;refine hP ?_;refine wpAnyH_done (by kernel_rfl) ?_ _;generalize (((U.setCell ⟨C,0,none⟩ (.int .i64 ver)).setCell ⟨C,1,none⟩ (.slice (some ⟨g3,0,none⟩) n c3)).setCell ⟨C,2,none⟩ (.slice none 0 0))=V at *;have CV:=zaa (Array.getElem?_eq_some_iff.1 (za HC)).1
     have RT:=zaa (show ∀ W:World,V.grownBy W (some C)→(RtsAt W (some ⟨g3,0,none⟩) rs∧n≤c3)∧W.ownsRow 0 56 3 (.slice (some ⟨g3,0,none⟩) n c3) n (zch rs) from fun W hg=>by
      have h3:=zbs (w':=W) (za O3) (fun _ hl=>hg.block _ hl (fun e=>za NC (Option.some.inj e)));have hn:=za HN;subst hn
      exact⟨ze h3 (za R1).sz,h3.1,h3.2.imp id (fun ⟨g,cap,cur,q1,_,q3⟩=>⟨g,cap,cur,q1,Nat.zero_le _,q3⟩)⟩)
     have FB:=zaa (show ∀ W:World,V.grownBy W (some C)→Below W2.heap.size W2 W from fun W hg=>(za F).grown hg (za F).size (fun g e=>by have:=Option.some.inj e;have:=za LC;omega));have Z0:=zaa (show CpI ver C g3 n c3 ps V 0 V from⟨none,0,[],rfl,rfl,OwnW.ofNil _ _,za HC,zbk _ _⟩);clear hHeld F HC O3
     go_wp2_with fail
     go_loopw [4] (fun i wr=>∃ j:Nat,j≤m∧i=.int .i64 (j:Int)∧Hid (CpI ver C g3 n c3 ps V j wr)) (fun i _=>m - (intOf i).toNat)
     case atStart=>exact⟨0,by omega,rfl,Z0⟩
     case round =>
      obtain⟨j,hj,rfl,IV⟩:=hrel;obtain⟨sp,c,l,hlp,hlj,hOW,hHC,hF⟩:=za IV;have LP:=zaa hlp;have LJ:=zaa hlj;have OW:=zaa hOW;have HC:=zaa hHC;have FW:=zaa hF;have k2:=cell_later (za FB _ hF) (za D2);clear hlp hlj hOW hHC hF IV;by_cases hjn:j<m
      ·have y0:(0:Int)≤(j:Int):=by omega
       have y1:(j:Int)<(m:Int):=by omega
       have hjl:j<ps.length:=by rw[za HM];exact hjn
       obtain⟨b,off,ta,tc,rfl,q0,q1,hT,hl,hz⟩:=(za P2).cell j hjl;have LT:=zaa ((za TS) _ (List.getElem_mem hjl));have TK:=zaa (show ps.take (j+1)=ps.take j++[ps[j]] from by rw[List.take_succ_eq_append_getElem hjl]);generalize ps[j]=po at *;obtain⟨nm,ts⟩:=po;simp only at q0 q1 hT hl LT;have TT:=zaa hT;have TN:=zaa (show ta=none→ts.length=0∧tc=0 from fun e=>by subst e;exact⟨hT.nil,hz rfl⟩);have TL:=zaa (zce ts);have SS5:=zaa (show ∀ W:World,V.grownBy W (some C)→W.cell? ⟨w.heap.size,2,none⟩=some (.slice (some ⟨b,off,none⟩) m pc)∧W.cell? ⟨b,off+j*2,none⟩=some (.string nm)∧W.cell? ⟨b,off+j*2+1,none⟩=some (.slice ta ts.length tc) from fun W hg=>⟨cell_later (za FB _ hg) (za D2),cell_later (za FB _ hg) q0,cell_later (za FB _ hg) q1⟩);have htl:=za LT;clear q0 q1 hT hl hz;generalize htn:ts.length=tl at *;have HT:=zaa htn;clear htn;have F:=zaa (show V.grownBy wr.drew (some C) from zag (za FW) (Below.refl _ _).drew);have G:=zaa (show Below wr.heap.size wr wr.drew from(Below.refl _ _).drew);have HC:=zaa (show wr.drew.heap[C]? = some (.cells #[.int .i64 ver,.slice (some ⟨g3,0,none⟩) n c3,.slice sp j c] 45 (0,0)) from za HC);have VW:=zaa (za FW).size
       go_wp2_with fail
       refine wp_region_held_drew (S:=fun w'=>w'.cell? ⟨w.heap.size,2,none⟩=some (.slice (some ⟨b,off,none⟩) m pc)∧w'.cell? ⟨b,off+j*2,none⟩=some (.string nm)∧w'.cell? ⟨b,off+j*2+1,none⟩=some (.slice ta tl tc)) (by kernel_rfl) ?_ (fun hHeld=>?_)
       ·try dsimp only
        exact za SS5 _ (za F)
       refine hT 0 ?_;refine hT 2 ?_;refine hT 3 ?_;refine hT 4 ?_;refine hT 5 ?_;refine hT 6 ?_;refine hT 7 ?_;refine hT 9 ?_;refine hT 10 ?_;refine hT 11 ?_;refine hT 12 ?_;refine hT 13 ?_;refine hT 14 ?_;refine wpAnyH_ready (rs:=[1,8]) (by kernel_rfl) (by simp) ?_;refine AllReadyH.cons rfl (fun K hK=>?_) ?_
       ·have cc:=zab (za HC) 2 _ rfl;go_simp
        clear cc;refine hK.out _ _ ?_ (fun hHeld=>?_)
        ·try dsimp only
         exact za SS5 _ (za F)
        clear hK K;refine hP ?_;refine wpAnyH_ready (rs:=[8]) (by kernel_rfl) (by simp) ?_;refine AllReadyH.cons rfl (fun K hK=>?_) ?_
        ·refine zef rfl rfl ?_;intro E5 U5 hE hEn hb;have LE5:=zaa (show wr.heap.size≤E5 by rw[← hE];exact(za G).size);have HE5:=zaa hEn;have HC:=zaa (zac hb (za HC));have F:=zaa (zag (za F) (hb.mono (za F).size));have G:=zaa ((za G).trans (hb.mono (za G).size));clear hE hEn hb;refine hK.out _ _ ?_ (fun hHeld=>?_)
         ·try dsimp only
          exact za SS5 _ (za F)
         clear hK K;refine hP ?_;refine wpAnyH_ready (rs:=[15]) (by kernel_rfl) (by simp) ?_;refine AllReadyH.cons rfl (fun K hK=>?_) ?_
         ·refine zbc rfl (.tmp 27) (.tmp 33) 31 70 rfl i1 _ 2 24 Tryz.underlying31 (za J0) (za J1) (za J2) (za J3) rfl (by omega) E5 rfl (za HE5) ta tl tc rfl (za TN) (zcr ts) (za TL) ((za TT).later (za FB _ (za F))).news (zbl ts) (by omega) (by omega) ?_;intro g5 c5 U5 ho hg hw5;have HC:=zaa ((hg.block C (Array.getElem?_eq_some_iff.1 (za HC)).1 (fun e=>by have:=Option.some.inj e;have:=za LE5;have:=za VW;have:=za CV;omega)).trans (za HC));have G5:=zaa (show wr.heap.size≤g5 by have:=za LE5;have:=(za G).size;omega)
          have OT:=zaa (show zbq V.heap.size U5 (some ⟨g5,0,none⟩) c5 ts by
           have:=za HT;subst this
           exact zbq.low ho (Nat.le_trans (za VW) (za LE5)))
          have NE5:=zaa (show sp.map (·.block)≠some g5 from fun e=>by have:=(za OW).blk_lt _ e;have:=za G5;omega);have F:=zaa (show V.grownBy U5 (some C) from⟨hg.os.trans (za F).os,hg.tape.trans (za F).tape,hg.output.trans (za F).output,Nat.le_trans (za F).size hg.size,fun k hk hne=>(hg.block k (Nat.lt_of_lt_of_le hk (za F).size) (fun e=>by have:=Option.some.inj e;have:=za LE5;have:=za VW;omega)).trans ((za F).block k hk hne)⟩);have G:=zaa ((za G).grown hg (za G).size (fun g e=>by have:=Option.some.inj e;have:=za LE5;omega));clear ho hg hw5;refine hK.out _ _ ?_ (fun hHeld=>?_)
          ·try dsimp only
           exact za SS5 _ (za F)
          clear hK K;refine hP ?_;refine hT 16 ?_;refine wpAnyH_ready (rs:=[17]) (by kernel_rfl) (by simp) ?_;refine AllReadyH.cons rfl (fun K hK=>?_) ?_
          ·refine za6 rfl 35 rfl nm (some ⟨g5,0,none⟩) tl c5 rfl ?_;intro B5 U5 hE hEn hb;have HB5:=zaa hEn;have HC:=zaa (zac hb (za HC));have F:=zaa (zag (za F) (hb.mono (za F).size));have OT:=zaa ((za OT).below hb);have G:=zaa ((za G).trans (hb.mono (za G).size));clear hE hEn hb;refine hK.out _ _ ?_ (fun hHeld=>?_)
           ·try dsimp only
            exact za SS5 _ (za F)
           clear hK K;refine hP ?_;refine wpAnyH_ready (rs:=[18]) (by kernel_rfl) (by simp) ?_;refine AllReadyH.cons rfl (fun K hK=>?_) ?_
           ·refine za5 rfl (.tmp 20) (.tmp 36) rfl V.heap.size sp j c l rfl (za LJ) ((za OW).same (fun g _ h2=>(za G).block g h2)) B5 ⟨⟨nm,ts⟩,g5,c5⟩ rfl (by have:=za HT;subst this;exact za HB5) (za OT) (za NE5) (by omega) (za F).size ?_;intro sp6 c6 U5 ho hb;have O6:=zaa ho;have HC:=zaa ((hb.block C (za CV)).trans (za HC));have F:=zaa (zag (za F) hb);clear ho hb;refine hK.out _ _ ?_ (fun hHeld=>?_)
            ·try dsimp only
             exact za SS5 _ (za F)
            clear hK K;refine hP ?_;refine hT 19 ?_;refine wpAnyH_ready (rs:=[20]) (by kernel_rfl) (by simp) ?_;refine AllReadyH.cons rfl (fun K hK=>?_) ?_
            ·have cc:=zab (za HC) 2 _ rfl;have cf:U5.frozen? ⟨C,2,none⟩=false:=by simp[World.frozen?,za HC]
             have a1:=heap_setCell_same U5 C 2 _ 45 (.slice sp6 (j+1) c6) (za HC);have a2:=zb U5 C 2 (.slice sp6 (j+1) c6);have O6:=zaa ((za O6).same (w':=U5.setCell ⟨C,2,none⟩ (.slice sp6 (j+1) c6)) (fun g h1 h2=>a2.block g h2 (fun e=>by have:=Option.some.inj e;have:=za CV;omega)));have F:=zaa (zaq (za F) a2);have HC:=zaa (show(U5.setCell ⟨C,2,none⟩ (.slice sp6 (j+1) c6)).heap[C]? = some (.cells #[.int .i64 ver,.slice (some ⟨g3,0,none⟩) n c3,.slice sp6 (j+1) c6] 45 (0,0)) from a1);clear a1 a2;go_simp
             clear cc cf;refine hK.out _ _ ?_ (fun hHeld=>?_)
             ·try dsimp only
              exact za SS5 _ (za F)
             clear hK K;refine hP ?_;refine wpAnyH_done (by kernel_rfl) ?_ _;have IV:=zaa (show CpI ver C g3 n c3 ps V (j+1) (U5.setCell ⟨C,2,none⟩ (.slice sp6 (j+1) c6)) from⟨sp6,c6,_,by rw[List.map_append,za LP,za TK];rfl,by rw[List.length_append,za LJ];rfl,za O6,za HC,za F⟩);generalize U5.setCell ⟨C,2,none⟩ (.slice sp6 (j+1) c6)=U6 at *;clear F G HC O6 OT hHeld
             go_wp2
             exact⟨⟨j+1,by omega,by go_num,IV⟩,by simp[intOf];omega⟩
            exact AllReadyH.nil
           exact AllReadyH.nil
          exact AllReadyH.nil
         exact AllReadyH.nil
        exact AllReadyH.nil
       refine AllReadyH.cons rfl (fun K hK=>?_) ?_
       ·refine zef rfl rfl ?_;intro E5 U5 hE hEn hb;have LE5:=zaa (show wr.heap.size≤E5 by rw[← hE];exact(za G).size);have HE5:=zaa hEn;have HC:=zaa (zac hb (za HC));have F:=zaa (zag (za F) (hb.mono (za F).size));have G:=zaa ((za G).trans (hb.mono (za G).size));clear hE hEn hb;refine hK.out _ _ ?_ (fun hHeld=>?_)
        ·try dsimp only
         exact za SS5 _ (za F)
        clear hK K;refine hP ?_;refine wpAnyH_ready (rs:=[1,15]) (by kernel_rfl) (by simp) ?_;refine AllReadyH.cons rfl (fun K hK=>?_) ?_
        ·have cc:=zab (za HC) 2 _ rfl;go_simp
         clear cc;refine hK.out _ _ ?_ (fun hHeld=>?_)
         ·try dsimp only
          exact za SS5 _ (za F)
         clear hK K;refine hP ?_;refine wpAnyH_ready (rs:=[15]) (by kernel_rfl) (by simp) ?_;refine AllReadyH.cons rfl (fun K hK=>?_) ?_
         ·refine zbc rfl (.tmp 27) (.tmp 33) 31 70 rfl i1 _ 2 24 Tryz.underlying31 (za J0) (za J1) (za J2) (za J3) rfl (by omega) E5 rfl (za HE5) ta tl tc rfl (za TN) (zcr ts) (za TL) ((za TT).later (za FB _ (za F))).news (zbl ts) (by omega) (by omega) ?_;intro g5 c5 U5 ho hg hw5;have HC:=zaa ((hg.block C (Array.getElem?_eq_some_iff.1 (za HC)).1 (fun e=>by have:=Option.some.inj e;have:=za LE5;have:=za VW;have:=za CV;omega)).trans (za HC));have G5:=zaa (show wr.heap.size≤g5 by have:=za LE5;have:=(za G).size;omega)
          have OT:=zaa (show zbq V.heap.size U5 (some ⟨g5,0,none⟩) c5 ts by
           have:=za HT;subst this
           exact zbq.low ho (Nat.le_trans (za VW) (za LE5)))
          have NE5:=zaa (show sp.map (·.block)≠some g5 from fun e=>by have:=(za OW).blk_lt _ e;have:=za G5;omega);have F:=zaa (show V.grownBy U5 (some C) from⟨hg.os.trans (za F).os,hg.tape.trans (za F).tape,hg.output.trans (za F).output,Nat.le_trans (za F).size hg.size,fun k hk hne=>(hg.block k (Nat.lt_of_lt_of_le hk (za F).size) (fun e=>by have:=Option.some.inj e;have:=za LE5;have:=za VW;omega)).trans ((za F).block k hk hne)⟩);have G:=zaa ((za G).grown hg (za G).size (fun g e=>by have:=Option.some.inj e;have:=za LE5;omega));clear ho hg hw5;refine hK.out _ _ ?_ (fun hHeld=>?_)
          ·try dsimp only
           exact za SS5 _ (za F)
          clear hK K;refine hP ?_;refine hT 16 ?_;refine wpAnyH_ready (rs:=[17]) (by kernel_rfl) (by simp) ?_;refine AllReadyH.cons rfl (fun K hK=>?_) ?_
          ·refine za6 rfl 35 rfl nm (some ⟨g5,0,none⟩) tl c5 rfl ?_;intro B5 U5 hE hEn hb;have HB5:=zaa hEn;have HC:=zaa (zac hb (za HC));have F:=zaa (zag (za F) (hb.mono (za F).size));have OT:=zaa ((za OT).below hb);have G:=zaa ((za G).trans (hb.mono (za G).size));clear hE hEn hb;refine hK.out _ _ ?_ (fun hHeld=>?_)
           ·try dsimp only
            exact za SS5 _ (za F)
           clear hK K;refine hP ?_;refine wpAnyH_ready (rs:=[18]) (by kernel_rfl) (by simp) ?_;refine AllReadyH.cons rfl (fun K hK=>?_) ?_
           ·refine za5 rfl (.tmp 20) (.tmp 36) rfl V.heap.size sp j c l rfl (za LJ) ((za OW).same (fun g _ h2=>(za G).block g h2)) B5 ⟨⟨nm,ts⟩,g5,c5⟩ rfl (by have:=za HT;subst this;exact za HB5) (za OT) (za NE5) (by omega) (za F).size ?_;intro sp6 c6 U5 ho hb;have O6:=zaa ho;have HC:=zaa ((hb.block C (za CV)).trans (za HC));have F:=zaa (zag (za F) hb);clear ho hb;refine hK.out _ _ ?_ (fun hHeld=>?_)
            ·try dsimp only
             exact za SS5 _ (za F)
            clear hK K;refine hP ?_;refine hT 19 ?_;refine wpAnyH_ready (rs:=[20]) (by kernel_rfl) (by simp) ?_;refine AllReadyH.cons rfl (fun K hK=>?_) ?_
            ·have cc:=zab (za HC) 2 _ rfl;have cf:U5.frozen? ⟨C,2,none⟩=false:=by simp[World.frozen?,za HC]
             have a1:=heap_setCell_same U5 C 2 _ 45 (.slice sp6 (j+1) c6) (za HC);have a2:=zb U5 C 2 (.slice sp6 (j+1) c6);have O6:=zaa ((za O6).same (w':=U5.setCell ⟨C,2,none⟩ (.slice sp6 (j+1) c6)) (fun g h1 h2=>a2.block g h2 (fun e=>by have:=Option.some.inj e;have:=za CV;omega)));have F:=zaa (zaq (za F) a2);have HC:=zaa (show(U5.setCell ⟨C,2,none⟩ (.slice sp6 (j+1) c6)).heap[C]? = some (.cells #[.int .i64 ver,.slice (some ⟨g3,0,none⟩) n c3,.slice sp6 (j+1) c6] 45 (0,0)) from a1);clear a1 a2;go_simp
             clear cc cf;refine hK.out _ _ ?_ (fun hHeld=>?_)
             ·try dsimp only
              exact za SS5 _ (za F)
             clear hK K;refine hP ?_;refine wpAnyH_done (by kernel_rfl) ?_ _;have IV:=zaa (show CpI ver C g3 n c3 ps V (j+1) (U5.setCell ⟨C,2,none⟩ (.slice sp6 (j+1) c6)) from⟨sp6,c6,_,by rw[List.map_append,za LP,za TK];rfl,by rw[List.length_append,za LJ];rfl,za O6,za HC,za F⟩);generalize U5.setCell ⟨C,2,none⟩ (.slice sp6 (j+1) c6)=U6 at *;clear F G HC O6 OT hHeld
             go_wp2
             exact⟨⟨j+1,by omega,by go_num,IV⟩,by simp[intOf];omega⟩
            exact AllReadyH.nil
           exact AllReadyH.nil
          exact AllReadyH.nil
         exact AllReadyH.nil
        refine AllReadyH.cons rfl (fun K hK=>?_) ?_
        ·refine zbc rfl (.tmp 27) (.tmp 33) 31 70 rfl i1 _ 2 24 Tryz.underlying31 (za J0) (za J1) (za J2) (za J3) rfl (by omega) E5 rfl (za HE5) ta tl tc rfl (za TN) (zcr ts) (za TL) ((za TT).later (za FB _ (za F))).news (zbl ts) (by omega) (by omega) ?_;intro g5 c5 U5 ho hg hw5;have HC:=zaa ((hg.block C (Array.getElem?_eq_some_iff.1 (za HC)).1 (fun e=>by have:=Option.some.inj e;have:=za LE5;have:=za VW;have:=za CV;omega)).trans (za HC));have G5:=zaa (show wr.heap.size≤g5 by have:=za LE5;have:=(za G).size;omega)
         have OT:=zaa (show zbq V.heap.size U5 (some ⟨g5,0,none⟩) c5 ts by
          have:=za HT;subst this
          exact zbq.low ho (Nat.le_trans (za VW) (za LE5)))
         have NE5:=zaa (show sp.map (·.block)≠some g5 from fun e=>by have:=(za OW).blk_lt _ e;have:=za G5;omega);have F:=zaa (show V.grownBy U5 (some C) from⟨hg.os.trans (za F).os,hg.tape.trans (za F).tape,hg.output.trans (za F).output,Nat.le_trans (za F).size hg.size,fun k hk hne=>(hg.block k (Nat.lt_of_lt_of_le hk (za F).size) (fun e=>by have:=Option.some.inj e;have:=za LE5;have:=za VW;omega)).trans ((za F).block k hk hne)⟩);have G:=zaa ((za G).grown hg (za G).size (fun g e=>by have:=Option.some.inj e;have:=za LE5;omega));clear ho hg hw5;refine hK.out _ _ ?_ (fun hHeld=>?_)
         ·try dsimp only
          exact za SS5 _ (za F)
         clear hK K;refine hP ?_;refine hT 16 ?_;refine wpAnyH_ready (rs:=[1,17]) (by kernel_rfl) (by simp) ?_;refine AllReadyH.cons rfl (fun K hK=>?_) ?_
         ·have cc:=zab (za HC) 2 _ rfl;go_simp
          clear cc;refine hK.out _ _ ?_ (fun hHeld=>?_)
          ·try dsimp only
           exact za SS5 _ (za F)
          clear hK K;refine hP ?_;refine wpAnyH_ready (rs:=[17]) (by kernel_rfl) (by simp) ?_;refine AllReadyH.cons rfl (fun K hK=>?_) ?_
          ·refine za6 rfl 35 rfl nm (some ⟨g5,0,none⟩) tl c5 rfl ?_;intro B5 U5 hE hEn hb;have HB5:=zaa hEn;have HC:=zaa (zac hb (za HC));have F:=zaa (zag (za F) (hb.mono (za F).size));have OT:=zaa ((za OT).below hb);have G:=zaa ((za G).trans (hb.mono (za G).size));clear hE hEn hb;refine hK.out _ _ ?_ (fun hHeld=>?_)
           ·try dsimp only
            exact za SS5 _ (za F)
           clear hK K;refine hP ?_;refine wpAnyH_ready (rs:=[18]) (by kernel_rfl) (by simp) ?_;refine AllReadyH.cons rfl (fun K hK=>?_) ?_
           ·refine za5 rfl (.tmp 20) (.tmp 36) rfl V.heap.size sp j c l rfl (za LJ) ((za OW).same (fun g _ h2=>(za G).block g h2)) B5 ⟨⟨nm,ts⟩,g5,c5⟩ rfl (by have:=za HT;subst this;exact za HB5) (za OT) (za NE5) (by omega) (za F).size ?_;intro sp6 c6 U5 ho hb;have O6:=zaa ho;have HC:=zaa ((hb.block C (za CV)).trans (za HC));have F:=zaa (zag (za F) hb);clear ho hb;refine hK.out _ _ ?_ (fun hHeld=>?_)
            ·try dsimp only
             exact za SS5 _ (za F)
            clear hK K;refine hP ?_;refine hT 19 ?_;refine wpAnyH_ready (rs:=[20]) (by kernel_rfl) (by simp) ?_;refine AllReadyH.cons rfl (fun K hK=>?_) ?_
            ·have cc:=zab (za HC) 2 _ rfl;have cf:U5.frozen? ⟨C,2,none⟩=false:=by simp[World.frozen?,za HC]
             have a1:=heap_setCell_same U5 C 2 _ 45 (.slice sp6 (j+1) c6) (za HC);have a2:=zb U5 C 2 (.slice sp6 (j+1) c6);have O6:=zaa ((za O6).same (w':=U5.setCell ⟨C,2,none⟩ (.slice sp6 (j+1) c6)) (fun g h1 h2=>a2.block g h2 (fun e=>by have:=Option.some.inj e;have:=za CV;omega)));have F:=zaa (zaq (za F) a2);have HC:=zaa (show(U5.setCell ⟨C,2,none⟩ (.slice sp6 (j+1) c6)).heap[C]? = some (.cells #[.int .i64 ver,.slice (some ⟨g3,0,none⟩) n c3,.slice sp6 (j+1) c6] 45 (0,0)) from a1);clear a1 a2;go_simp
             clear cc cf;refine hK.out _ _ ?_ (fun hHeld=>?_)
             ·try dsimp only
              exact za SS5 _ (za F)
             clear hK K;refine hP ?_;refine wpAnyH_done (by kernel_rfl) ?_ _;have IV:=zaa (show CpI ver C g3 n c3 ps V (j+1) (U5.setCell ⟨C,2,none⟩ (.slice sp6 (j+1) c6)) from⟨sp6,c6,_,by rw[List.map_append,za LP,za TK];rfl,by rw[List.length_append,za LJ];rfl,za O6,za HC,za F⟩);generalize U5.setCell ⟨C,2,none⟩ (.slice sp6 (j+1) c6)=U6 at *;clear F G HC O6 OT hHeld
             go_wp2
             exact⟨⟨j+1,by omega,by go_num,IV⟩,by simp[intOf];omega⟩
            exact AllReadyH.nil
           exact AllReadyH.nil
          exact AllReadyH.nil
         refine AllReadyH.cons rfl (fun K hK=>?_) ?_
         ·refine za6 rfl 35 rfl nm (some ⟨g5,0,none⟩) tl c5 rfl ?_;intro B5 U5 hE hEn hb;have HB5:=zaa hEn;have HC:=zaa (zac hb (za HC));have F:=zaa (zag (za F) (hb.mono (za F).size));have OT:=zaa ((za OT).below hb);have G:=zaa ((za G).trans (hb.mono (za G).size));clear hE hEn hb;refine hK.out _ _ ?_ (fun hHeld=>?_)
          ·try dsimp only
           exact za SS5 _ (za F)
          clear hK K;refine hP ?_;refine wpAnyH_ready (rs:=[1]) (by kernel_rfl) (by simp) ?_;refine AllReadyH.cons rfl (fun K hK=>?_) ?_
          ·have cc:=zab (za HC) 2 _ rfl;go_simp
           clear cc;refine hK.out _ _ ?_ (fun hHeld=>?_)
           ·try dsimp only
            exact za SS5 _ (za F)
           clear hK K;refine hP ?_;refine wpAnyH_ready (rs:=[18]) (by kernel_rfl) (by simp) ?_;refine AllReadyH.cons rfl (fun K hK=>?_) ?_
           ·refine za5 rfl (.tmp 20) (.tmp 36) rfl V.heap.size sp j c l rfl (za LJ) ((za OW).same (fun g _ h2=>(za G).block g h2)) B5 ⟨⟨nm,ts⟩,g5,c5⟩ rfl (by have:=za HT;subst this;exact za HB5) (za OT) (za NE5) (by omega) (za F).size ?_;intro sp6 c6 U5 ho hb;have O6:=zaa ho;have HC:=zaa ((hb.block C (za CV)).trans (za HC));have F:=zaa (zag (za F) hb);clear ho hb;refine hK.out _ _ ?_ (fun hHeld=>?_)
            ·try dsimp only
             exact za SS5 _ (za F)
            clear hK K;refine hP ?_;refine hT 19 ?_;refine wpAnyH_ready (rs:=[20]) (by kernel_rfl) (by simp) ?_;refine AllReadyH.cons rfl (fun K hK=>?_) ?_
            ·have cc:=zab (za HC) 2 _ rfl;have cf:U5.frozen? ⟨C,2,none⟩=false:=by simp[World.frozen?,za HC]
             have a1:=heap_setCell_same U5 C 2 _ 45 (.slice sp6 (j+1) c6) (za HC);have a2:=zb U5 C 2 (.slice sp6 (j+1) c6);have O6:=zaa ((za O6).same (w':=U5.setCell ⟨C,2,none⟩ (.slice sp6 (j+1) c6)) (fun g h1 h2=>a2.block g h2 (fun e=>by have:=Option.some.inj e;have:=za CV;omega)));have F:=zaa (zaq (za F) a2);have HC:=zaa (show(U5.setCell ⟨C,2,none⟩ (.slice sp6 (j+1) c6)).heap[C]? = some (.cells #[.int .i64 ver,.slice (some ⟨g3,0,none⟩) n c3,.slice sp6 (j+1) c6] 45 (0,0)) from a1);clear a1 a2;go_simp
             clear cc cf;refine hK.out _ _ ?_ (fun hHeld=>?_)
             ·try dsimp only
              exact za SS5 _ (za F)
             clear hK K;refine hP ?_;refine wpAnyH_done (by kernel_rfl) ?_ _;have IV:=zaa (show CpI ver C g3 n c3 ps V (j+1) (U5.setCell ⟨C,2,none⟩ (.slice sp6 (j+1) c6)) from⟨sp6,c6,_,by rw[List.map_append,za LP,za TK];rfl,by rw[List.length_append,za LJ];rfl,za O6,za HC,za F⟩);generalize U5.setCell ⟨C,2,none⟩ (.slice sp6 (j+1) c6)=U6 at *;clear F G HC O6 OT hHeld
             go_wp2
             exact⟨⟨j+1,by omega,by go_num,IV⟩,by simp[intOf];omega⟩
            exact AllReadyH.nil
           exact AllReadyH.nil
          exact AllReadyH.nil
         exact AllReadyH.nil
        exact AllReadyH.nil
       exact AllReadyH.nil
      ·have hjj:¬ (j:Int)<(m:Int):=by omega
       obtain rfl:j=m:=by omega
       have e0:=zab (za HC) 0 _ rfl;have e1:=zab (za HC) 1 _ rfl;have e2:=zab (za HC) 2 _ rfl;have XD:=zaa (zac (za FB _ (za FW)) (za X2));have z0:=zab (za XD) 0 _ rfl;have z1:=zab (za XD) 1 _ rfl;have z2:=zab (za XD) 2 _ rfl;have f0:wr.frozen? ⟨w.heap.size+1,0,none⟩=false:=by simp[World.frozen?,za XD]
       have f1:wr.frozen? ⟨w.heap.size+1,1,none⟩=false:=by simp[World.frozen?,za XD]
       have f2:wr.frozen? ⟨w.heap.size+1,2,none⟩=false:=by simp[World.frozen?,za XD]
       obtain⟨a1,a2⟩:=zps (x:=.int .i64 ver) (y:=.slice (some ⟨g3,0,none⟩) n c3) (z:=.slice sp j c) (za XD);have A1:=zaa a1;have A2:=zaa a2;clear a1 a2
       go_wp2
       generalize (((wr.setCell ⟨w.heap.size+1,0,none⟩ (.int .i64 ver)).setCell ⟨w.heap.size+1,1,none⟩ (.slice (some ⟨g3,0,none⟩) n c3)).setCell ⟨w.heap.size+1,2,none⟩ (.slice sp j c))=W9 at *;clear z0 z1 z2 f0 f1 f2 e0 e1 e2;have g0:=zab (za A1) 0 _ rfl;have g1:=zab (za A1) 1 _ rfl;have g2:=zab (za A1) 2 _ rfl
       have CF:=zaa (show CfAt W9 ⟨ver,rs,ps⟩ ⟨some ⟨g3,0,none⟩,c3,sp,c⟩∧Below w.heap.size w W9∧OwnW w.heap.size W9 sp c l∧l.map Pw.po=ps∧W9.ownsRow 0 56 3 (.slice (some ⟨g3,0,none⟩) n c3) n (zch rs) by
        have hpo:List.map Pw.po l=ps:=by rw[za LP,← za HM,List.take_length]
        have hlow:V.heap.size≤wr.heap.size:=(za FW).size;have hZ:=za Z2;have hF2:=(za FB _ (za FW)).size;have hO:=(za OW).same (w':=W9) (fun g h1 h2=>(za A2).block g h2 (fun e=>by have:=Option.some.inj e;have:=za LC;have:=za CV;omega))
        obtain⟨hpos,hpc⟩:=hO.at_ (fun x hx=>by
         have hx2:x.po∈ps:=by rw[← hpo];exact List.mem_map_of_mem hx
         obtain⟨i,hi,e⟩:=List.getElem_of_mem hx2;obtain⟨_,_,ta,tc,_,_,_,hT,hl,_⟩:=(za P1).cell i hi;rw[e] at hT hl
         exact⟨hT.lt,hl.1⟩)
        rw[hpo] at hpos;obtain⟨⟨hrt,hrc⟩,hro⟩:=za RT wr (za FW)
        have hrt9:RtsAt W9 (some ⟨g3,0,none⟩) rs:=⟨hrt.sz,fun i hi=>by
         obtain⟨b,off,e,r0,r1,r2⟩:=hrt.cell i hi;have hb:b=g3:=by cases e;rfl
         have hlt:g3<wr.heap.size:=by have:=za G3;omega
         have hk:W9.heap[g3]? = wr.heap[g3]?:=(za A2).block _ hlt (fun e=>by have:=Option.some.inj e;have:=za GL;omega);subst hb
         exact⟨b,off,e,(World.cell?_of_block hk).trans r0,(World.cell?_of_block hk).trans r1,(World.cell?_of_block hk).trans r2⟩⟩
        have hro9:=zbs (w':=W9) hro (fun _ hl=>(za A2).block _ hl (fun e=>by have:=Option.some.inj e;have:=za GL;omega));have hlm:=za LJ;refine⟨⟨za WV,hrt9,hpos,⟨by have:=za HN;simp only[maxLen];omega,by have:=za HN;simp only;omega⟩,⟨by have:=za HM;simp only[maxLen];omega,by have:=za HM;simp only;omega⟩,fun h=>by cases h⟩,?_,hO.low (by have:=(za B2).size;have:=(za FB _ (zbk V _)).size;omega),hpo,hro9⟩
        exact((za B2).trans ((za FB _ (za FW)).mono (za B2).size)).grown (za A2) (by have:=(za B2).size;omega) (fun g e=>by have:=Option.some.inj e;omega))
       refine bodyPost_ret (v:=.agg #[.int .i64 ver,.slice (some ⟨g3,0,none⟩) n c3,.slice sp j c]) (by simp[results,Tryz.results68,go_sem,g0,g1,g2]) rfl ⟨⟨some ⟨g3,0,none⟩,c3,sp,c⟩,rfl,(za CF).1,(za CF).2.1,l,(za CF).2.2.1,(za CF).2.2.2.1,by have h9:=(za CF).2.2.2.2;have hn:=za HN;subst hn;exact h9⟩
    exact AllReadyH.nil
   exact AllReadyH.nil
  refine AllReadyH.cons rfl (fun K hK=>?_) ?_
  ·refine zi5 rfl rfl ?_;intro C U hC hCn hb;have LC:=zaa (show W2.heap.size≤C by rw[← hC];exact(za F).size);have HC:=zaa hCn;first
    |(have hV:O3=O3:=rfl
      clear hV;have NC:=zaa (show g3≠C by have:=za G3;omega);have O3:=zaa (zbs (za O3) (fun _ hg=>hb.block _ hg))
      have G3:=zaa (Nat.lt_of_lt_of_le (za G3) hb.size))
    |(have hV:HE=HE:=rfl
      clear hV;have NE:=zaa (show C≠E by have:=(Array.getElem?_eq_some_iff.1 (za HE)).1;omega)
      have HE:=zaa (zac hb (za HE)))
    |skip
   have F:=zaa ((za F).trans (hb.mono (za F).size));clear hC hCn hb;refine hK.out _ _ ?_ (fun hHeld=>?_)
   ·try dsimp only
    exact za SS _ (za F)
   clear hK K;refine hP ?_;refine wpAnyH_ready (rs:=[5]) (by kernel_rfl) (by simp) ?_;refine AllReadyH.cons rfl (fun K hK=>?_) ?_
   ·refine zbc rfl (.tmp 7) (.tmp 9) 42 56 rfl i0 _ 3 48 Tryz.underlying42 (za I0) (za I1) (za I2) (za I3) rfl (by omega) E rfl (za HE) ra n rc rfl (za RN) (zch rs) (za RL) ((za R2).later (za F)).news (zec rs) (by omega) (by omega) ?_;intro g3 c3 U ho3 hg3 hw3;have hEl:=(Array.getElem?_eq_some_iff.1 (za HE)).1;have O3:=zaa ho3;first
     |(have hV:HC=HC:=rfl
       clear hV;have NC:=zaa (show g3≠C by have:=(Array.getElem?_eq_some_iff.1 (za HC)).1;have:=za NE;omega)
       have HC:=zaa ((hg3.block C (Array.getElem?_eq_some_iff.1 (za HC)).1 (fun e=>za NE (Option.some.inj e))).trans (za HC)))
     |skip
    have GL:=zaa (show W2.heap.size≤g3 by have:=za LE;have:=(za F).size;omega)
    have G3:=zaa (show g3<U.heap.size by
     rcases ho3.2 with⟨hv,_⟩|⟨g',cap,cur,hv,_,hg,_⟩
     ·cases hv
     ·simp only[Value.slice.injEq,Option.some.injEq,Addr.mk.injEq,and_true,true_and] at hv;rw[hv.1]
      exact(Array.getElem?_eq_some_iff.1 hg).1)
    have F:=zaa ((za F).grown hg3 (za F).size (fun g hg=>by have:=Option.some.inj hg;have:=za LE;omega));clear ho3 hg3 hw3 hEl;refine hK.out _ _ ?_ (fun hHeld=>?_)
    ·try dsimp only
     exact za SS _ (za F)
    clear hK K;refine hP ?_;refine hT 6 ?_;refine wpAnyH_ready (rs:=[8]) (by kernel_rfl) (by simp) ?_;refine AllReadyH.cons rfl (fun K hK=>?_) ?_
    ·obtain⟨a1,a2⟩:=zps (x:=.int .i64 ver) (y:=.slice (some ⟨g3,0,none⟩) n c3) (z:=.slice none 0 0) (za HC);have F:=zaa ((za F).grown a2 (za F).size (fun g hg=>by have:=Option.some.inj hg;have:=za LC;omega));have O3:=zaa (zbs (za O3) (fun _ hg=>a2.block _ hg (fun e=>za NC (Option.some.inj e))));have G3:=zaa (Nat.lt_of_lt_of_le (za G3) a2.size);have u0:=zab (za HC) 0 _ rfl;have u1:=zab (za HC) 1 _ rfl;have u2:=zab (za HC) 2 _ rfl;have f0:U.frozen? ⟨C,0,none⟩=false:=by simp[World.frozen?,za HC]
     have f1:U.frozen? ⟨C,1,none⟩=false:=by simp[World.frozen?,za HC]
     have f2:U.frozen? ⟨C,2,none⟩=false:=by simp[World.frozen?,za HC]
     have HC:=zaa a1;clear a1 a2;go_simp
     clear u0 u1 u2 f0 f1 f2;refine hK.out _ _ ?_ (fun hHeld=>?_)
     ·try dsimp only
      exact za SS _ (za F)
     clear hK K;refine hP ?_;refine wpAnyH_done (by kernel_rfl) ?_ _;generalize (((U.setCell ⟨C,0,none⟩ (.int .i64 ver)).setCell ⟨C,1,none⟩ (.slice (some ⟨g3,0,none⟩) n c3)).setCell ⟨C,2,none⟩ (.slice none 0 0))=V at *;have CV:=zaa (Array.getElem?_eq_some_iff.1 (za HC)).1
     have RT:=zaa (show ∀ W:World,V.grownBy W (some C)→(RtsAt W (some ⟨g3,0,none⟩) rs∧n≤c3)∧W.ownsRow 0 56 3 (.slice (some ⟨g3,0,none⟩) n c3) n (zch rs) from fun W hg=>by
      have h3:=zbs (w':=W) (za O3) (fun _ hl=>hg.block _ hl (fun e=>za NC (Option.some.inj e)));have hn:=za HN;subst hn
      exact⟨ze h3 (za R1).sz,h3.1,h3.2.imp id (fun ⟨g,cap,cur,q1,_,q3⟩=>⟨g,cap,cur,q1,Nat.zero_le _,q3⟩)⟩)
     have FB:=zaa (show ∀ W:World,V.grownBy W (some C)→Below W2.heap.size W2 W from fun W hg=>(za F).grown hg (za F).size (fun g e=>by have:=Option.some.inj e;have:=za LC;omega));have Z0:=zaa (show CpI ver C g3 n c3 ps V 0 V from⟨none,0,[],rfl,rfl,OwnW.ofNil _ _,za HC,zbk _ _⟩);clear hHeld F HC O3
     go_wp2_with fail
     go_loopw [4] (fun i wr=>∃ j:Nat,j≤m∧i=.int .i64 (j:Int)∧Hid (CpI ver C g3 n c3 ps V j wr)) (fun i _=>m - (intOf i).toNat)
     case atStart=>exact⟨0,by omega,rfl,Z0⟩
     case round =>
      obtain⟨j,hj,rfl,IV⟩:=hrel;obtain⟨sp,c,l,hlp,hlj,hOW,hHC,hF⟩:=za IV;have LP:=zaa hlp;have LJ:=zaa hlj;have OW:=zaa hOW;have HC:=zaa hHC;have FW:=zaa hF;have k2:=cell_later (za FB _ hF) (za D2);clear hlp hlj hOW hHC hF IV;by_cases hjn:j<m
      ·have y0:(0:Int)≤(j:Int):=by omega
       have y1:(j:Int)<(m:Int):=by omega
       have hjl:j<ps.length:=by rw[za HM];exact hjn
       obtain⟨b,off,ta,tc,rfl,q0,q1,hT,hl,hz⟩:=(za P2).cell j hjl;have LT:=zaa ((za TS) _ (List.getElem_mem hjl));have TK:=zaa (show ps.take (j+1)=ps.take j++[ps[j]] from by rw[List.take_succ_eq_append_getElem hjl]);generalize ps[j]=po at *;obtain⟨nm,ts⟩:=po;simp only at q0 q1 hT hl LT;have TT:=zaa hT;have TN:=zaa (show ta=none→ts.length=0∧tc=0 from fun e=>by subst e;exact⟨hT.nil,hz rfl⟩);have TL:=zaa (zce ts);have SS5:=zaa (show ∀ W:World,V.grownBy W (some C)→W.cell? ⟨w.heap.size,2,none⟩=some (.slice (some ⟨b,off,none⟩) m pc)∧W.cell? ⟨b,off+j*2,none⟩=some (.string nm)∧W.cell? ⟨b,off+j*2+1,none⟩=some (.slice ta ts.length tc) from fun W hg=>⟨cell_later (za FB _ hg) (za D2),cell_later (za FB _ hg) q0,cell_later (za FB _ hg) q1⟩);have htl:=za LT;clear q0 q1 hT hl hz;generalize htn:ts.length=tl at *;have HT:=zaa htn;clear htn;have F:=zaa (show V.grownBy wr.drew (some C) from zag (za FW) (Below.refl _ _).drew);have G:=zaa (show Below wr.heap.size wr wr.drew from(Below.refl _ _).drew);have HC:=zaa (show wr.drew.heap[C]? = some (.cells #[.int .i64 ver,.slice (some ⟨g3,0,none⟩) n c3,.slice sp j c] 45 (0,0)) from za HC);have VW:=zaa (za FW).size
       go_wp2_with fail
       refine wp_region_held_drew (S:=fun w'=>w'.cell? ⟨w.heap.size,2,none⟩=some (.slice (some ⟨b,off,none⟩) m pc)∧w'.cell? ⟨b,off+j*2,none⟩=some (.string nm)∧w'.cell? ⟨b,off+j*2+1,none⟩=some (.slice ta tl tc)) (by kernel_rfl) ?_ (fun hHeld=>?_)
       ·try dsimp only
        exact za SS5 _ (za F)
       refine hT 0 ?_;refine hT 2 ?_;refine hT 3 ?_;refine hT 4 ?_;refine hT 5 ?_;refine hT 6 ?_;refine hT 7 ?_;refine hT 9 ?_;refine hT 10 ?_;refine hT 11 ?_;refine hT 12 ?_;refine hT 13 ?_;refine hT 14 ?_;refine wpAnyH_ready (rs:=[1,8]) (by kernel_rfl) (by simp) ?_;refine AllReadyH.cons rfl (fun K hK=>?_) ?_
       ·have cc:=zab (za HC) 2 _ rfl;go_simp
        clear cc;refine hK.out _ _ ?_ (fun hHeld=>?_)
        ·try dsimp only
         exact za SS5 _ (za F)
        clear hK K;refine hP ?_;refine wpAnyH_ready (rs:=[8]) (by kernel_rfl) (by simp) ?_;refine AllReadyH.cons rfl (fun K hK=>?_) ?_
        ·refine zef rfl rfl ?_;intro E5 U5 hE hEn hb;have LE5:=zaa (show wr.heap.size≤E5 by rw[← hE];exact(za G).size);have HE5:=zaa hEn;have HC:=zaa (zac hb (za HC));have F:=zaa (zag (za F) (hb.mono (za F).size));have G:=zaa ((za G).trans (hb.mono (za G).size));clear hE hEn hb;refine hK.out _ _ ?_ (fun hHeld=>?_)
         ·try dsimp only
          exact za SS5 _ (za F)
         clear hK K;refine hP ?_;refine wpAnyH_ready (rs:=[15]) (by kernel_rfl) (by simp) ?_;refine AllReadyH.cons rfl (fun K hK=>?_) ?_
         ·refine zbc rfl (.tmp 27) (.tmp 33) 31 70 rfl i1 _ 2 24 Tryz.underlying31 (za J0) (za J1) (za J2) (za J3) rfl (by omega) E5 rfl (za HE5) ta tl tc rfl (za TN) (zcr ts) (za TL) ((za TT).later (za FB _ (za F))).news (zbl ts) (by omega) (by omega) ?_;intro g5 c5 U5 ho hg hw5;have HC:=zaa ((hg.block C (Array.getElem?_eq_some_iff.1 (za HC)).1 (fun e=>by have:=Option.some.inj e;have:=za LE5;have:=za VW;have:=za CV;omega)).trans (za HC));have G5:=zaa (show wr.heap.size≤g5 by have:=za LE5;have:=(za G).size;omega)
          have OT:=zaa (show zbq V.heap.size U5 (some ⟨g5,0,none⟩) c5 ts by
           have:=za HT;subst this
           exact zbq.low ho (Nat.le_trans (za VW) (za LE5)))
          have NE5:=zaa (show sp.map (·.block)≠some g5 from fun e=>by have:=(za OW).blk_lt _ e;have:=za G5;omega);have F:=zaa (show V.grownBy U5 (some C) from⟨hg.os.trans (za F).os,hg.tape.trans (za F).tape,hg.output.trans (za F).output,Nat.le_trans (za F).size hg.size,fun k hk hne=>(hg.block k (Nat.lt_of_lt_of_le hk (za F).size) (fun e=>by have:=Option.some.inj e;have:=za LE5;have:=za VW;omega)).trans ((za F).block k hk hne)⟩);have G:=zaa ((za G).grown hg (za G).size (fun g e=>by have:=Option.some.inj e;have:=za LE5;omega));clear ho hg hw5;refine hK.out _ _ ?_ (fun hHeld=>?_)
          ·try dsimp only
           exact za SS5 _ (za F)
          clear hK K;refine hP ?_;refine hT 16 ?_;refine wpAnyH_ready (rs:=[17]) (by kernel_rfl) (by simp) ?_;refine AllReadyH.cons rfl (fun K hK=>?_) ?_
          ·refine za6 rfl 35 rfl nm (some ⟨g5,0,none⟩) tl c5 rfl ?_;intro B5 U5 hE hEn hb;have HB5:=zaa hEn;have HC:=zaa (zac hb (za HC));have F:=zaa (zag (za F) (hb.mono (za F).size));have OT:=zaa ((za OT).below hb);have G:=zaa ((za G).trans (hb.mono (za G).size));clear hE hEn hb;refine hK.out _ _ ?_ (fun hHeld=>?_)
           ·try dsimp only
            exact za SS5 _ (za F)
           clear hK K;refine hP ?_;refine wpAnyH_ready (rs:=[18]) (by kernel_rfl) (by simp) ?_;refine AllReadyH.cons rfl (fun K hK=>?_) ?_
           ·refine za5 rfl (.tmp 20) (.tmp 36) rfl V.heap.size sp j c l rfl (za LJ) ((za OW).same (fun g _ h2=>(za G).block g h2)) B5 ⟨⟨nm,ts⟩,g5,c5⟩ rfl (by have:=za HT;subst this;exact za HB5) (za OT) (za NE5) (by omega) (za F).size ?_;intro sp6 c6 U5 ho hb;have O6:=zaa ho;have HC:=zaa ((hb.block C (za CV)).trans (za HC));have F:=zaa (zag (za F) hb);clear ho hb;refine hK.out _ _ ?_ (fun hHeld=>?_)
            ·try dsimp only
             exact za SS5 _ (za F)
            clear hK K;refine hP ?_;refine hT 19 ?_;refine wpAnyH_ready (rs:=[20]) (by kernel_rfl) (by simp) ?_;refine AllReadyH.cons rfl (fun K hK=>?_) ?_
            ·have cc:=zab (za HC) 2 _ rfl;have cf:U5.frozen? ⟨C,2,none⟩=false:=by simp[World.frozen?,za HC]
             have a1:=heap_setCell_same U5 C 2 _ 45 (.slice sp6 (j+1) c6) (za HC);have a2:=zb U5 C 2 (.slice sp6 (j+1) c6);have O6:=zaa ((za O6).same (w':=U5.setCell ⟨C,2,none⟩ (.slice sp6 (j+1) c6)) (fun g h1 h2=>a2.block g h2 (fun e=>by have:=Option.some.inj e;have:=za CV;omega)));have F:=zaa (zaq (za F) a2);have HC:=zaa (show(U5.setCell ⟨C,2,none⟩ (.slice sp6 (j+1) c6)).heap[C]? = some (.cells #[.int .i64 ver,.slice (some ⟨g3,0,none⟩) n c3,.slice sp6 (j+1) c6] 45 (0,0)) from a1);clear a1 a2;go_simp
             clear cc cf;refine hK.out _ _ ?_ (fun hHeld=>?_)
             ·try dsimp only
              exact za SS5 _ (za F)
             clear hK K;refine hP ?_;refine wpAnyH_done (by kernel_rfl) ?_ _;have IV:=zaa (show CpI ver C g3 n c3 ps V (j+1) (U5.setCell ⟨C,2,none⟩ (.slice sp6 (j+1) c6)) from⟨sp6,c6,_,by rw[List.map_append,za LP,za TK];rfl,by rw[List.length_append,za LJ];rfl,za O6,za HC,za F⟩);generalize U5.setCell ⟨C,2,none⟩ (.slice sp6 (j+1) c6)=U6 at *;clear F G HC O6 OT hHeld
             go_wp2
             exact⟨⟨j+1,by omega,by go_num,IV⟩,by simp[intOf];omega⟩
            exact AllReadyH.nil
           exact AllReadyH.nil
          exact AllReadyH.nil
         exact AllReadyH.nil
        exact AllReadyH.nil
       refine AllReadyH.cons rfl (fun K hK=>?_) ?_
       ·refine zef rfl rfl ?_;intro E5 U5 hE hEn hb;have LE5:=zaa (show wr.heap.size≤E5 by rw[← hE];exact(za G).size);have HE5:=zaa hEn;have HC:=zaa (zac hb (za HC));have F:=zaa (zag (za F) (hb.mono (za F).size));have G:=zaa ((za G).trans (hb.mono (za G).size));clear hE hEn hb;refine hK.out _ _ ?_ (fun hHeld=>?_)
        ·try dsimp only
         exact za SS5 _ (za F)
        clear hK K;refine hP ?_;refine wpAnyH_ready (rs:=[1,15]) (by kernel_rfl) (by simp) ?_;refine AllReadyH.cons rfl (fun K hK=>?_) ?_
        ·have cc:=zab (za HC) 2 _ rfl;go_simp
         clear cc;refine hK.out _ _ ?_ (fun hHeld=>?_)
         ·try dsimp only
          exact za SS5 _ (za F)
         clear hK K;refine hP ?_;refine wpAnyH_ready (rs:=[15]) (by kernel_rfl) (by simp) ?_;refine AllReadyH.cons rfl (fun K hK=>?_) ?_
         ·refine zbc rfl (.tmp 27) (.tmp 33) 31 70 rfl i1 _ 2 24 Tryz.underlying31 (za J0) (za J1) (za J2) (za J3) rfl (by omega) E5 rfl (za HE5) ta tl tc rfl (za TN) (zcr ts) (za TL) ((za TT).later (za FB _ (za F))).news (zbl ts) (by omega) (by omega) ?_;intro g5 c5 U5 ho hg hw5;have HC:=zaa ((hg.block C (Array.getElem?_eq_some_iff.1 (za HC)).1 (fun e=>by have:=Option.some.inj e;have:=za LE5;have:=za VW;have:=za CV;omega)).trans (za HC));have G5:=zaa (show wr.heap.size≤g5 by have:=za LE5;have:=(za G).size;omega)
          have OT:=zaa (show zbq V.heap.size U5 (some ⟨g5,0,none⟩) c5 ts by
           have:=za HT;subst this
           exact zbq.low ho (Nat.le_trans (za VW) (za LE5)))
          have NE5:=zaa (show sp.map (·.block)≠some g5 from fun e=>by have:=(za OW).blk_lt _ e;have:=za G5;omega);have F:=zaa (show V.grownBy U5 (some C) from⟨hg.os.trans (za F).os,hg.tape.trans (za F).tape,hg.output.trans (za F).output,Nat.le_trans (za F).size hg.size,fun k hk hne=>(hg.block k (Nat.lt_of_lt_of_le hk (za F).size) (fun e=>by have:=Option.some.inj e;have:=za LE5;have:=za VW;omega)).trans ((za F).block k hk hne)⟩);have G:=zaa ((za G).grown hg (za G).size (fun g e=>by have:=Option.some.inj e;have:=za LE5;omega));clear ho hg hw5;refine hK.out _ _ ?_ (fun hHeld=>?_)
          ·try dsimp only
           exact za SS5 _ (za F)
          clear hK K;refine hP ?_;refine hT 16 ?_;refine wpAnyH_ready (rs:=[17]) (by kernel_rfl) (by simp) ?_;refine AllReadyH.cons rfl (fun K hK=>?_) ?_
          ·refine za6 rfl 35 rfl nm (some ⟨g5,0,none⟩) tl c5 rfl ?_;intro B5 U5 hE hEn hb;have HB5:=zaa hEn;have HC:=zaa (zac hb (za HC));have F:=zaa (zag (za F) (hb.mono (za F).size));have OT:=zaa ((za OT).below hb);have G:=zaa ((za G).trans (hb.mono (za G).size));clear hE hEn hb;refine hK.out _ _ ?_ (fun hHeld=>?_)
           ·try dsimp only
            exact za SS5 _ (za F)
           clear hK K;refine hP ?_;refine wpAnyH_ready (rs:=[18]) (by kernel_rfl) (by simp) ?_;refine AllReadyH.cons rfl (fun K hK=>?_) ?_
           ·refine za5 rfl (.tmp 20) (.tmp 36) rfl V.heap.size sp j c l rfl (za LJ) ((za OW).same (fun g _ h2=>(za G).block g h2)) B5 ⟨⟨nm,ts⟩,g5,c5⟩ rfl (by have:=za HT;subst this;exact za HB5) (za OT) (za NE5) (by omega) (za F).size ?_;intro sp6 c6 U5 ho hb;have O6:=zaa ho;have HC:=zaa ((hb.block C (za CV)).trans (za HC));have F:=zaa (zag (za F) hb);clear ho hb;refine hK.out _ _ ?_ (fun hHeld=>?_)
            ·try dsimp only
             exact za SS5 _ (za F)
            clear hK K;refine hP ?_;refine hT 19 ?_;refine wpAnyH_ready (rs:=[20]) (by kernel_rfl) (by simp) ?_;refine AllReadyH.cons rfl (fun K hK=>?_) ?_
            ·have cc:=zab (za HC) 2 _ rfl;have cf:U5.frozen? ⟨C,2,none⟩=false:=by simp[World.frozen?,za HC]
             have a1:=heap_setCell_same U5 C 2 _ 45 (.slice sp6 (j+1) c6) (za HC);have a2:=zb U5 C 2 (.slice sp6 (j+1) c6);have O6:=zaa ((za O6).same (w':=U5.setCell ⟨C,2,none⟩ (.slice sp6 (j+1) c6)) (fun g h1 h2=>a2.block g h2 (fun e=>by have:=Option.some.inj e;have:=za CV;omega)));have F:=zaa (zaq (za F) a2);have HC:=zaa (show(U5.setCell ⟨C,2,none⟩ (.slice sp6 (j+1) c6)).heap[C]? = some (.cells #[.int .i64 ver,.slice (some ⟨g3,0,none⟩) n c3,.slice sp6 (j+1) c6] 45 (0,0)) from a1);clear a1 a2;go_simp
             clear cc cf;refine hK.out _ _ ?_ (fun hHeld=>?_)
             ·try dsimp only
              exact za SS5 _ (za F)
             clear hK K;refine hP ?_;refine wpAnyH_done (by kernel_rfl) ?_ _;have IV:=zaa (show CpI ver C g3 n c3 ps V (j+1) (U5.setCell ⟨C,2,none⟩ (.slice sp6 (j+1) c6)) from⟨sp6,c6,_,by rw[List.map_append,za LP,za TK];rfl,by rw[List.length_append,za LJ];rfl,za O6,za HC,za F⟩);generalize U5.setCell ⟨C,2,none⟩ (.slice sp6 (j+1) c6)=U6 at *;clear F G HC O6 OT hHeld
             go_wp2
             exact⟨⟨j+1,by omega,by go_num,IV⟩,by simp[intOf];omega⟩
            exact AllReadyH.nil
           exact AllReadyH.nil
          exact AllReadyH.nil
         exact AllReadyH.nil
        refine AllReadyH.cons rfl (fun K hK=>?_) ?_
        ·refine zbc rfl (.tmp 27) (.tmp 33) 31 70 rfl i1 _ 2 24 Tryz.underlying31 (za J0) (za J1) (za J2) (za J3) rfl (by omega) E5 rfl (za HE5) ta tl tc rfl (za TN) (zcr ts) (za TL) ((za TT).later (za FB _ (za F))).news (zbl ts) (by omega) (by omega) ?_;intro g5 c5 U5 ho hg hw5;have HC:=zaa ((hg.block C (Array.getElem?_eq_some_iff.1 (za HC)).1 (fun e=>by have:=Option.some.inj e;have:=za LE5;have:=za VW;have:=za CV;omega)).trans (za HC));have G5:=zaa (show wr.heap.size≤g5 by have:=za LE5;have:=(za G).size;omega)
         have OT:=zaa (show zbq V.heap.size U5 (some ⟨g5,0,none⟩) c5 ts by
          have:=za HT;subst this
          exact zbq.low ho (Nat.le_trans (za VW) (za LE5)))
         have NE5:=zaa (show sp.map (·.block)≠some g5 from fun e=>by have:=(za OW).blk_lt _ e;have:=za G5;omega);have F:=zaa (show V.grownBy U5 (some C) from⟨hg.os.trans (za F).os,hg.tape.trans (za F).tape,hg.output.trans (za F).output,Nat.le_trans (za F).size hg.size,fun k hk hne=>(hg.block k (Nat.lt_of_lt_of_le hk (za F).size) (fun e=>by have:=Option.some.inj e;have:=za LE5;have:=za VW;omega)).trans ((za F).block k hk hne)⟩);have G:=zaa ((za G).grown hg (za G).size (fun g e=>by have:=Option.some.inj e;have:=za LE5;omega));clear ho hg hw5;refine hK.out _ _ ?_ (fun hHeld=>?_)
         ·try dsimp only
          exact za SS5 _ (za F)
         clear hK K;refine hP ?_;refine hT 16 ?_;refine wpAnyH_ready (rs:=[1,17]) (by kernel_rfl) (by simp) ?_;refine AllReadyH.cons rfl (fun K hK=>?_) ?_
         ·have cc:=zab (za HC) 2 _ rfl;go_simp
          clear cc;refine hK.out _ _ ?_ (fun hHeld=>?_)
          ·try dsimp only
           exact za SS5 _ (za F)
          clear hK K;refine hP ?_;refine wpAnyH_ready (rs:=[17]) (by kernel_rfl) (by simp) ?_;refine AllReadyH.cons rfl (fun K hK=>?_) ?_
          ·refine za6 rfl 35 rfl nm (some ⟨g5,0,none⟩) tl c5 rfl ?_;intro B5 U5 hE hEn hb;have HB5:=zaa hEn;have HC:=zaa (zac hb (za HC));have F:=zaa (zag (za F) (hb.mono (za F).size));have OT:=zaa ((za OT).below hb);have G:=zaa ((za G).trans (hb.mono (za G).size));clear hE hEn hb;refine hK.out _ _ ?_ (fun hHeld=>?_)
           ·try dsimp only
            exact za SS5 _ (za F)
           clear hK K;refine hP ?_;refine wpAnyH_ready (rs:=[18]) (by kernel_rfl) (by simp) ?_;refine AllReadyH.cons rfl (fun K hK=>?_) ?_
           ·refine za5 rfl (.tmp 20) (.tmp 36) rfl V.heap.size sp j c l rfl (za LJ) ((za OW).same (fun g _ h2=>(za G).block g h2)) B5 ⟨⟨nm,ts⟩,g5,c5⟩ rfl (by have:=za HT;subst this;exact za HB5) (za OT) (za NE5) (by omega) (za F).size ?_;intro sp6 c6 U5 ho hb;have O6:=zaa ho;have HC:=zaa ((hb.block C (za CV)).trans (za HC));have F:=zaa (zag (za F) hb);clear ho hb;refine hK.out _ _ ?_ (fun hHeld=>?_)
            ·try dsimp only
             exact za SS5 _ (za F)
            clear hK K;refine hP ?_;refine hT 19 ?_;refine wpAnyH_ready (rs:=[20]) (by kernel_rfl) (by simp) ?_;refine AllReadyH.cons rfl (fun K hK=>?_) ?_
            ·have cc:=zab (za HC) 2 _ rfl;have cf:U5.frozen? ⟨C,2,none⟩=false:=by simp[World.frozen?,za HC]
             have a1:=heap_setCell_same U5 C 2 _ 45 (.slice sp6 (j+1) c6) (za HC);have a2:=zb U5 C 2 (.slice sp6 (j+1) c6);have O6:=zaa ((za O6).same (w':=U5.setCell ⟨C,2,none⟩ (.slice sp6 (j+1) c6)) (fun g h1 h2=>a2.block g h2 (fun e=>by have:=Option.some.inj e;have:=za CV;omega)));have F:=zaa (zaq (za F) a2);have HC:=zaa (show(U5.setCell ⟨C,2,none⟩ (.slice sp6 (j+1) c6)).heap[C]? = some (.cells #[.int .i64 ver,.slice (some ⟨g3,0,none⟩) n c3,.slice sp6 (j+1) c6] 45 (0,0)) from a1);clear a1 a2;go_simp
             clear cc cf;refine hK.out _ _ ?_ (fun hHeld=>?_)
             ·try dsimp only
              exact za SS5 _ (za F)
             clear hK K;refine hP ?_;refine wpAnyH_done (by kernel_rfl) ?_ _;have IV:=zaa (show CpI ver C g3 n c3 ps V (j+1) (U5.setCell ⟨C,2,none⟩ (.slice sp6 (j+1) c6)) from⟨sp6,c6,_,by rw[List.map_append,za LP,za TK];rfl,by rw[List.length_append,za LJ];rfl,za O6,za HC,za F⟩);generalize U5.setCell ⟨C,2,none⟩ (.slice sp6 (j+1) c6)=U6 at *;clear F G HC O6 OT hHeld
             go_wp2
             exact⟨⟨j+1,by omega,by go_num,IV⟩,by simp[intOf];omega⟩
            exact AllReadyH.nil
           exact AllReadyH.nil
          exact AllReadyH.nil
         refine AllReadyH.cons rfl (fun K hK=>?_) ?_
         ·refine za6 rfl 35 rfl nm (some ⟨g5,0,none⟩) tl c5 rfl ?_;intro B5 U5 hE hEn hb;have HB5:=zaa hEn;have HC:=zaa (zac hb (za HC));have F:=zaa (zag (za F) (hb.mono (za F).size));have OT:=zaa ((za OT).below hb);have G:=zaa ((za G).trans (hb.mono (za G).size));clear hE hEn hb;refine hK.out _ _ ?_ (fun hHeld=>?_)
          ·try dsimp only
           exact za SS5 _ (za F)
          clear hK K;refine hP ?_;refine wpAnyH_ready (rs:=[1]) (by kernel_rfl) (by simp) ?_;refine AllReadyH.cons rfl (fun K hK=>?_) ?_
          ·have cc:=zab (za HC) 2 _ rfl;go_simp
           clear cc;refine hK.out _ _ ?_ (fun hHeld=>?_)
           ·try dsimp only
            exact za SS5 _ (za F)
           clear hK K;refine hP ?_;refine wpAnyH_ready (rs:=[18]) (by kernel_rfl) (by simp) ?_;refine AllReadyH.cons rfl (fun K hK=>?_) ?_
           ·refine za5 rfl (.tmp 20) (.tmp 36) rfl V.heap.size sp j c l rfl (za LJ) ((za OW).same (fun g _ h2=>(za G).block g h2)) B5 ⟨⟨nm,ts⟩,g5,c5⟩ rfl (by have:=za HT;subst this;exact za HB5) (za OT) (za NE5) (by omega) (za F).size ?_;intro sp6 c6 U5 ho hb;have O6:=zaa ho;have HC:=zaa ((hb.block C (za CV)).trans (za HC));have F:=zaa (zag (za F) hb);clear ho hb;refine hK.out _ _ ?_ (fun hHeld=>?_)
            ·try dsimp only
             exact za SS5 _ (za F)
            clear hK K;refine hP ?_;refine hT 19 ?_;refine wpAnyH_ready (rs:=[20]) (by kernel_rfl) (by simp) ?_;refine AllReadyH.cons rfl (fun K hK=>?_) ?_
            ·have cc:=zab (za HC) 2 _ rfl;have cf:U5.frozen? ⟨C,2,none⟩=false:=by simp[World.frozen?,za HC]
             have a1:=heap_setCell_same U5 C 2 _ 45 (.slice sp6 (j+1) c6) (za HC);have a2:=zb U5 C 2 (.slice sp6 (j+1) c6);have O6:=zaa ((za O6).same (w':=U5.setCell ⟨C,2,none⟩ (.slice sp6 (j+1) c6)) (fun g h1 h2=>a2.block g h2 (fun e=>by have:=Option.some.inj e;have:=za CV;omega)));have F:=zaa (zaq (za F) a2);have HC:=zaa (show(U5.setCell ⟨C,2,none⟩ (.slice sp6 (j+1) c6)).heap[C]? = some (.cells #[.int .i64 ver,.slice (some ⟨g3,0,none⟩) n c3,.slice sp6 (j+1) c6] 45 (0,0)) from a1);clear a1 a2;go_simp
             clear cc cf;refine hK.out _ _ ?_ (fun hHeld=>?_)
             ·try dsimp only
              exact za SS5 _ (za F)
             clear hK K;refine hP ?_;refine wpAnyH_done (by kernel_rfl) ?_ _;have IV:=zaa (show CpI ver C g3 n c3 ps V (j+1) (U5.setCell ⟨C,2,none⟩ (.slice sp6 (j+1) c6)) from⟨sp6,c6,_,by rw[List.map_append,za LP,za TK];rfl,by rw[List.length_append,za LJ];rfl,za O6,za HC,za F⟩);generalize U5.setCell ⟨C,2,none⟩ (.slice sp6 (j+1) c6)=U6 at *;clear F G HC O6 OT hHeld
             go_wp2
             exact⟨⟨j+1,by omega,by go_num,IV⟩,by simp[intOf];omega⟩
            exact AllReadyH.nil
           exact AllReadyH.nil
          exact AllReadyH.nil
         exact AllReadyH.nil
        exact AllReadyH.nil
       exact AllReadyH.nil
      ·have hjj:¬ (j:Int)<(m:Int):=by omega
       obtain rfl:j=m:=by omega
       have e0:=zab (za HC) 0 _ rfl;have e1:=zab (za HC) 1 _ rfl;have e2:=zab (za HC) 2 _ rfl;have XD:=zaa (zac (za FB _ (za FW)) (za X2));have z0:=zab (za XD) 0 _ rfl;have z1:=zab (za XD) 1 _ rfl;have z2:=zab (za XD) 2 _ rfl;have f0:wr.frozen? ⟨w.heap.size+1,0,none⟩=false:=by simp[World.frozen?,za XD]
       have f1:wr.frozen? ⟨w.heap.size+1,1,none⟩=false:=by simp[World.frozen?,za XD]
       have f2:wr.frozen? ⟨w.heap.size+1,2,none⟩=false:=by simp[World.frozen?,za XD]
       obtain⟨a1,a2⟩:=zps (x:=.int .i64 ver) (y:=.slice (some ⟨g3,0,none⟩) n c3) (z:=.slice sp j c) (za XD);have A1:=zaa a1;have A2:=zaa a2;clear a1 a2
       go_wp2
       generalize (((wr.setCell ⟨w.heap.size+1,0,none⟩ (.int .i64 ver)).setCell ⟨w.heap.size+1,1,none⟩ (.slice (some ⟨g3,0,none⟩) n c3)).setCell ⟨w.heap.size+1,2,none⟩ (.slice sp j c))=W9 at *;clear z0 z1 z2 f0 f1 f2 e0 e1 e2;have g0:=zab (za A1) 0 _ rfl;have g1:=zab (za A1) 1 _ rfl;have g2:=zab (za A1) 2 _ rfl
       have CF:=zaa (show CfAt W9 ⟨ver,rs,ps⟩ ⟨some ⟨g3,0,none⟩,c3,sp,c⟩∧Below w.heap.size w W9∧OwnW w.heap.size W9 sp c l∧l.map Pw.po=ps∧W9.ownsRow 0 56 3 (.slice (some ⟨g3,0,none⟩) n c3) n (zch rs) by
        have hpo:List.map Pw.po l=ps:=by rw[za LP,← za HM,List.take_length]
        have hlow:V.heap.size≤wr.heap.size:=(za FW).size;have hZ:=za Z2;have hF2:=(za FB _ (za FW)).size;have hO:=(za OW).same (w':=W9) (fun g h1 h2=>(za A2).block g h2 (fun e=>by have:=Option.some.inj e;have:=za LC;have:=za CV;omega))
        obtain⟨hpos,hpc⟩:=hO.at_ (fun x hx=>by
         have hx2:x.po∈ps:=by rw[← hpo];exact List.mem_map_of_mem hx
         obtain⟨i,hi,e⟩:=List.getElem_of_mem hx2;obtain⟨_,_,ta,tc,_,_,_,hT,hl,_⟩:=(za P1).cell i hi;rw[e] at hT hl
         exact⟨hT.lt,hl.1⟩)
        rw[hpo] at hpos;obtain⟨⟨hrt,hrc⟩,hro⟩:=za RT wr (za FW)
        have hrt9:RtsAt W9 (some ⟨g3,0,none⟩) rs:=⟨hrt.sz,fun i hi=>by
         obtain⟨b,off,e,r0,r1,r2⟩:=hrt.cell i hi;have hb:b=g3:=by cases e;rfl
         have hlt:g3<wr.heap.size:=by have:=za G3;omega
         have hk:W9.heap[g3]? = wr.heap[g3]?:=(za A2).block _ hlt (fun e=>by have:=Option.some.inj e;have:=za GL;omega);subst hb
         exact⟨b,off,e,(World.cell?_of_block hk).trans r0,(World.cell?_of_block hk).trans r1,(World.cell?_of_block hk).trans r2⟩⟩
        have hro9:=zbs (w':=W9) hro (fun _ hl=>(za A2).block _ hl (fun e=>by have:=Option.some.inj e;have:=za GL;omega));have hlm:=za LJ;refine⟨⟨za WV,hrt9,hpos,⟨by have:=za HN;simp only[maxLen];omega,by have:=za HN;simp only;omega⟩,⟨by have:=za HM;simp only[maxLen];omega,by have:=za HM;simp only;omega⟩,fun h=>by cases h⟩,?_,hO.low (by have:=(za B2).size;have:=(za FB _ (zbk V _)).size;omega),hpo,hro9⟩
        exact((za B2).trans ((za FB _ (za FW)).mono (za B2).size)).grown (za A2) (by have:=(za B2).size;omega) (fun g e=>by have:=Option.some.inj e;omega))
       refine bodyPost_ret (v:=.agg #[.int .i64 ver,.slice (some ⟨g3,0,none⟩) n c3,.slice sp j c]) (by simp[results,Tryz.results68,go_sem,g0,g1,g2]) rfl ⟨⟨some ⟨g3,0,none⟩,c3,sp,c⟩,rfl,(za CF).1,(za CF).2.1,l,(za CF).2.2.1,(za CF).2.2.2.1,by have h9:=(za CF).2.2.2.2;have hn:=za HN;subst hn;exact h9⟩
    exact AllReadyH.nil
   exact AllReadyH.nil
  exact AllReadyH.nil
 refine AllReadyH.cons rfl (fun K hK=>?_) ?_
 ·refine zi5 rfl rfl ?_;intro C U hC hCn hb;have LC:=zaa (show W2.heap.size≤C by rw[← hC];exact(za F).size);have HC:=zaa hCn;first
   |(have hV:O3=O3:=rfl
     clear hV;have NC:=zaa (show g3≠C by have:=za G3;omega);have O3:=zaa (zbs (za O3) (fun _ hg=>hb.block _ hg))
     have G3:=zaa (Nat.lt_of_lt_of_le (za G3) hb.size))
   |(have hV:HE=HE:=rfl
     clear hV;have NE:=zaa (show C≠E by have:=(Array.getElem?_eq_some_iff.1 (za HE)).1;omega)
     have HE:=zaa (zac hb (za HE)))
   |skip
  have F:=zaa ((za F).trans (hb.mono (za F).size));clear hC hCn hb;refine hK.out _ _ ?_ (fun hHeld=>?_)
  ·try dsimp only
   exact za SS _ (za F)
  clear hK K;refine hP ?_;refine wpAnyH_ready (rs:=[2]) (by kernel_rfl) (by simp) ?_;refine AllReadyH.cons rfl (fun K hK=>?_) ?_
  ·refine zl7 rfl rfl ?_;intro E U hE hEn hb;have LE:=zaa (show W2.heap.size≤E by rw[← hE];exact(za F).size);have HE:=zaa hEn;first
    |(have hV:HC=HC:=rfl
      clear hV;have NE:=zaa (show C≠E by have:=(Array.getElem?_eq_some_iff.1 (za HC)).1;omega)
      have HC:=zaa (zac hb (za HC)))
    |skip
   have F:=zaa ((za F).trans (hb.mono (za F).size));clear hE hEn hb;refine hK.out _ _ ?_ (fun hHeld=>?_)
   ·try dsimp only
    exact za SS _ (za F)
   clear hK K;refine hP ?_;refine wpAnyH_ready (rs:=[5]) (by kernel_rfl) (by simp) ?_;refine AllReadyH.cons rfl (fun K hK=>?_) ?_
   ·refine zbc rfl (.tmp 7) (.tmp 9) 42 56 rfl i0 _ 3 48 Tryz.underlying42 (za I0) (za I1) (za I2) (za I3) rfl (by omega) E rfl (za HE) ra n rc rfl (za RN) (zch rs) (za RL) ((za R2).later (za F)).news (zec rs) (by omega) (by omega) ?_;intro g3 c3 U ho3 hg3 hw3;have hEl:=(Array.getElem?_eq_some_iff.1 (za HE)).1;have O3:=zaa ho3;first
     |(have hV:HC=HC:=rfl
       clear hV;have NC:=zaa (show g3≠C by have:=(Array.getElem?_eq_some_iff.1 (za HC)).1;have:=za NE;omega)
       have HC:=zaa ((hg3.block C (Array.getElem?_eq_some_iff.1 (za HC)).1 (fun e=>za NE (Option.some.inj e))).trans (za HC)))
     |skip
    have GL:=zaa (show W2.heap.size≤g3 by have:=za LE;have:=(za F).size;omega)
    have G3:=zaa (show g3<U.heap.size by
     rcases ho3.2 with⟨hv,_⟩|⟨g',cap,cur,hv,_,hg,_⟩
     ·cases hv
     ·simp only[Value.slice.injEq,Option.some.injEq,Addr.mk.injEq,and_true,true_and] at hv;rw[hv.1]
      exact(Array.getElem?_eq_some_iff.1 hg).1)
    have F:=zaa ((za F).grown hg3 (za F).size (fun g hg=>by have:=Option.some.inj hg;have:=za LE;omega));clear ho3 hg3 hw3 hEl;refine hK.out _ _ ?_ (fun hHeld=>?_)
    ·try dsimp only
     exact za SS _ (za F)
    clear hK K;refine hP ?_;refine hT 6 ?_;refine wpAnyH_ready (rs:=[8]) (by kernel_rfl) (by simp) ?_;refine AllReadyH.cons rfl (fun K hK=>?_) ?_
    ·obtain⟨a1,a2⟩:=zps (x:=.int .i64 ver) (y:=.slice (some ⟨g3,0,none⟩) n c3) (z:=.slice none 0 0) (za HC);have F:=zaa ((za F).grown a2 (za F).size (fun g hg=>by have:=Option.some.inj hg;have:=za LC;omega));have O3:=zaa (zbs (za O3) (fun _ hg=>a2.block _ hg (fun e=>za NC (Option.some.inj e))));have G3:=zaa (Nat.lt_of_lt_of_le (za G3) a2.size);have u0:=zab (za HC) 0 _ rfl;have u1:=zab (za HC) 1 _ rfl;have u2:=zab (za HC) 2 _ rfl;have f0:U.frozen? ⟨C,0,none⟩=false:=by simp[World.frozen?,za HC]
     have f1:U.frozen? ⟨C,1,none⟩=false:=by simp[World.frozen?,za HC]
     have f2:U.frozen? ⟨C,2,none⟩=false:=by simp[World.frozen?,za HC]
     have HC:=zaa a1;clear a1 a2;go_simp
     clear u0 u1 u2 f0 f1 f2;refine hK.out _ _ ?_ (fun hHeld=>?_)
     ·try dsimp only
      exact za SS _ (za F)
     clear hK K;refine hP ?_;refine wpAnyH_done (by kernel_rfl) ?_ _;generalize (((U.setCell ⟨C,0,none⟩ (.int .i64 ver)).setCell ⟨C,1,none⟩ (.slice (some ⟨g3,0,none⟩) n c3)).setCell ⟨C,2,none⟩ (.slice none 0 0))=V at *;have CV:=zaa (Array.getElem?_eq_some_iff.1 (za HC)).1
     have RT:=zaa (show ∀ W:World,V.grownBy W (some C)→(RtsAt W (some ⟨g3,0,none⟩) rs∧n≤c3)∧W.ownsRow 0 56 3 (.slice (some ⟨g3,0,none⟩) n c3) n (zch rs) from fun W hg=>by
      have h3:=zbs (w':=W) (za O3) (fun _ hl=>hg.block _ hl (fun e=>za NC (Option.some.inj e)));have hn:=za HN;subst hn
      exact⟨ze h3 (za R1).sz,h3.1,h3.2.imp id (fun ⟨g,cap,cur,q1,_,q3⟩=>⟨g,cap,cur,q1,Nat.zero_le _,q3⟩)⟩)
     have FB:=zaa (show ∀ W:World,V.grownBy W (some C)→Below W2.heap.size W2 W from fun W hg=>(za F).grown hg (za F).size (fun g e=>by have:=Option.some.inj e;have:=za LC;omega));have Z0:=zaa (show CpI ver C g3 n c3 ps V 0 V from⟨none,0,[],rfl,rfl,OwnW.ofNil _ _,za HC,zbk _ _⟩);clear hHeld F HC O3
     go_wp2_with fail
     go_loopw [4] (fun i wr=>∃ j:Nat,j≤m∧i=.int .i64 (j:Int)∧Hid (CpI ver C g3 n c3 ps V j wr)) (fun i _=>m - (intOf i).toNat)
     case atStart=>exact⟨0,by omega,rfl,Z0⟩
     case round =>
      obtain⟨j,hj,rfl,IV⟩:=hrel;obtain⟨sp,c,l,hlp,hlj,hOW,hHC,hF⟩:=za IV;have LP:=zaa hlp;have LJ:=zaa hlj;have OW:=zaa hOW;have HC:=zaa hHC;have FW:=zaa hF;have k2:=cell_later (za FB _ hF) (za D2);clear hlp hlj hOW hHC hF IV;by_cases hjn:j<m
      ·have y0:(0:Int)≤(j:Int):=by omega
       have y1:(j:Int)<(m:Int):=by omega
       have hjl:j<ps.length:=by rw[za HM];exact hjn
       obtain⟨b,off,ta,tc,rfl,q0,q1,hT,hl,hz⟩:=(za P2).cell j hjl;have LT:=zaa ((za TS) _ (List.getElem_mem hjl));have TK:=zaa (show ps.take (j+1)=ps.take j++[ps[j]] from by rw[List.take_succ_eq_append_getElem hjl]);generalize ps[j]=po at *;obtain⟨nm,ts⟩:=po;simp only at q0 q1 hT hl LT;have TT:=zaa hT;have TN:=zaa (show ta=none→ts.length=0∧tc=0 from fun e=>by subst e;exact⟨hT.nil,hz rfl⟩);have TL:=zaa (zce ts);have SS5:=zaa (show ∀ W:World,V.grownBy W (some C)→W.cell? ⟨w.heap.size,2,none⟩=some (.slice (some ⟨b,off,none⟩) m pc)∧W.cell? ⟨b,off+j*2,none⟩=some (.string nm)∧W.cell? ⟨b,off+j*2+1,none⟩=some (.slice ta ts.length tc) from fun W hg=>⟨cell_later (za FB _ hg) (za D2),cell_later (za FB _ hg) q0,cell_later (za FB _ hg) q1⟩);have htl:=za LT;clear q0 q1 hT hl hz;generalize htn:ts.length=tl at *;have HT:=zaa htn;clear htn;have F:=zaa (show V.grownBy wr.drew (some C) from zag (za FW) (Below.refl _ _).drew);have G:=zaa (show Below wr.heap.size wr wr.drew from(Below.refl _ _).drew);have HC:=zaa (show wr.drew.heap[C]? = some (.cells #[.int .i64 ver,.slice (some ⟨g3,0,none⟩) n c3,.slice sp j c] 45 (0,0)) from za HC);have VW:=zaa (za FW).size
       go_wp2_with fail
       refine wp_region_held_drew (S:=fun w'=>w'.cell? ⟨w.heap.size,2,none⟩=some (.slice (some ⟨b,off,none⟩) m pc)∧w'.cell? ⟨b,off+j*2,none⟩=some (.string nm)∧w'.cell? ⟨b,off+j*2+1,none⟩=some (.slice ta tl tc)) (by kernel_rfl) ?_ (fun hHeld=>?_)
       ·try dsimp only
        exact za SS5 _ (za F)
       refine hT 0 ?_;refine hT 2 ?_;refine hT 3 ?_;refine hT 4 ?_;refine hT 5 ?_;refine hT 6 ?_;refine hT 7 ?_;refine hT 9 ?_;refine hT 10 ?_;refine hT 11 ?_;refine hT 12 ?_;refine hT 13 ?_;refine hT 14 ?_;refine wpAnyH_ready (rs:=[1,8]) (by kernel_rfl) (by simp) ?_;refine AllReadyH.cons rfl (fun K hK=>?_) ?_
       ·have cc:=zab (za HC) 2 _ rfl;go_simp
        clear cc;refine hK.out _ _ ?_ (fun hHeld=>?_)
        ·try dsimp only
         exact za SS5 _ (za F)
        clear hK K;refine hP ?_;refine wpAnyH_ready (rs:=[8]) (by kernel_rfl) (by simp) ?_;refine AllReadyH.cons rfl (fun K hK=>?_) ?_
        ·refine zef rfl rfl ?_;intro E5 U5 hE hEn hb;have LE5:=zaa (show wr.heap.size≤E5 by rw[← hE];exact(za G).size);have HE5:=zaa hEn;have HC:=zaa (zac hb (za HC));have F:=zaa (zag (za F) (hb.mono (za F).size));have G:=zaa ((za G).trans (hb.mono (za G).size));clear hE hEn hb;refine hK.out _ _ ?_ (fun hHeld=>?_)
         ·try dsimp only
          exact za SS5 _ (za F)
         clear hK K;refine hP ?_;refine wpAnyH_ready (rs:=[15]) (by kernel_rfl) (by simp) ?_;refine AllReadyH.cons rfl (fun K hK=>?_) ?_
         ·refine zbc rfl (.tmp 27) (.tmp 33) 31 70 rfl i1 _ 2 24 Tryz.underlying31 (za J0) (za J1) (za J2) (za J3) rfl (by omega) E5 rfl (za HE5) ta tl tc rfl (za TN) (zcr ts) (za TL) ((za TT).later (za FB _ (za F))).news (zbl ts) (by omega) (by omega) ?_;intro g5 c5 U5 ho hg hw5;have HC:=zaa ((hg.block C (Array.getElem?_eq_some_iff.1 (za HC)).1 (fun e=>by have:=Option.some.inj e;have:=za LE5;have:=za VW;have:=za CV;omega)).trans (za HC));have G5:=zaa (show wr.heap.size≤g5 by have:=za LE5;have:=(za G).size;omega)
          have OT:=zaa (show zbq V.heap.size U5 (some ⟨g5,0,none⟩) c5 ts by
           have:=za HT;subst this
           exact zbq.low ho (Nat.le_trans (za VW) (za LE5)))
          have NE5:=zaa (show sp.map (·.block)≠some g5 from fun e=>by have:=(za OW).blk_lt _ e;have:=za G5;omega);have F:=zaa (show V.grownBy U5 (some C) from⟨hg.os.trans (za F).os,hg.tape.trans (za F).tape,hg.output.trans (za F).output,Nat.le_trans (za F).size hg.size,fun k hk hne=>(hg.block k (Nat.lt_of_lt_of_le hk (za F).size) (fun e=>by have:=Option.some.inj e;have:=za LE5;have:=za VW;omega)).trans ((za F).block k hk hne)⟩);have G:=zaa ((za G).grown hg (za G).size (fun g e=>by have:=Option.some.inj e;have:=za LE5;omega));clear ho hg hw5;refine hK.out _ _ ?_ (fun hHeld=>?_)
          ·try dsimp only
           exact za SS5 _ (za F)
          clear hK K;refine hP ?_;refine hT 16 ?_;refine wpAnyH_ready (rs:=[17]) (by kernel_rfl) (by simp) ?_;refine AllReadyH.cons rfl (fun K hK=>?_) ?_
          ·refine za6 rfl 35 rfl nm (some ⟨g5,0,none⟩) tl c5 rfl ?_;intro B5 U5 hE hEn hb;have HB5:=zaa hEn;have HC:=zaa (zac hb (za HC));have F:=zaa (zag (za F) (hb.mono (za F).size));have OT:=zaa ((za OT).below hb);have G:=zaa ((za G).trans (hb.mono (za G).size));clear hE hEn hb;refine hK.out _ _ ?_ (fun hHeld=>?_)
           ·try dsimp only
            exact za SS5 _ (za F)
           clear hK K;refine hP ?_;refine wpAnyH_ready (rs:=[18]) (by kernel_rfl) (by simp) ?_;refine AllReadyH.cons rfl (fun K hK=>?_) ?_
           ·refine za5 rfl (.tmp 20) (.tmp 36) rfl V.heap.size sp j c l rfl (za LJ) ((za OW).same (fun g _ h2=>(za G).block g h2)) B5 ⟨⟨nm,ts⟩,g5,c5⟩ rfl (by have:=za HT;subst this;exact za HB5) (za OT) (za NE5) (by omega) (za F).size ?_;intro sp6 c6 U5 ho hb;have O6:=zaa ho;have HC:=zaa ((hb.block C (za CV)).trans (za HC));have F:=zaa (zag (za F) hb);clear ho hb;refine hK.out _ _ ?_ (fun hHeld=>?_)
            ·try dsimp only
             exact za SS5 _ (za F)
            clear hK K;refine hP ?_;refine hT 19 ?_;refine wpAnyH_ready (rs:=[20]) (by kernel_rfl) (by simp) ?_;refine AllReadyH.cons rfl (fun K hK=>?_) ?_
            ·have cc:=zab (za HC) 2 _ rfl;have cf:U5.frozen? ⟨C,2,none⟩=false:=by simp[World.frozen?,za HC]
             have a1:=heap_setCell_same U5 C 2 _ 45 (.slice sp6 (j+1) c6) (za HC);have a2:=zb U5 C 2 (.slice sp6 (j+1) c6);have O6:=zaa ((za O6).same (w':=U5.setCell ⟨C,2,none⟩ (.slice sp6 (j+1) c6)) (fun g h1 h2=>a2.block g h2 (fun e=>by have:=Option.some.inj e;have:=za CV;omega)));have F:=zaa (zaq (za F) a2);have HC:=zaa (show(U5.setCell ⟨C,2,none⟩ (.slice sp6 (j+1) c6)).heap[C]? = some (.cells #[.int .i64 ver,.slice (some ⟨g3,0,none⟩) n c3,.slice sp6 (j+1) c6] 45 (0,0)) from a1);clear a1 a2;go_simp
             clear cc cf;refine hK.out _ _ ?_ (fun hHeld=>?_)
             ·try dsimp only
              exact za SS5 _ (za F)
             clear hK K;refine hP ?_;refine wpAnyH_done (by kernel_rfl) ?_ _;have IV:=zaa (show CpI ver C g3 n c3 ps V (j+1) (U5.setCell ⟨C,2,none⟩ (.slice sp6 (j+1) c6)) from⟨sp6,c6,_,by rw[List.map_append,za LP,za TK];rfl,by rw[List.length_append,za LJ];rfl,za O6,za HC,za F⟩);generalize U5.setCell ⟨C,2,none⟩ (.slice sp6 (j+1) c6)=U6 at *;clear F G HC O6 OT hHeld
             go_wp2
             exact⟨⟨j+1,by omega,by go_num,IV⟩,by simp[intOf];omega⟩
            exact AllReadyH.nil
           exact AllReadyH.nil
          exact AllReadyH.nil
         exact AllReadyH.nil
        exact AllReadyH.nil
       refine AllReadyH.cons rfl (fun K hK=>?_) ?_
       ·refine zef rfl rfl ?_;intro E5 U5 hE hEn hb;have LE5:=zaa (show wr.heap.size≤E5 by rw[← hE];exact(za G).size);have HE5:=zaa hEn;have HC:=zaa (zac hb (za HC));have F:=zaa (zag (za F) (hb.mono (za F).size));have G:=zaa ((za G).trans (hb.mono (za G).size));clear hE hEn hb;refine hK.out _ _ ?_ (fun hHeld=>?_)
        ·try dsimp only
         exact za SS5 _ (za F)
        clear hK K;refine hP ?_;refine wpAnyH_ready (rs:=[1,15]) (by kernel_rfl) (by simp) ?_;refine AllReadyH.cons rfl (fun K hK=>?_) ?_
        ·have cc:=zab (za HC) 2 _ rfl;go_simp
         clear cc;refine hK.out _ _ ?_ (fun hHeld=>?_)
         ·try dsimp only
          exact za SS5 _ (za F)
         clear hK K;refine hP ?_;refine wpAnyH_ready (rs:=[15]) (by kernel_rfl) (by simp) ?_;refine AllReadyH.cons rfl (fun K hK=>?_) ?_
         ·refine zbc rfl (.tmp 27) (.tmp 33) 31 70 rfl i1 _ 2 24 Tryz.underlying31 (za J0) (za J1) (za J2) (za J3) rfl (by omega) E5 rfl (za HE5) ta tl tc rfl (za TN) (zcr ts) (za TL) ((za TT).later (za FB _ (za F))).news (zbl ts) (by omega) (by omega) ?_;intro g5 c5 U5 ho hg hw5;have HC:=zaa ((hg.block C (Array.getElem?_eq_some_iff.1 (za HC)).1 (fun e=>by have:=Option.some.inj e;have:=za LE5;have:=za VW;have:=za CV;omega)).trans (za HC));have G5:=zaa (show wr.heap.size≤g5 by have:=za LE5;have:=(za G).size;omega)
          have OT:=zaa (show zbq V.heap.size U5 (some ⟨g5,0,none⟩) c5 ts by
           have:=za HT;subst this
           exact zbq.low ho (Nat.le_trans (za VW) (za LE5)))
          have NE5:=zaa (show sp.map (·.block)≠some g5 from fun e=>by have:=(za OW).blk_lt _ e;have:=za G5;omega);have F:=zaa (show V.grownBy U5 (some C) from⟨hg.os.trans (za F).os,hg.tape.trans (za F).tape,hg.output.trans (za F).output,Nat.le_trans (za F).size hg.size,fun k hk hne=>(hg.block k (Nat.lt_of_lt_of_le hk (za F).size) (fun e=>by have:=Option.some.inj e;have:=za LE5;have:=za VW;omega)).trans ((za F).block k hk hne)⟩);have G:=zaa ((za G).grown hg (za G).size (fun g e=>by have:=Option.some.inj e;have:=za LE5;omega));clear ho hg hw5;refine hK.out _ _ ?_ (fun hHeld=>?_)
          ·try dsimp only
           exact za SS5 _ (za F)
          clear hK K;refine hP ?_;refine hT 16 ?_;refine wpAnyH_ready (rs:=[17]) (by kernel_rfl) (by simp) ?_;refine AllReadyH.cons rfl (fun K hK=>?_) ?_
          ·refine za6 rfl 35 rfl nm (some ⟨g5,0,none⟩) tl c5 rfl ?_;intro B5 U5 hE hEn hb;have HB5:=zaa hEn;have HC:=zaa (zac hb (za HC));have F:=zaa (zag (za F) (hb.mono (za F).size));have OT:=zaa ((za OT).below hb);have G:=zaa ((za G).trans (hb.mono (za G).size));clear hE hEn hb;refine hK.out _ _ ?_ (fun hHeld=>?_)
           ·try dsimp only
            exact za SS5 _ (za F)
           clear hK K;refine hP ?_;refine wpAnyH_ready (rs:=[18]) (by kernel_rfl) (by simp) ?_;refine AllReadyH.cons rfl (fun K hK=>?_) ?_
           ·refine za5 rfl (.tmp 20) (.tmp 36) rfl V.heap.size sp j c l rfl (za LJ) ((za OW).same (fun g _ h2=>(za G).block g h2)) B5 ⟨⟨nm,ts⟩,g5,c5⟩ rfl (by have:=za HT;subst this;exact za HB5) (za OT) (za NE5) (by omega) (za F).size ?_;intro sp6 c6 U5 ho hb;have O6:=zaa ho;have HC:=zaa ((hb.block C (za CV)).trans (za HC));have F:=zaa (zag (za F) hb);clear ho hb;refine hK.out _ _ ?_ (fun hHeld=>?_)
            ·try dsimp only
             exact za SS5 _ (za F)
            clear hK K;refine hP ?_;refine hT 19 ?_;refine wpAnyH_ready (rs:=[20]) (by kernel_rfl) (by simp) ?_;refine AllReadyH.cons rfl (fun K hK=>?_) ?_
            ·have cc:=zab (za HC) 2 _ rfl;have cf:U5.frozen? ⟨C,2,none⟩=false:=by simp[World.frozen?,za HC]
             have a1:=heap_setCell_same U5 C 2 _ 45 (.slice sp6 (j+1) c6) (za HC);have a2:=zb U5 C 2 (.slice sp6 (j+1) c6);have O6:=zaa ((za O6).same (w':=U5.setCell ⟨C,2,none⟩ (.slice sp6 (j+1) c6)) (fun g h1 h2=>a2.block g h2 (fun e=>by have:=Option.some.inj e;have:=za CV;omega)));have F:=zaa (zaq (za F) a2);have HC:=zaa (show(U5.setCell ⟨C,2,none⟩ (.slice sp6 (j+1) c6)).heap[C]? = some (.cells #[.int .i64 ver,.slice (some ⟨g3,0,none⟩) n c3,.slice sp6 (j+1) c6] 45 (0,0)) from a1);clear a1 a2;go_simp
             clear cc cf;refine hK.out _ _ ?_ (fun hHeld=>?_)
             ·try dsimp only
              exact za SS5 _ (za F)
             clear hK K;refine hP ?_;refine wpAnyH_done (by kernel_rfl) ?_ _;have IV:=zaa (show CpI ver C g3 n c3 ps V (j+1) (U5.setCell ⟨C,2,none⟩ (.slice sp6 (j+1) c6)) from⟨sp6,c6,_,by rw[List.map_append,za LP,za TK];rfl,by rw[List.length_append,za LJ];rfl,za O6,za HC,za F⟩);generalize U5.setCell ⟨C,2,none⟩ (.slice sp6 (j+1) c6)=U6 at *;clear F G HC O6 OT hHeld
             go_wp2
             exact⟨⟨j+1,by omega,by go_num,IV⟩,by simp[intOf];omega⟩
            exact AllReadyH.nil
           exact AllReadyH.nil
          exact AllReadyH.nil
         exact AllReadyH.nil
        refine AllReadyH.cons rfl (fun K hK=>?_) ?_
        ·refine zbc rfl (.tmp 27) (.tmp 33) 31 70 rfl i1 _ 2 24 Tryz.underlying31 (za J0) (za J1) (za J2) (za J3) rfl (by omega) E5 rfl (za HE5) ta tl tc rfl (za TN) (zcr ts) (za TL) ((za TT).later (za FB _ (za F))).news (zbl ts) (by omega) (by omega) ?_;intro g5 c5 U5 ho hg hw5;have HC:=zaa ((hg.block C (Array.getElem?_eq_some_iff.1 (za HC)).1 (fun e=>by have:=Option.some.inj e;have:=za LE5;have:=za VW;have:=za CV;omega)).trans (za HC));have G5:=zaa (show wr.heap.size≤g5 by have:=za LE5;have:=(za G).size;omega)
         have OT:=zaa (show zbq V.heap.size U5 (some ⟨g5,0,none⟩) c5 ts by
          have:=za HT;subst this
          exact zbq.low ho (Nat.le_trans (za VW) (za LE5)))
         have NE5:=zaa (show sp.map (·.block)≠some g5 from fun e=>by have:=(za OW).blk_lt _ e;have:=za G5;omega);have F:=zaa (show V.grownBy U5 (some C) from⟨hg.os.trans (za F).os,hg.tape.trans (za F).tape,hg.output.trans (za F).output,Nat.le_trans (za F).size hg.size,fun k hk hne=>(hg.block k (Nat.lt_of_lt_of_le hk (za F).size) (fun e=>by have:=Option.some.inj e;have:=za LE5;have:=za VW;omega)).trans ((za F).block k hk hne)⟩);have G:=zaa ((za G).grown hg (za G).size (fun g e=>by have:=Option.some.inj e;have:=za LE5;omega));clear ho hg hw5;refine hK.out _ _ ?_ (fun hHeld=>?_)
         ·try dsimp only
          exact za SS5 _ (za F)
         clear hK K;refine hP ?_;refine hT 16 ?_;refine wpAnyH_ready (rs:=[1,17]) (by kernel_rfl) (by simp) ?_;refine AllReadyH.cons rfl (fun K hK=>?_) ?_
         ·have cc:=zab (za HC) 2 _ rfl;go_simp
          clear cc;refine hK.out _ _ ?_ (fun hHeld=>?_)
          ·try dsimp only
           exact za SS5 _ (za F)
          clear hK K;refine hP ?_;refine wpAnyH_ready (rs:=[17]) (by kernel_rfl) (by simp) ?_;refine AllReadyH.cons rfl (fun K hK=>?_) ?_
          ·refine za6 rfl 35 rfl nm (some ⟨g5,0,none⟩) tl c5 rfl ?_;intro B5 U5 hE hEn hb;have HB5:=zaa hEn;have HC:=zaa (zac hb (za HC));have F:=zaa (zag (za F) (hb.mono (za F).size));have OT:=zaa ((za OT).below hb);have G:=zaa ((za G).trans (hb.mono (za G).size));clear hE hEn hb;refine hK.out _ _ ?_ (fun hHeld=>?_)
           ·try dsimp only
            exact za SS5 _ (za F)
           clear hK K;refine hP ?_;refine wpAnyH_ready (rs:=[18]) (by kernel_rfl) (by simp) ?_;refine AllReadyH.cons rfl (fun K hK=>?_) ?_
           ·refine za5 rfl (.tmp 20) (.tmp 36) rfl V.heap.size sp j c l rfl (za LJ) ((za OW).same (fun g _ h2=>(za G).block g h2)) B5 ⟨⟨nm,ts⟩,g5,c5⟩ rfl (by have:=za HT;subst this;exact za HB5) (za OT) (za NE5) (by omega) (za F).size ?_;intro sp6 c6 U5 ho hb;have O6:=zaa ho;have HC:=zaa ((hb.block C (za CV)).trans (za HC));have F:=zaa (zag (za F) hb);clear ho hb;refine hK.out _ _ ?_ (fun hHeld=>?_)
            ·try dsimp only
             exact za SS5 _ (za F)
            clear hK K;refine hP ?_;refine hT 19 ?_;refine wpAnyH_ready (rs:=[20]) (by kernel_rfl) (by simp) ?_;refine AllReadyH.cons rfl (fun K hK=>?_) ?_
            ·have cc:=zab (za HC) 2 _ rfl;have cf:U5.frozen? ⟨C,2,none⟩=false:=by simp[World.frozen?,za HC]
             have a1:=heap_setCell_same U5 C 2 _ 45 (.slice sp6 (j+1) c6) (za HC);have a2:=zb U5 C 2 (.slice sp6 (j+1) c6);have O6:=zaa ((za O6).same (w':=U5.setCell ⟨C,2,none⟩ (.slice sp6 (j+1) c6)) (fun g h1 h2=>a2.block g h2 (fun e=>by have:=Option.some.inj e;have:=za CV;omega)));have F:=zaa (zaq (za F) a2);have HC:=zaa (show(U5.setCell ⟨C,2,none⟩ (.slice sp6 (j+1) c6)).heap[C]? = some (.cells #[.int .i64 ver,.slice (some ⟨g3,0,none⟩) n c3,.slice sp6 (j+1) c6] 45 (0,0)) from a1);clear a1 a2;go_simp
             clear cc cf;refine hK.out _ _ ?_ (fun hHeld=>?_)
             ·try dsimp only
              exact za SS5 _ (za F)
             clear hK K;refine hP ?_;refine wpAnyH_done (by kernel_rfl) ?_ _;have IV:=zaa (show CpI ver C g3 n c3 ps V (j+1) (U5.setCell ⟨C,2,none⟩ (.slice sp6 (j+1) c6)) from⟨sp6,c6,_,by rw[List.map_append,za LP,za TK];rfl,by rw[List.length_append,za LJ];rfl,za O6,za HC,za F⟩);generalize U5.setCell ⟨C,2,none⟩ (.slice sp6 (j+1) c6)=U6 at *;clear F G HC O6 OT hHeld
             go_wp2
             exact⟨⟨j+1,by omega,by go_num,IV⟩,by simp[intOf];omega⟩
            exact AllReadyH.nil
           exact AllReadyH.nil
          exact AllReadyH.nil
         refine AllReadyH.cons rfl (fun K hK=>?_) ?_
         ·refine za6 rfl 35 rfl nm (some ⟨g5,0,none⟩) tl c5 rfl ?_;intro B5 U5 hE hEn hb;have HB5:=zaa hEn;have HC:=zaa (zac hb (za HC));have F:=zaa (zag (za F) (hb.mono (za F).size));have OT:=zaa ((za OT).below hb);have G:=zaa ((za G).trans (hb.mono (za G).size));clear hE hEn hb;refine hK.out _ _ ?_ (fun hHeld=>?_)
          ·try dsimp only
           exact za SS5 _ (za F)
          clear hK K;refine hP ?_;refine wpAnyH_ready (rs:=[1]) (by kernel_rfl) (by simp) ?_;refine AllReadyH.cons rfl (fun K hK=>?_) ?_
          ·have cc:=zab (za HC) 2 _ rfl;go_simp
           clear cc;refine hK.out _ _ ?_ (fun hHeld=>?_)
           ·try dsimp only
            exact za SS5 _ (za F)
           clear hK K;refine hP ?_;refine wpAnyH_ready (rs:=[18]) (by kernel_rfl) (by simp) ?_;refine AllReadyH.cons rfl (fun K hK=>?_) ?_
           ·refine za5 rfl (.tmp 20) (.tmp 36) rfl V.heap.size sp j c l rfl (za LJ) ((za OW).same (fun g _ h2=>(za G).block g h2)) B5 ⟨⟨nm,ts⟩,g5,c5⟩ rfl (by have:=za HT;subst this;exact za HB5) (za OT) (za NE5) (by omega) (za F).size ?_;intro sp6 c6 U5 ho hb;have O6:=zaa ho;have HC:=zaa ((hb.block C (za CV)).trans (za HC));have F:=zaa (zag (za F) hb);clear ho hb;refine hK.out _ _ ?_ (fun hHeld=>?_)
            ·try dsimp only
             exact za SS5 _ (za F)
            clear hK K;refine hP ?_;refine hT 19 ?_;refine wpAnyH_ready (rs:=[20]) (by kernel_rfl) (by simp) ?_;refine AllReadyH.cons rfl (fun K hK=>?_) ?_
            ·have cc:=zab (za HC) 2 _ rfl;have cf:U5.frozen? ⟨C,2,none⟩=false:=by simp[World.frozen?,za HC]
             have a1:=heap_setCell_same U5 C 2 _ 45 (.slice sp6 (j+1) c6) (za HC);have a2:=zb U5 C 2 (.slice sp6 (j+1) c6);have O6:=zaa ((za O6).same (w':=U5.setCell ⟨C,2,none⟩ (.slice sp6 (j+1) c6)) (fun g h1 h2=>a2.block g h2 (fun e=>by have:=Option.some.inj e;have:=za CV;omega)));have F:=zaa (zaq (za F) a2);have HC:=zaa (show(U5.setCell ⟨C,2,none⟩ (.slice sp6 (j+1) c6)).heap[C]? = some (.cells #[.int .i64 ver,.slice (some ⟨g3,0,none⟩) n c3,.slice sp6 (j+1) c6] 45 (0,0)) from a1);clear a1 a2;go_simp
             clear cc cf;refine hK.out _ _ ?_ (fun hHeld=>?_)
             ·try dsimp only
              exact za SS5 _ (za F)
             clear hK K;refine hP ?_;refine wpAnyH_done (by kernel_rfl) ?_ _;have IV:=zaa (show CpI ver C g3 n c3 ps V (j+1) (U5.setCell ⟨C,2,none⟩ (.slice sp6 (j+1) c6)) from⟨sp6,c6,_,by rw[List.map_append,za LP,za TK];rfl,by rw[List.length_append,za LJ];rfl,za O6,za HC,za F⟩);generalize U5.setCell ⟨C,2,none⟩ (.slice sp6 (j+1) c6)=U6 at *;clear F G HC O6 OT hHeld
             go_wp2
             exact⟨⟨j+1,by omega,by go_num,IV⟩,by simp[intOf];omega⟩
            exact AllReadyH.nil
           exact AllReadyH.nil
          exact AllReadyH.nil
         exact AllReadyH.nil
        exact AllReadyH.nil
       exact AllReadyH.nil
      ·have hjj:¬ (j:Int)<(m:Int):=by omega
       obtain rfl:j=m:=by omega
       have e0:=zab (za HC) 0 _ rfl;have e1:=zab (za HC) 1 _ rfl;have e2:=zab (za HC) 2 _ rfl;have XD:=zaa (zac (za FB _ (za FW)) (za X2));have z0:=zab (za XD) 0 _ rfl;have z1:=zab (za XD) 1 _ rfl;have z2:=zab (za XD) 2 _ rfl;have f0:wr.frozen? ⟨w.heap.size+1,0,none⟩=false:=by simp[World.frozen?,za XD]
       have f1:wr.frozen? ⟨w.heap.size+1,1,none⟩=false:=by simp[World.frozen?,za XD]
       have f2:wr.frozen? ⟨w.heap.size+1,2,none⟩=false:=by simp[World.frozen?,za XD]
       obtain⟨a1,a2⟩:=zps (x:=.int .i64 ver) (y:=.slice (some ⟨g3,0,none⟩) n c3) (z:=.slice sp j c) (za XD);have A1:=zaa a1;have A2:=zaa a2;clear a1 a2
       go_wp2
       generalize (((wr.setCell ⟨w.heap.size+1,0,none⟩ (.int .i64 ver)).setCell ⟨w.heap.size+1,1,none⟩ (.slice (some ⟨g3,0,none⟩) n c3)).setCell ⟨w.heap.size+1,2,none⟩ (.slice sp j c))=W9 at *;clear z0 z1 z2 f0 f1 f2 e0 e1 e2;have g0:=zab (za A1) 0 _ rfl;have g1:=zab (za A1) 1 _ rfl;have g2:=zab (za A1) 2 _ rfl
       have CF:=zaa (show CfAt W9 ⟨ver,rs,ps⟩ ⟨some ⟨g3,0,none⟩,c3,sp,c⟩∧Below w.heap.size w W9∧OwnW w.heap.size W9 sp c l∧l.map Pw.po=ps∧W9.ownsRow 0 56 3 (.slice (some ⟨g3,0,none⟩) n c3) n (zch rs) by
        have hpo:List.map Pw.po l=ps:=by rw[za LP,← za HM,List.take_length]
        have hlow:V.heap.size≤wr.heap.size:=(za FW).size;have hZ:=za Z2;have hF2:=(za FB _ (za FW)).size;have hO:=(za OW).same (w':=W9) (fun g h1 h2=>(za A2).block g h2 (fun e=>by have:=Option.some.inj e;have:=za LC;have:=za CV;omega))
        obtain⟨hpos,hpc⟩:=hO.at_ (fun x hx=>by
         have hx2:x.po∈ps:=by rw[← hpo];exact List.mem_map_of_mem hx
         obtain⟨i,hi,e⟩:=List.getElem_of_mem hx2;obtain⟨_,_,ta,tc,_,_,_,hT,hl,_⟩:=(za P1).cell i hi;rw[e] at hT hl
         exact⟨hT.lt,hl.1⟩)
        rw[hpo] at hpos;obtain⟨⟨hrt,hrc⟩,hro⟩:=za RT wr (za FW)
        have hrt9:RtsAt W9 (some ⟨g3,0,none⟩) rs:=⟨hrt.sz,fun i hi=>by
         obtain⟨b,off,e,r0,r1,r2⟩:=hrt.cell i hi;have hb:b=g3:=by cases e;rfl
         have hlt:g3<wr.heap.size:=by have:=za G3;omega
         have hk:W9.heap[g3]? = wr.heap[g3]?:=(za A2).block _ hlt (fun e=>by have:=Option.some.inj e;have:=za GL;omega);subst hb
         exact⟨b,off,e,(World.cell?_of_block hk).trans r0,(World.cell?_of_block hk).trans r1,(World.cell?_of_block hk).trans r2⟩⟩
        have hro9:=zbs (w':=W9) hro (fun _ hl=>(za A2).block _ hl (fun e=>by have:=Option.some.inj e;have:=za GL;omega));have hlm:=za LJ;refine⟨⟨za WV,hrt9,hpos,⟨by have:=za HN;simp only[maxLen];omega,by have:=za HN;simp only;omega⟩,⟨by have:=za HM;simp only[maxLen];omega,by have:=za HM;simp only;omega⟩,fun h=>by cases h⟩,?_,hO.low (by have:=(za B2).size;have:=(za FB _ (zbk V _)).size;omega),hpo,hro9⟩
        exact((za B2).trans ((za FB _ (za FW)).mono (za B2).size)).grown (za A2) (by have:=(za B2).size;omega) (fun g e=>by have:=Option.some.inj e;omega))
       refine bodyPost_ret (v:=.agg #[.int .i64 ver,.slice (some ⟨g3,0,none⟩) n c3,.slice sp j c]) (by simp[results,Tryz.results68,go_sem,g0,g1,g2]) rfl ⟨⟨some ⟨g3,0,none⟩,c3,sp,c⟩,rfl,(za CF).1,(za CF).2.1,l,(za CF).2.2.1,(za CF).2.2.2.1,by have h9:=(za CF).2.2.2.2;have hn:=za HN;subst hn;exact h9⟩
    exact AllReadyH.nil
   exact AllReadyH.nil
  exact AllReadyH.nil
 exact AllReadyH.nil
theorem zmx {w:World} {e:Cf} {h:CfH} (hc:CfAt w e h) (hs:zp4 e):Calls Tryz.prog 68 #[zcw e h] w fun r w'=>∃ h',r=.returned (zcw e h')∧CfAt w' e h'∧Below w.heap.size w w'∧∃ l,OwnW w.heap.size w' h'.pa h'.pc l∧l.map Pw.po=e.ps:=by
 refine(zmy hc hs).mono ?_;rintro r w' ⟨h',h1,h2,h3,l,h4,h5,_⟩;exact⟨h',h1,h2,h3,l,h4,h5⟩
end Go.Proofs.YtjcjleaicjhpeaaGreatDoor
