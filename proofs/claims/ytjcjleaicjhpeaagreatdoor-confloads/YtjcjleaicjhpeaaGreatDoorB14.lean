/- Conf: Config. -/
import Derived.Test.YtjcjleaicjhpeaaGreatDoorB13
set_option linter.unusedVariables false
set_option maxRecDepth 20000
set_option maxHeartbeats 16000000
namespace Go.Proofs.YtjcjleaicjhpeaaGreatDoor
open Go.ChangeShapes Go.WideShapes Go.ChangeAt Go.RowKit
theorem Sm.fp_length (x:Sm):x.fp.length=x.ps.length:=by simp[Sm.fp]
theorem Sm.fr_length (x:Sm):x.fr.length=x.rs.length:=by simp[Sm.fr]
def GpI (ver:Int) (C:Nat) (ps:List Pq) (V:World) (j:Nat) (wr:World):Prop :=
 ∃ sp c l,List.map Pq.po l=(ps.map Pq.po).take j∧l.length=j∧OwnPq V.heap.size wr sp c l∧wr.heap[C]? = some (.cells #[.int .i64 ver,.slice none 0 0,.slice sp j c] 45 (0,0))∧V.grownBy wr (some C)
theorem zfj.cell {base:Nat} {w:World} {sp:Option Addr} {c:Nat} {l:List Pl} (h:zfj base w sp c l) (i:Nat) (hi:i<l.length):∃ g,sp=some ⟨g,0,none⟩∧base≤g∧g<w.heap.size∧∀ w':World,w'.heap[g]? = w.heap[g]?→w'.cell? ⟨g,i*2,none⟩=some (.string l[i].1)∧w'.cell? ⟨g,i*2+1,none⟩=some (.string l[i].2):=by
 rcases h.2 with⟨hv,h0⟩|⟨g,cap,cur,hv,hb,hg,hle,hmx,hsz,ht⟩
 ·omega
 ·simp only[Value.slice.injEq] at hv;have one:∀ (w':World),w'.heap[g]? = w.heap[g]?→∀ f,f<2→w'.cell? ⟨g,i*2+f,none⟩=(zc l[i])[f]?:=fun w' hw f hf=>by
   have hk:=zg9 l i f hi hf;rw[cell_of_row w' g _ cur _ _ (hw.trans hg),← Array.getElem?_toList];have hj:i*2+f<l.length*2:=by omega
   rw[← ht,List.getElem?_take,if_pos hj] at hk;exact hk
  exact⟨g,hv.1,hb,(Array.getElem?_eq_some_iff.1 hg).1,fun w' hw=>⟨one w' hw 0 (by omega),one w' hw 1 (by omega)⟩⟩
def GrI (ver:Int) (C:Nat) (rs:List Rt) (pv:Value) (V:World) (j:Nat) (wr:World):Prop :=
 ∃ sp c,zer V.heap.size wr sp c (rs.take j)∧wr.heap[C]? = some (.cells #[.int .i64 ver,.slice sp j c,pv] 45 (0,0))∧V.grownBy wr (some C)
theorem zdn {w:World} {h:StH} {x:Sm} (s:StAt w h x) (hx:SmOk x) :
  Calls Tryz.prog 19 #[.pointer (some ⟨h.S,0,none⟩)] w fun e w'=>∃ k,e=.returned (zcw x.cf k)∧CfAt w' x.cf k∧Below w.heap.size w w'∧(∃ l,OwnPq w.heap.size w' k.pa k.pc l∧l.map Pq.po=x.ps.map Pq.po)∧zer w.heap.size w' k.ra k.rc x.rs:=by
 obtain⟨c0,c1,c2,c3⟩:=s.cell;have b1:Below w.heap.size w (w.alloc (.cells #[.int .i64 0,.slice none 0 0,.slice none 0 0] 45)):=(Below.refl _ _).alloc (Nat.le_refl _) _;have b2:=zaa (b1.alloc b1.size (.cells #[.int .i64 x.ver,.slice none 0 0,.slice none 0 0] 45));have s1:(w.alloc (.cells #[.int .i64 0,.slice none 0 0,.slice none 0 0] 45)).heap.size=w.heap.size+1:=by simp
 have d0:=cell_later b1 c0;have d1:=cell_later (za b2) c1;have X1:=zaa (show((w.alloc (.cells #[.int .i64 0,.slice none 0 0,.slice none 0 0] 45)).alloc (.cells #[.int .i64 x.ver,.slice none 0 0,.slice none 0 0] 45)).heap[w.heap.size]? = some (.cells #[.int .i64 0,.slice none 0 0,.slice none 0 0] 45 (0,0)) by rw[Below.heap_alloc _ _ _ (by simp)];exact zad _ _);have X2:=zaa (show((w.alloc (.cells #[.int .i64 0,.slice none 0 0,.slice none 0 0] 45)).alloc (.cells #[.int .i64 x.ver,.slice none 0 0,.slice none 0 0] 45)).heap[w.heap.size+1]? = some (.cells #[.int .i64 x.ver,.slice none 0 0,.slice none 0 0] 45 (0,0)) by rw[← s1];exact zad _ _);have Z2:=zaa (show((w.alloc (.cells #[.int .i64 0,.slice none 0 0,.slice none 0 0] 45)).alloc (.cells #[.int .i64 x.ver,.slice none 0 0,.slice none 0 0] 45)).heap.size=w.heap.size+2 by simp);go_enter Tryz.func19,Tryz.ntmps19
 go_wp2_with fail
 have s2:=zaa (s.later (za b2));generalize ((w.alloc (.cells #[.int .i64 0,.slice none 0 0,.slice none 0 0] 45)).alloc (.cells #[.int .i64 x.ver,.slice none 0 0,.slice none 0 0] 45))=W2 at *;have KC:=zaa (zm7 h.P W2);have SC:=zaa (zkq (za s2).pm (by have:=hx.t.pn;rw[Sm.fp_length];simpa [Sm.cf] using this));rw[Sm.fp_length] at SC;clear b1 s1 d0 c0 c1 c2 c3;refine(za KC).mono ?_;rintro e U ⟨rfl,rfl⟩
 go_wp2_with fail
 refine(za SC).mono ?_;rintro e V ⟨sp,c,rfl,hO,hb⟩;have NO:=zaa hO;have BV:=zaa hb;have XV:=zaa (zac hb (za X2));clear hO hb KC SC d1
 go_wp2_with fail
 have LN:=zaa (show x.ps.length≤1000 by have:=hx.t.pn;simpa [Sm.cf] using this);have hC1:=za Z2;have BV2:=zaa ((za b2).trans ((za BV).mono (by omega)));have FB:=zaa (show ∀ W:World,V.grownBy W (some (w.heap.size+1))→Below w.heap.size w W from fun W hg=>(za BV2).grown hg (by have:=(za BV2).size;omega) (fun g e=>by have:=Option.some.inj e;omega));have CV:=zaa (show w.heap.size+1<V.heap.size by have:=(za BV).size;omega)
 have SS7:=zaa (show ∀ W:World,V.grownBy W (some (w.heap.size+1))→∀ p∈x.ps,W.cell? ⟨h.S,1,none⟩=some (.map (some h.P))∧(Instr.lookup 75 (.map (some h.P)) (.string p.po.nm) false).run Tryz.prog W=.ok (pqV p) W from fun W hg p hp=>by
  have st:=s.later (za FB W hg);have hm:(p.po.nm,pqV p)∈x.fp:=List.mem_map.2 ⟨p,hp,rfl⟩
  exact⟨st.cell.2.1,(st.pm.look_yes zpf (zkt W) (k:=p.po.nm) (v:=pqV p) (st.pm.rise.get hm)).2⟩)
 have FC:=zaa (show ∀ W:World,V.grownBy W (some (w.heap.size+1))→∀ p∈x.ps,Calls Tryz.prog 43 #[.agg #[.string p.po.nm,.slice p.ta p.po.ts.length p.tc]] W fun e w'=>∃ a' c',e=.returned (.agg #[.string p.po.nm,.slice a' p.po.ts.length c'])∧zbq W.heap.size w' a' c' p.po.ts∧Below W.heap.size W w' from fun W hg p hp=>zky ((s.tg p hp).later (za FB W hg)) (by have:=(hx.t.ps p.po (by simp only[Sm.cf];exact List.mem_map_of_mem hp)).2.1;omega) p.tc);have Z0:=zaa (show GpI x.ver (w.heap.size+1) x.ps V 0 V from⟨none,0,[],rfl,rfl,OwnPq.ofNil _ _,za XV,zbk _ _⟩);generalize hC:w.heap.size+1=C at *;have HCw:=zaa hC;clear hC hC1;generalize hn:x.ps.length=n at *;have HN:=zaa hn;go_loopw [5,23] (fun _ i wr=>∃ j:Nat,j≤n∧i=.int .i64 (j:Int)∧Hid (GpI x.ver C x.ps V j wr)) (fun _ i _=>n - (intOf i).toNat)
 case atStart=>exact⟨0,by omega,rfl,Z0⟩
 case round =>
  obtain⟨j,hj,rfl,IV⟩:=hrel;obtain⟨tp,tc,l,hlp,hlj,hOW,hHC,hF⟩:=za IV;have LP:=zaa hlp;have LJ:=zaa hlj;have OW:=zaa hOW;have HC:=zaa hHC;have FW:=zaa hF;clear hlp hlj hOW hHC hF IV;by_cases hjn:j<n
  ·as_aux_lemma =>
   have HJ:=zaa hjn;have y0:(0:Int)≤(j:Int):=by omega
   have y1:(j:Int)<(n:Int):=by omega
   have hjl:j<x.ps.length:=by rw[za HN];exact hjn
   have PM:=zaa (List.getElem_mem hjl);have TK:=zaa (show(x.ps.map Pq.po).take (j+1)=(x.ps.map Pq.po).take j++[x.ps[j].po] from by rw[List.take_succ_eq_append_getElem (by simpa using hjl)];simp);obtain⟨g,rfl,hg1,hg2,hq⟩:=(za NO).cell j (by simpa [Sm.fp] using hjl);have q0:wr.cell? ⟨g,j,none⟩=some (.string x.ps[j].po.nm):=by
    have:=hq wr ((za FW).block g hg2 (fun e=>by have:=Option.some.inj e;have:=za HCw;have:=za Z2;omega))
    simpa [Sm.fp] using this
   generalize x.ps[j]=p at *;obtain⟨⟨nm,ts⟩,ta,ta2⟩:=p;have SJ:=zaa (fun W hg=>za SS7 W hg _ (za PM));have FJ:=zaa (fun W hg=>za FC W hg _ (za PM));simp only[pqV] at SJ FJ q0;clear hq
   go_wp2_with fail
   have F:=zaa (show V.grownBy wr.drew (some C) from zag (za FW) (Below.refl _ _).drew);have OW:=zaa ((za OW).later (Below.refl _ _).drew);have HC:=zaa (show wr.drew.heap[C]? = some (.cells #[.int .i64 x.ver,.slice none 0 0,.slice tp j tc] 45 (0,0)) from za HC);clear q0 y0 y1 FW;refine wp_region_held_drew (S:=fun w'=>w'.cell? ⟨h.S,1,none⟩=some (.map (some h.P))∧(Instr.lookup 75 (.map (some h.P)) (.string nm) false).run Tryz.prog w'=.ok (.agg #[.string nm,.slice ta ts.length ta2]) w') (by kernel_rfl) ?_ (fun hHeld=>?_)
   ·try dsimp only
    exact za SJ _ (za F)
   refine hT 0 ?_;refine hT 2 ?_;refine hT 3 ?_;refine hT 4 ?_;refine hT 5 ?_;refine hT 6 ?_;refine hT 7 ?_;refine wpAnyH_ready (rs:=[1,8]) (by kernel_rfl) (by simp) ?_;refine AllReadyH.cons rfl (fun K hK=>?_) ?_
   ·have cc:=zab (za HC) 2 _ rfl;go_simp
    clear cc;refine hK.out _ _ ?_ (fun hHeld=>?_)
    ·try dsimp only
     exact za SJ _ (za F)
    clear hK K;refine hP ?_;refine wpAnyH_ready (rs:=[8]) (by kernel_rfl) (by simp) ?_;refine AllReadyH.cons rfl (fun K hK=>?_) ?_
    ·go_simp
     go_at_call 43
     refine(za FJ _ (za F)).mono ?_;rintro e U ⟨a',c',rfl,ho,hb⟩;have HC:=zaa (zac hb (za HC));have OW:=zaa ((za OW).later hb);have OT:=zaa (show zbq V.heap.size U a' c' ts from zbq.low ho (za F).size);have F:=zaa (zag (za F) (hb.mono (za F).size));clear ho hb
     go_wp2_with fail
     refine hK.out _ _ ?_ (fun hHeld=>?_)
     ·try dsimp only
      exact za SJ _ (za F)
     clear hK K;refine hP ?_;refine wpAnyH_ready (rs:=[9]) (by kernel_rfl) (by simp) ?_;refine AllReadyH.cons rfl (fun K hK=>?_) ?_
     ·refine za6 rfl 35 rfl nm a' ts.length c' rfl ?_;intro B5 U5 hE hEn hb;have HB5:=zaa hEn;have HC:=zaa (zac hb (za HC));have OW:=zaa ((za OW).later hb);have OT:=zaa (zay (za OT) hb);have F:=zaa (zag (za F) (hb.mono (za F).size));clear hE hEn hb;refine hK.out _ _ ?_ (fun hHeld=>?_)
      ·try dsimp only
       exact za SJ _ (za F)
      clear hK K;refine hP ?_;refine wpAnyH_ready (rs:=[10]) (by kernel_rfl) (by simp) ?_;refine AllReadyH.cons rfl (fun K hK=>?_) ?_
      ·refine zb1 rfl (.tmp 28) (.tmp 36) rfl V.heap.size tp j tc (l.map Pq.pr) rfl (by rw[List.length_map];exact za LJ) (za OW).row B5 ⟨nm,a',ts.length,c'⟩ rfl (za HB5) (by have:=za LN;omega) (za F).size ?_;intro tp6 tc6 U6 ho hg;have hb:=(za OW).below hg (za F).size;have O6:=zaa ((za OW).push ⟨⟨nm,ts⟩,a',c'⟩ (za OT) ho hg);have HC:=zaa ((hb.block C (za CV)).trans (za HC));have F:=zaa (zag (za F) hb);clear ho hb hg;refine hK.out _ _ ?_ (fun hHeld=>?_)
       ·try dsimp only
        exact za SJ _ (za F)
       clear hK K;refine hP ?_;refine hT 11 ?_;refine wpAnyH_ready (rs:=[12]) (by kernel_rfl) (by simp) ?_;refine AllReadyH.cons rfl (fun K hK=>?_) ?_
       ·have cc:=zab (za HC) 2 _ rfl;have cf:U6.frozen? ⟨C,2,none⟩=false:=by simp[World.frozen?,za HC]
        have a1:=heap_setCell_same U6 C 2 _ 45 (.slice tp6 (j+1) tc6) (za HC);have a2:=zb U6 C 2 (.slice tp6 (j+1) tc6);have O6:=zaa ((za O6).other (w':=U6.setCell ⟨C,2,none⟩ (.slice tp6 (j+1) tc6)) a2 (za HC) (by decide) (by decide));have F:=zaa (zaq (za F) a2);have HC:=zaa (show(U6.setCell ⟨C,2,none⟩ (.slice tp6 (j+1) tc6)).heap[C]? = some (.cells #[.int .i64 x.ver,.slice none 0 0,.slice tp6 (j+1) tc6] 45 (0,0)) from a1);clear a1 a2;go_simp
        clear cc cf;refine hK.out _ _ ?_ (fun hHeld=>?_)
        ·try dsimp only
         exact za SJ _ (za F)
        clear hK K;refine hP ?_;refine wpAnyH_done (by kernel_rfl) ?_ _;have IV:=zaa (show GpI x.ver C x.ps V (j+1) (U6.setCell ⟨C,2,none⟩ (.slice tp6 (j+1) tc6)) from⟨tp6,tc6,_,by rw[List.map_append,za LP,za TK];rfl,by rw[List.length_append,za LJ];rfl,za O6,za HC,za F⟩);generalize U6.setCell ⟨C,2,none⟩ (.slice tp6 (j+1) tc6)=U7 at *;clear F HC O6 OT hHeld;have hln:=za LN
        go_wp2
        exact⟨⟨j+1,by have:=za HJ;omega,by go_num,IV⟩,by have:=za HJ;simp[intOf];omega⟩
       exact AllReadyH.nil
      exact AllReadyH.nil
     exact AllReadyH.nil
    exact AllReadyH.nil
   refine AllReadyH.cons rfl (fun K hK=>?_) ?_
   ·go_simp
    go_at_call 43
    refine(za FJ _ (za F)).mono ?_;rintro e U ⟨a',c',rfl,ho,hb⟩;have HC:=zaa (zac hb (za HC));have OW:=zaa ((za OW).later hb);have OT:=zaa (show zbq V.heap.size U a' c' ts from zbq.low ho (za F).size);have F:=zaa (zag (za F) (hb.mono (za F).size));clear ho hb
    go_wp2_with fail
    refine hK.out _ _ ?_ (fun hHeld=>?_)
    ·try dsimp only
     exact za SJ _ (za F)
    clear hK K;refine hP ?_;refine wpAnyH_ready (rs:=[1,9]) (by kernel_rfl) (by simp) ?_;refine AllReadyH.cons rfl (fun K hK=>?_) ?_
    ·have cc:=zab (za HC) 2 _ rfl;go_simp
     clear cc;refine hK.out _ _ ?_ (fun hHeld=>?_)
     ·try dsimp only
      exact za SJ _ (za F)
     clear hK K;refine hP ?_;refine wpAnyH_ready (rs:=[9]) (by kernel_rfl) (by simp) ?_;refine AllReadyH.cons rfl (fun K hK=>?_) ?_
     ·refine za6 rfl 35 rfl nm a' ts.length c' rfl ?_;intro B5 U5 hE hEn hb;have HB5:=zaa hEn;have HC:=zaa (zac hb (za HC));have OW:=zaa ((za OW).later hb);have OT:=zaa (zay (za OT) hb);have F:=zaa (zag (za F) (hb.mono (za F).size));clear hE hEn hb;refine hK.out _ _ ?_ (fun hHeld=>?_)
      ·try dsimp only
       exact za SJ _ (za F)
      clear hK K;refine hP ?_;refine wpAnyH_ready (rs:=[10]) (by kernel_rfl) (by simp) ?_;refine AllReadyH.cons rfl (fun K hK=>?_) ?_
      ·refine zb1 rfl (.tmp 28) (.tmp 36) rfl V.heap.size tp j tc (l.map Pq.pr) rfl (by rw[List.length_map];exact za LJ) (za OW).row B5 ⟨nm,a',ts.length,c'⟩ rfl (za HB5) (by have:=za LN;omega) (za F).size ?_;intro tp6 tc6 U6 ho hg;have hb:=(za OW).below hg (za F).size;have O6:=zaa ((za OW).push ⟨⟨nm,ts⟩,a',c'⟩ (za OT) ho hg);have HC:=zaa ((hb.block C (za CV)).trans (za HC));have F:=zaa (zag (za F) hb);clear ho hb hg;refine hK.out _ _ ?_ (fun hHeld=>?_)
       ·try dsimp only
        exact za SJ _ (za F)
       clear hK K;refine hP ?_;refine hT 11 ?_;refine wpAnyH_ready (rs:=[12]) (by kernel_rfl) (by simp) ?_;refine AllReadyH.cons rfl (fun K hK=>?_) ?_
       ·have cc:=zab (za HC) 2 _ rfl;have cf:U6.frozen? ⟨C,2,none⟩=false:=by simp[World.frozen?,za HC]
        have a1:=heap_setCell_same U6 C 2 _ 45 (.slice tp6 (j+1) tc6) (za HC);have a2:=zb U6 C 2 (.slice tp6 (j+1) tc6);have O6:=zaa ((za O6).other (w':=U6.setCell ⟨C,2,none⟩ (.slice tp6 (j+1) tc6)) a2 (za HC) (by decide) (by decide));have F:=zaa (zaq (za F) a2);have HC:=zaa (show(U6.setCell ⟨C,2,none⟩ (.slice tp6 (j+1) tc6)).heap[C]? = some (.cells #[.int .i64 x.ver,.slice none 0 0,.slice tp6 (j+1) tc6] 45 (0,0)) from a1);clear a1 a2;go_simp
        clear cc cf;refine hK.out _ _ ?_ (fun hHeld=>?_)
        ·try dsimp only
         exact za SJ _ (za F)
        clear hK K;refine hP ?_;refine wpAnyH_done (by kernel_rfl) ?_ _;have IV:=zaa (show GpI x.ver C x.ps V (j+1) (U6.setCell ⟨C,2,none⟩ (.slice tp6 (j+1) tc6)) from⟨tp6,tc6,_,by rw[List.map_append,za LP,za TK];rfl,by rw[List.length_append,za LJ];rfl,za O6,za HC,za F⟩);generalize U6.setCell ⟨C,2,none⟩ (.slice tp6 (j+1) tc6)=U7 at *;clear F HC O6 OT hHeld;have hln:=za LN
        go_wp2
        exact⟨⟨j+1,by have:=za HJ;omega,by go_num,IV⟩,by have:=za HJ;simp[intOf];omega⟩
       exact AllReadyH.nil
      exact AllReadyH.nil
     exact AllReadyH.nil
    refine AllReadyH.cons rfl (fun K hK=>?_) ?_
    ·refine za6 rfl 35 rfl nm a' ts.length c' rfl ?_;intro B5 U5 hE hEn hb;have HB5:=zaa hEn;have HC:=zaa (zac hb (za HC));have OW:=zaa ((za OW).later hb);have OT:=zaa (zay (za OT) hb);have F:=zaa (zag (za F) (hb.mono (za F).size));clear hE hEn hb;refine hK.out _ _ ?_ (fun hHeld=>?_)
     ·try dsimp only
      exact za SJ _ (za F)
     clear hK K;refine hP ?_;refine wpAnyH_ready (rs:=[1]) (by kernel_rfl) (by simp) ?_;refine AllReadyH.cons rfl (fun K hK=>?_) ?_
     ·have cc:=zab (za HC) 2 _ rfl;go_simp
      clear cc;refine hK.out _ _ ?_ (fun hHeld=>?_)
      ·try dsimp only
       exact za SJ _ (za F)
      clear hK K;refine hP ?_;refine wpAnyH_ready (rs:=[10]) (by kernel_rfl) (by simp) ?_;refine AllReadyH.cons rfl (fun K hK=>?_) ?_
      ·refine zb1 rfl (.tmp 28) (.tmp 36) rfl V.heap.size tp j tc (l.map Pq.pr) rfl (by rw[List.length_map];exact za LJ) (za OW).row B5 ⟨nm,a',ts.length,c'⟩ rfl (za HB5) (by have:=za LN;omega) (za F).size ?_;intro tp6 tc6 U6 ho hg;have hb:=(za OW).below hg (za F).size;have O6:=zaa ((za OW).push ⟨⟨nm,ts⟩,a',c'⟩ (za OT) ho hg);have HC:=zaa ((hb.block C (za CV)).trans (za HC));have F:=zaa (zag (za F) hb);clear ho hb hg;refine hK.out _ _ ?_ (fun hHeld=>?_)
       ·try dsimp only
        exact za SJ _ (za F)
       clear hK K;refine hP ?_;refine hT 11 ?_;refine wpAnyH_ready (rs:=[12]) (by kernel_rfl) (by simp) ?_;refine AllReadyH.cons rfl (fun K hK=>?_) ?_
       ·have cc:=zab (za HC) 2 _ rfl;have cf:U6.frozen? ⟨C,2,none⟩=false:=by simp[World.frozen?,za HC]
        have a1:=heap_setCell_same U6 C 2 _ 45 (.slice tp6 (j+1) tc6) (za HC);have a2:=zb U6 C 2 (.slice tp6 (j+1) tc6);have O6:=zaa ((za O6).other (w':=U6.setCell ⟨C,2,none⟩ (.slice tp6 (j+1) tc6)) a2 (za HC) (by decide) (by decide));have F:=zaa (zaq (za F) a2);have HC:=zaa (show(U6.setCell ⟨C,2,none⟩ (.slice tp6 (j+1) tc6)).heap[C]? = some (.cells #[.int .i64 x.ver,.slice none 0 0,.slice tp6 (j+1) tc6] 45 (0,0)) from a1);clear a1 a2;go_simp
        clear cc cf;refine hK.out _ _ ?_ (fun hHeld=>?_)
        ·try dsimp only
         exact za SJ _ (za F)
        clear hK K;refine hP ?_;refine wpAnyH_done (by kernel_rfl) ?_ _;have IV:=zaa (show GpI x.ver C x.ps V (j+1) (U6.setCell ⟨C,2,none⟩ (.slice tp6 (j+1) tc6)) from⟨tp6,tc6,_,by rw[List.map_append,za LP,za TK];rfl,by rw[List.length_append,za LJ];rfl,za O6,za HC,za F⟩);generalize U6.setCell ⟨C,2,none⟩ (.slice tp6 (j+1) tc6)=U7 at *;clear F HC O6 OT hHeld;have hln:=za LN
        go_wp2
        exact⟨⟨j+1,by have:=za HJ;omega,by go_num,IV⟩,by have:=za HJ;simp[intOf];omega⟩
       exact AllReadyH.nil
      exact AllReadyH.nil
     exact AllReadyH.nil
    exact AllReadyH.nil
   exact AllReadyH.nil
  ·as_aux_lemma =>
   have hjj:¬ (j:Int)<(n:Int):=by omega
   have hjn2:n=j:=by omega
   subst hjn2;have hb2:=(za FB) _ (za FW);have s3:=zaa (s.later hb2);have e2:=(za s3).cell.2.2.1;have KP:=zaa (zm6 h.R wr)
   go_wp2_with fail
   refine(za KP).mono ?_;rintro e U ⟨rfl,rfl⟩
   go_wp2_with fail
   have BA:=zaa (show Below wr.heap.size wr (wr.alloc (.cells #[.map (some h.R)] 76)) from(Below.refl _ _).alloc (Nat.le_refl _) _);have SP:=zaa (zkp (w:=wr.alloc (.cells #[.map (some h.R)] 76)) ((za s3).rm.later (za BA)) (Bm:=wr.heap.size) (by simp) (zab (zad wr _) 0 _ rfl) (by have:=hx.t.rn;rw[Sm.fr_length];simpa [Sm.cf] using this));refine(za SP).mono ?_;rintro e V2 ⟨rp,rc,rfl,hO,hb⟩;rw[Sm.fr_length] at *;have PO:=zaa hO;have B3:=zaa ((za BA).trans (hb.mono (za BA).size));clear hO hb KP SP e2 BA;have XC:=zaa (zac (za B3) (za HC));have OQ:=zaa ((za OW).later (za B3));have CV2:=zaa (show C<V2.heap.size from(Array.getElem?_eq_some_iff.1 (za XC)).1);have CW:=zaa (show w.heap.size+1=C from za HCw);have FB2:=zaa (show ∀ W:World,V2.grownBy W (some C)→Below w.heap.size w W from fun W hg=>(hb2.trans ((za B3).mono hb2.size)).grown hg (by have:=hb2.size;have:=(za B3).size;omega) (fun g e=>by have:=Option.some.inj e;have:=za CW;omega))
   have RES:=zaa (show ∀ W:World,V2.grownBy W (some C)→W.heap[w.heap.size]? = some (.cells #[.int .i64 0,.slice none 0 0,.slice none 0 0] 45 (0,0)) from fun W hg=>by
    have h1:=zac (za BV) (za X1);have h2:=((za FW).block w.heap.size (Array.getElem?_eq_some_iff.1 h1).1 (fun e=>by have:=Option.some.inj e;have:=za CW;omega)).trans h1;have h3:=zac (za B3) h2
    exact(hg.block w.heap.size (Array.getElem?_eq_some_iff.1 h3).1 (fun e=>by have:=Option.some.inj e;have:=za CW;omega)).trans h3)
   have SS12:=zaa (show ∀ W:World,V2.grownBy W (some C)→∀ r∈x.rs,W.cell? ⟨h.S,2,none⟩=some (.map (some h.R))∧(Instr.lookup 76 (.map (some h.R)) (.agg #[.string r.h,.string r.p]) false).run Tryz.prog W=.ok (zdi r) W from fun W hg r hr=>by
    have st:=s.later (za FB2 W hg);have hm:((r.h,r.p),zdi r)∈x.fr:=List.mem_map.2 ⟨r,hr,rfl⟩
    exact⟨st.cell.2.2.1,(st.rm.look_yes zli (zjd W) (k:=(r.h,r.p)) (v:=zdi r) (st.rm.rise.get hm)).2⟩)
   have LM:=zaa (show x.rs.length≤1000 by have:=hx.t.rn;simpa [Sm.cf] using this);have Z0:=zaa (show GrI x.ver C x.rs (.slice tp n tc) V2 0 V2 from⟨none,0,V2.ownsRow_nil _ _ _,za XC,zbk _ _⟩);generalize hm:x.rs.length=m at *;have HM:=zaa hm;have XC2:=zaa (za XC);clear hm XC hb2
   go_wp2_with fail
   obtain⟨wq,hwq⟩:∃ wq:World,wq=wr:=⟨_,rfl⟩
   subst hwq;go_loopw [7,47] (fun _ i wr2=>∃ j:Nat,j≤m∧i=.int .i64 (j:Int)∧Hid (GrI x.ver C x.rs (.slice tp n tc) V2 j wr2)) (fun _ i _=>m - (intOf i).toNat)
   case atStart=>exact⟨0,by omega,rfl,Z0⟩
   case round =>
    obtain⟨j,hj,rfl,IV⟩:=hrel;obtain⟨sp2,sc2,hOW,hHC,hF⟩:=za IV;have OW2:=zaa hOW;have HC2:=zaa hHC;have FW2:=zaa hF;clear hOW hHC hF IV;by_cases hjm:j<m
    ·as_aux_lemma =>
     have HJ:=zaa hjm;have y0:(0:Int)≤(j:Int):=by omega
     have y1:(j:Int)<(m:Int):=by omega
     have hjl:j<x.rs.length:=by rw[za HM];exact hjm
     have PM:=zaa (List.getElem_mem hjl);have TK:=zaa (show x.rs.take (j+1)=x.rs.take j++[x.rs[j]] from by rw[List.take_succ_eq_append_getElem hjl]);obtain⟨g,rfl,hg1,hg2,hq⟩:=(za PO).cell j (by simpa [Sm.fr] using hjl);have q:=hq wr ((za FW2).block g hg2 (fun e=>by have:=Option.some.inj e;have:=za CV;have:=(za FW).size;simp at hg1;omega));have q0:wr.cell? ⟨g,j*2,none⟩=some (.string x.rs[j].h):=by simpa [Sm.fr] using q.1
     have q1:wr.cell? ⟨g,j*2+1,none⟩=some (.string x.rs[j].p):=by simpa [Sm.fr] using q.2
     have LT:=zaa (show(x.rs.take j).length=j by rw[List.length_take];omega);generalize x.rs[j]=r at *;obtain⟨rh,rp2,rl⟩:=r;have SJ:=zaa (fun W hg=>za SS12 W hg _ (za PM));simp only[zdi] at SJ q0 q1;clear hq q
     go_wp2_with fail
     have bK:=zaa (show Below wr.heap.size wr (wr.alloc (.cells #[.string rh,.string rp2] 89)) from(Below.refl _ _).alloc (Nat.le_refl _) _);have XK:=zaa (zad wr (.cells #[.string rh,.string rp2] 89));have OW3:=zaa (zay (za OW2) (za bK));have HC3:=zaa (zac (za bK) (za HC2));have F3:=zaa (zag (za FW2) ((za bK).mono (za FW2).size));have KW:=zaa (show V2.heap.size≤wr.heap.size from(za FW2).size);generalize hK:wr.heap.size=KB at *;generalize wr.alloc (.cells #[.string rh,.string rp2] 89)=W3 at *;have W3K:=zaa (show KB<W3.heap.size from(Array.getElem?_eq_some_iff.1 (za XK)).1);clear q0 q1 y0 y1 OW2 HC2 bK;have F:=zaa (show V2.grownBy W3.drew (some C) from zag (za F3) (Below.refl _ _).drew);have G:=zaa (show W3.grownBy W3.drew (some C) from zag (zbk _ _) (Below.refl _ _).drew);have OW:=zaa (show zer V2.heap.size W3.drew sp2 sc2 (x.rs.take j) from zay (za OW3) (Below.refl _ _).drew);have HC:=zaa (show W3.drew.heap[C]? = some (.cells #[.int .i64 x.ver,.slice sp2 j sc2,.slice tp n tc] 45 (0,0)) from za HC3)
     have KK:=zaa (show ∀ W:World,W3.grownBy W (some C)→W.cell? ⟨KB,0,none⟩=some (.string rh)∧W.cell? ⟨KB,1,none⟩=some (.string rp2) from fun W hg=>by
      have hk:=(hg.block KB (za W3K) (fun e=>by have:=Option.some.inj e;have:=za CV2;have:=za KW;omega)).trans (za XK)
      exact⟨zab hk 0 _ rfl,zab hk 1 _ rfl⟩)
     clear FW2 F3 OW3 HC3;refine wp_region_held_drew (S:=fun w'=>w'.cell? ⟨h.S,2,none⟩=some (.map (some h.R))∧(Instr.lookup 76 (.map (some h.R)) (.agg #[.string rh,.string rp2]) false).run Tryz.prog w'=.ok (.agg #[.string rh,.string rp2,.string rl]) w'∧w'.cell? ⟨KB,0,none⟩=some (.string rh)∧w'.cell? ⟨KB,1,none⟩=some (.string rp2)) (by kernel_rfl) ?_ (fun hHeld=>?_)
     ·try dsimp only
      first|exact⟨(za SJ _ (za F)).1,(za SJ _ (za F)).2,(za KK _ (za G)).1,(za KK _ (za G)).2⟩|exact⟨(za SJ _ (za F)).1,(za SJ _ (za F)).2,(za KC).1,(za KC).2⟩
     refine hT 0 ?_;refine hT 2 ?_;refine hT 3 ?_;refine hT 4 ?_;refine hT 5 ?_;refine hT 6 ?_;refine hT 7 ?_;refine wpAnyH_ready (rs:=[1,8]) (by kernel_rfl) (by simp) ?_;refine AllReadyH.cons rfl (fun K hK=>?_) ?_
     ·have cc:=zab (za HC) 1 _ rfl;go_simp
      clear cc;refine hK.out _ _ ?_ (fun hHeld=>?_)
      ·try dsimp only
       first|exact⟨(za SJ _ (za F)).1,(za SJ _ (za F)).2,(za KK _ (za G)).1,(za KK _ (za G)).2⟩|exact⟨(za SJ _ (za F)).1,(za SJ _ (za F)).2,(za KC).1,(za KC).2⟩
      clear hK K;refine hP ?_;refine wpAnyH_ready (rs:=[8]) (by kernel_rfl) (by simp) ?_;refine AllReadyH.cons rfl (fun K hK=>?_) ?_
      ·refine zee rfl 58 rfl ⟨rh,rp2,rl⟩ rfl ?_;intro B5 U5 hE hEn hb;have HB5:=zaa hEn;have HC:=zaa (zac hb (za HC));have OW:=zaa (zay (za OW) hb);have F:=zaa (zag (za F) (hb.mono (za F).size));have G:=zaa (zag (za G) (hb.mono (za G).size));clear hE hEn hb;refine hK.out _ _ ?_ (fun hHeld=>?_)
       ·try dsimp only
        first|exact⟨(za SJ _ (za F)).1,(za SJ _ (za F)).2,(za KK _ (za G)).1,(za KK _ (za G)).2⟩|exact⟨(za SJ _ (za F)).1,(za SJ _ (za F)).2,(za KC).1,(za KC).2⟩
       clear hK K;refine hP ?_;refine wpAnyH_ready (rs:=[9]) (by kernel_rfl) (by simp) ?_;refine AllReadyH.cons rfl (fun K hK=>?_) ?_
       ·refine zci rfl (.tmp 52) (.tmp 59) rfl V2.heap.size sp2 j sc2 (x.rs.take j) rfl (za LT) (za OW) B5 ⟨rh,rp2,rl⟩ rfl (za HB5) (by have:=za LM;omega) (za F).size ?_;intro tp6 tc6 U6 ho hg;have hb:Below V2.heap.size U5 U6:=by
         cases hbk:blk sp2 with
         |none=>rw[hbk] at hg;exact⟨hg.os,hg.tape,hg.output,hg.size,fun g hgl=>hg.block g (Nat.lt_of_lt_of_le hgl (za F).size) (by simp)⟩
         |some r =>
          rw[hbk] at hg;have:=(zdf (za OW) hbk).1;exact⟨hg.os,hg.tape,hg.output,hg.size,fun g hgl=>hg.block g (Nat.lt_of_lt_of_le hgl (za F).size) (by intro e;have:=Option.some.inj e;omega)⟩
        have hk6:U6.heap[KB]? = U5.heap[KB]?:=by
         have hK5:U5.heap[KB]? = some (.cells #[.string rh,.string rp2] 89 (0,0)):=((za G).block KB (za W3K) (fun e=>by have:=Option.some.inj e;have:=za CV2;have:=za KW;omega)).trans (za XK);cases hbk:blk sp2 with
         |none=>rw[hbk] at hg;exact hg.block KB (Array.getElem?_eq_some_iff.1 hK5).1 (by simp)
         |some r =>
          rw[hbk] at hg;obtain⟨_,cur,hr⟩:=zdf (za OW) hbk
          exact hg.block KB (Array.getElem?_eq_some_iff.1 hK5).1 (fun e=>by
           rw[Option.some.inj e,hr] at hK5;simp only[Option.some.injEq,Obj.cells.injEq] at hK5
           exact absurd hK5.2.1 (by decide))
        have NK:=zaa (show C≠KB by have:=za CV2;have:=za KW;omega);have KC:=zaa (show U6.cell? ⟨KB,0,none⟩=some (.string rh)∧U6.cell? ⟨KB,1,none⟩=some (.string rp2) from⟨(World.cell?_of_block hk6).trans (za KK _ (za G)).1,(World.cell?_of_block hk6).trans (za KK _ (za G)).2⟩);have O6:=zaa ho;have HC:=zaa ((hb.block C (za CV2)).trans (za HC));have F:=zaa (zag (za F) hb);clear ho hb hg hk6;refine hK.out _ _ ?_ (fun hHeld=>?_)
        ·try dsimp only
         first|exact⟨(za SJ _ (za F)).1,(za SJ _ (za F)).2,(za KK _ (za G)).1,(za KK _ (za G)).2⟩|exact⟨(za SJ _ (za F)).1,(za SJ _ (za F)).2,(za KC).1,(za KC).2⟩
        clear hK K;refine hP ?_;refine hT 10 ?_;refine wpAnyH_ready (rs:=[11]) (by kernel_rfl) (by simp) ?_;refine AllReadyH.cons rfl (fun K hK=>?_) ?_
        ·have cc:=zab (za HC) 1 _ rfl;have cf:U6.frozen? ⟨C,1,none⟩=false:=by simp[World.frozen?,za HC]
         have a1:=heap_setCell_same U6 C 1 _ 45 (.slice tp6 (j+1) tc6) (za HC);have a2:=zb U6 C 1 (.slice tp6 (j+1) tc6);have O6:=zaa (zcq (w':=U6.setCell ⟨C,1,none⟩ (.slice tp6 (j+1) tc6)) (za O6) a2 (za HC) (by decide));have F:=zaa (zaq (za F) a2);have KC:=zaa (show(U6.setCell ⟨C,1,none⟩ (.slice tp6 (j+1) tc6)).cell? ⟨KB,0,none⟩=some (.string rh)∧(U6.setCell ⟨C,1,none⟩ (.slice tp6 (j+1) tc6)).cell? ⟨KB,1,none⟩=some (.string rp2) from⟨(zc7 _ _ (za NK).symm).trans (za KC).1,(zc7 _ _ (za NK).symm).trans (za KC).2⟩);have HC:=zaa (show(U6.setCell ⟨C,1,none⟩ (.slice tp6 (j+1) tc6)).heap[C]? = some (.cells #[.int .i64 x.ver,.slice tp6 (j+1) tc6,.slice tp n tc] 45 (0,0)) from a1);clear a1 a2;go_simp
         clear cc cf;refine hK.out _ _ ?_ (fun hHeld=>?_)
         ·try dsimp only
          first|exact⟨(za SJ _ (za F)).1,(za SJ _ (za F)).2,(za KK _ (za G)).1,(za KK _ (za G)).2⟩|exact⟨(za SJ _ (za F)).1,(za SJ _ (za F)).2,(za KC).1,(za KC).2⟩
         clear hK K;refine hP ?_;refine wpAnyH_done (by kernel_rfl) ?_ _;have IV:=zaa (show GrI x.ver C x.rs (.slice tp n tc) V2 (j+1) (U6.setCell ⟨C,1,none⟩ (.slice tp6 (j+1) tc6)) from⟨tp6,tc6,by rw[za TK];exact za O6,za HC,za F⟩);generalize U6.setCell ⟨C,1,none⟩ (.slice tp6 (j+1) tc6)=U7 at *;clear F HC O6 hHeld;have hln:=za LM
         go_wp2
         exact⟨⟨j+1,by have:=za HJ;omega,by go_num,IV⟩,by have:=za HJ;simp[intOf];omega⟩
        exact AllReadyH.nil
       exact AllReadyH.nil
      exact AllReadyH.nil
     refine AllReadyH.cons rfl (fun K hK=>?_) ?_
     ·refine zee rfl 58 rfl ⟨rh,rp2,rl⟩ rfl ?_;intro B5 U5 hE hEn hb;have HB5:=zaa hEn;have HC:=zaa (zac hb (za HC));have OW:=zaa (zay (za OW) hb);have F:=zaa (zag (za F) (hb.mono (za F).size));have G:=zaa (zag (za G) (hb.mono (za G).size));clear hE hEn hb;refine hK.out _ _ ?_ (fun hHeld=>?_)
      ·try dsimp only
       first|exact⟨(za SJ _ (za F)).1,(za SJ _ (za F)).2,(za KK _ (za G)).1,(za KK _ (za G)).2⟩|exact⟨(za SJ _ (za F)).1,(za SJ _ (za F)).2,(za KC).1,(za KC).2⟩
      clear hK K;refine hP ?_;refine wpAnyH_ready (rs:=[1]) (by kernel_rfl) (by simp) ?_;refine AllReadyH.cons rfl (fun K hK=>?_) ?_
      ·have cc:=zab (za HC) 1 _ rfl;go_simp
       clear cc;refine hK.out _ _ ?_ (fun hHeld=>?_)
       ·try dsimp only
        first|exact⟨(za SJ _ (za F)).1,(za SJ _ (za F)).2,(za KK _ (za G)).1,(za KK _ (za G)).2⟩|exact⟨(za SJ _ (za F)).1,(za SJ _ (za F)).2,(za KC).1,(za KC).2⟩
       clear hK K;refine hP ?_;refine wpAnyH_ready (rs:=[9]) (by kernel_rfl) (by simp) ?_;refine AllReadyH.cons rfl (fun K hK=>?_) ?_
       ·refine zci rfl (.tmp 52) (.tmp 59) rfl V2.heap.size sp2 j sc2 (x.rs.take j) rfl (za LT) (za OW) B5 ⟨rh,rp2,rl⟩ rfl (za HB5) (by have:=za LM;omega) (za F).size ?_;intro tp6 tc6 U6 ho hg;have hb:Below V2.heap.size U5 U6:=by
         cases hbk:blk sp2 with
         |none=>rw[hbk] at hg;exact⟨hg.os,hg.tape,hg.output,hg.size,fun g hgl=>hg.block g (Nat.lt_of_lt_of_le hgl (za F).size) (by simp)⟩
         |some r =>
          rw[hbk] at hg;have:=(zdf (za OW) hbk).1;exact⟨hg.os,hg.tape,hg.output,hg.size,fun g hgl=>hg.block g (Nat.lt_of_lt_of_le hgl (za F).size) (by intro e;have:=Option.some.inj e;omega)⟩
        have hk6:U6.heap[KB]? = U5.heap[KB]?:=by
         have hK5:U5.heap[KB]? = some (.cells #[.string rh,.string rp2] 89 (0,0)):=((za G).block KB (za W3K) (fun e=>by have:=Option.some.inj e;have:=za CV2;have:=za KW;omega)).trans (za XK);cases hbk:blk sp2 with
         |none=>rw[hbk] at hg;exact hg.block KB (Array.getElem?_eq_some_iff.1 hK5).1 (by simp)
         |some r =>
          rw[hbk] at hg;obtain⟨_,cur,hr⟩:=zdf (za OW) hbk
          exact hg.block KB (Array.getElem?_eq_some_iff.1 hK5).1 (fun e=>by
           rw[Option.some.inj e,hr] at hK5;simp only[Option.some.injEq,Obj.cells.injEq] at hK5
           exact absurd hK5.2.1 (by decide))
        have NK:=zaa (show C≠KB by have:=za CV2;have:=za KW;omega);have KC:=zaa (show U6.cell? ⟨KB,0,none⟩=some (.string rh)∧U6.cell? ⟨KB,1,none⟩=some (.string rp2) from⟨(World.cell?_of_block hk6).trans (za KK _ (za G)).1,(World.cell?_of_block hk6).trans (za KK _ (za G)).2⟩);have O6:=zaa ho;have HC:=zaa ((hb.block C (za CV2)).trans (za HC));have F:=zaa (zag (za F) hb);clear ho hb hg hk6;refine hK.out _ _ ?_ (fun hHeld=>?_)
        ·try dsimp only
         first|exact⟨(za SJ _ (za F)).1,(za SJ _ (za F)).2,(za KK _ (za G)).1,(za KK _ (za G)).2⟩|exact⟨(za SJ _ (za F)).1,(za SJ _ (za F)).2,(za KC).1,(za KC).2⟩
        clear hK K;refine hP ?_;refine hT 10 ?_;refine wpAnyH_ready (rs:=[11]) (by kernel_rfl) (by simp) ?_;refine AllReadyH.cons rfl (fun K hK=>?_) ?_
        ·have cc:=zab (za HC) 1 _ rfl;have cf:U6.frozen? ⟨C,1,none⟩=false:=by simp[World.frozen?,za HC]
         have a1:=heap_setCell_same U6 C 1 _ 45 (.slice tp6 (j+1) tc6) (za HC);have a2:=zb U6 C 1 (.slice tp6 (j+1) tc6);have O6:=zaa (zcq (w':=U6.setCell ⟨C,1,none⟩ (.slice tp6 (j+1) tc6)) (za O6) a2 (za HC) (by decide));have F:=zaa (zaq (za F) a2);have KC:=zaa (show(U6.setCell ⟨C,1,none⟩ (.slice tp6 (j+1) tc6)).cell? ⟨KB,0,none⟩=some (.string rh)∧(U6.setCell ⟨C,1,none⟩ (.slice tp6 (j+1) tc6)).cell? ⟨KB,1,none⟩=some (.string rp2) from⟨(zc7 _ _ (za NK).symm).trans (za KC).1,(zc7 _ _ (za NK).symm).trans (za KC).2⟩);have HC:=zaa (show(U6.setCell ⟨C,1,none⟩ (.slice tp6 (j+1) tc6)).heap[C]? = some (.cells #[.int .i64 x.ver,.slice tp6 (j+1) tc6,.slice tp n tc] 45 (0,0)) from a1);clear a1 a2;go_simp
         clear cc cf;refine hK.out _ _ ?_ (fun hHeld=>?_)
         ·try dsimp only
          first|exact⟨(za SJ _ (za F)).1,(za SJ _ (za F)).2,(za KK _ (za G)).1,(za KK _ (za G)).2⟩|exact⟨(za SJ _ (za F)).1,(za SJ _ (za F)).2,(za KC).1,(za KC).2⟩
         clear hK K;refine hP ?_;refine wpAnyH_done (by kernel_rfl) ?_ _;have IV:=zaa (show GrI x.ver C x.rs (.slice tp n tc) V2 (j+1) (U6.setCell ⟨C,1,none⟩ (.slice tp6 (j+1) tc6)) from⟨tp6,tc6,by rw[za TK];exact za O6,za HC,za F⟩);generalize U6.setCell ⟨C,1,none⟩ (.slice tp6 (j+1) tc6)=U7 at *;clear F HC O6 hHeld;have hln:=za LM
         go_wp2
         exact⟨⟨j+1,by have:=za HJ;omega,by go_num,IV⟩,by have:=za HJ;simp[intOf];omega⟩
        exact AllReadyH.nil
       exact AllReadyH.nil
      exact AllReadyH.nil
     exact AllReadyH.nil
    ·as_aux_lemma =>
     have hjj:¬ (j:Int)<(m:Int):=by omega
     have hjn2:m=j:=by omega
     subst hjn2;have e0:=zab (za HC2) 0 _ rfl;have e1:=zab (za HC2) 1 _ rfl;have e2:=zab (za HC2) 2 _ rfl;have XD:=zaa (za RES _ (za FW2));have z0:=zab (za XD) 0 _ rfl;have z1:=zab (za XD) 1 _ rfl;have z2:=zab (za XD) 2 _ rfl;have f0:wr.frozen? ⟨w.heap.size,0,none⟩=false:=by simp[World.frozen?,za XD]
     have f1:wr.frozen? ⟨w.heap.size,1,none⟩=false:=by simp[World.frozen?,za XD]
     have f2:wr.frozen? ⟨w.heap.size,2,none⟩=false:=by simp[World.frozen?,za XD]
     obtain⟨a1,a2⟩:=zps (x:=.int .i64 x.ver) (y:=.slice sp2 m sc2) (z:=.slice tp n tc) (za XD);have A1:=zaa a1;have A2:=zaa a2;clear a1 a2
     go_wp2
     generalize (((wr.setCell ⟨w.heap.size,0,none⟩ (.int .i64 x.ver)).setCell ⟨w.heap.size,1,none⟩ (.slice sp2 m sc2)).setCell ⟨w.heap.size,2,none⟩ (.slice tp n tc))=W9 at *;clear z0 z1 z2 f0 f1 f2 e0 e1 e2;have g0:W9.cell? ⟨w.heap.size,0,none⟩=some (.int .i64 x.ver):=zab (za A1) 0 _ rfl;have g1:W9.cell? ⟨w.heap.size,1,none⟩=some (.slice sp2 m sc2):=zab (za A1) 1 _ rfl;have g2:W9.cell? ⟨w.heap.size,2,none⟩=some (.slice tp n tc):=zab (za A1) 2 _ rfl;have hpo:List.map Pq.po l=x.ps.map Pq.po:=by rw[za LP,List.take_of_length_le (by rw[List.length_map,za HN];exact Nat.le_refl _)]
     have hrs:x.rs.take m=x.rs:=List.take_of_length_le (by rw[za HM];exact Nat.le_refl _);have hlow:w.heap.size≤V.heap.size:=by have:=za CV;have:=za CW;omega
     have hlow2:V.heap.size≤V2.heap.size:=Nat.le_trans (za FW).size (za B3).size;have hq9:=((za OQ).other (za FW2) (za XC2) (by decide) (by decide)).other (za A2) (za XD) (by decide) (by decide);have hr9:=za OW2;rw[hrs] at hr9;have hr9:zer V2.heap.size W9 sp2 sc2 x.rs:=zcq hr9 (za A2) (za XD) (by decide)
     obtain⟨hpos,hpc⟩:=hq9.at_ (fun y hy=>by
      have hy2:y.po∈x.ps.map Pq.po:=by rw[← hpo];exact List.mem_map_of_mem hy
      obtain⟨z,hz,e⟩:=List.mem_map.1 hy2;have hT:=(s.tg z hz).lt;have hl:=(hx.t.ps z.po (by simp only[Sm.cf];exact List.mem_map_of_mem hz)).2.1;rw[e] at hT hl
      exact⟨hT,by simp only[maxLen];omega⟩)
     rw[hpo] at hpos;obtain⟨hrt,hrc,hrz⟩:=hr9.at_ (fun r hr=>by have:=hx.t.rs r (by simpa [Sm.cf] using hr);simp only[maxLen];omega);have hn:=za HN;have hm:=za HM;have hlj:=za LJ;have HB:=(za FB2 _ (za FW2)).grown (za A2) (za FB2 _ (za FW2)).size (fun g e=>by have:=Option.some.inj e;omega);refine bodyPost_ret (v:=.agg #[.int .i64 x.ver,.slice sp2 m sc2,.slice tp n tc]) (by simp[results,Tryz.results19,go_sem,g0,g1,g2]) rfl ⟨⟨sp2,sc2,tp,tc⟩,by rw[← hn,← hm];simp[zcw,Sm.cf],⟨hx.ver,hrt,hpos,⟨?_,?_⟩,⟨?_,?_⟩,hrz⟩,HB,⟨l,hq9.low hlow,hpo⟩,hr9.low (Nat.le_trans hlow hlow2)⟩
     ·have:=za LM;simp only[Sm.cf,maxLen];omega
     ·simpa [Sm.cf] using hrc
     ·have:=za LN;simp only[Sm.cf,maxLen,List.length_map];omega
     ·simp only[Sm.cf,List.length_map];omega
end Go.Proofs.YtjcjleaicjhpeaaGreatDoor
