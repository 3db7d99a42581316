/- Conf: putPool. -/
import Derived.Test.YtjcjleaicjhpeaaGreatDoorB15
set_option linter.unusedVariables false
set_option maxRecDepth 20000
set_option maxHeartbeats 16000000
namespace Go.Proofs.YtjcjleaicjhpeaaGreatDoor
open Go.ChangeShapes Go.WideShapes Go.ChangeAt Go.RowKit
def zfz (q:Pq) (x:Sm):Int×Sm:=match za9 qnm q.po.nm x.ps with
 |none=>if 32≤x.ps.length then (6,x) else if ((zav x.cf).length:Int)+((za7 q.po).length:Int)≤12000 then (0,{ x with ps:=zev qnm q x.ps }) else (6,x)
 |some o=>if ((zav x.cf).length:Int)+(((za7 q.po).length:Int) - ((za7 o.po).length:Int))≤12000 then (0,{ x with ps:=zev qnm q x.ps }) else (6,x)
theorem zn6 {w:World} {a:Option Addr} {nm:ByteArray} {ts:List Tgt} (hTs:TgsAt w a ts) (mc:Nat) (hnm:nm.size≤1000000) (hts:ts.length≤100∧∀ t∈ts,t.1.size≤1000000) :
  Calls Tryz.prog 92 #[.slice none 0 0,.agg #[.string nm,.slice a ts.length mc]] w fun e w'=>∃ sp' c',e=.returned (.slice sp' (za7 ⟨nm,ts⟩).length c')∧Below w.heap.size w w':=by
 refine(zj4 w.heap.size hTs (Below.refl _ _) (Nat.le_refl _) (sp:=none) (n0:=0) (c:=0) (l:=[]) rfl (OwnB.ofNil _ _) ts.length mc rfl hnm hts.2 (by simp only[List.length_nil];have:=Nat.mul_le_mul_left 1000014 hts.1;omega) (by omega) (Nat.le_refl _)).mono ?_;rintro e w' ⟨s1,n1,c1,rfl,h1,h2,h3⟩;have h4:=za h1;rw[List.nil_append] at h4;exact⟨s1,c1,by rw[h4],h3.below (OwnB.ofNil _ _) (Nat.le_refl _)⟩
theorem zgh {w:World} {h:StH} {x:Sm} (s:StAt w h x) (hx:SmOk x) (nm:ByteArray) (ts:List Tgt) (a:Option Addr) (mc:Nat) (hTs:TgsAt w a ts) (hnm:nm.size≤1000000) (hts:ts.length≤100∧∀ t∈ts,t.1.size≤1000000) :
  Calls Tryz.prog 138 #[.pointer (some ⟨h.S,0,none⟩),.agg #[.string nm,.slice a ts.length mc]] w fun e w'=>e=.returned (.int .i64 (zfz ⟨⟨nm,ts⟩,a,mc⟩ x).1)∧StAt w' h (zfz ⟨⟨nm,ts⟩,a,mc⟩ x).2∧Chg h w w':=by
 have b1:=zaa (show Below w.heap.size w (w.alloc (.cells #[.string nm,.slice a ts.length mc] 54)) from(Below.refl _ _).alloc (Nat.le_refl _) _);have X1:=zaa (zad w (.cells #[.string nm,.slice a ts.length mc] 54));have hpn:x.ps.length≤1000:=by have:=hx.t.pn;simpa [Sm.cf] using this
 have SS:=zaa (show ∀ W:World,Below (w.alloc (.cells #[.string nm,.slice a ts.length mc] 54)).heap.size (w.alloc (.cells #[.string nm,.slice a ts.length mc] 54)) W→W.cell? ⟨h.S,1,none⟩=some (.map (some h.P))∧W.cell? ⟨w.heap.size,0,none⟩=some (.string nm)∧W.cell? ⟨w.heap.size,1,none⟩=some (.slice a ts.length mc)∧(Instr.lookup 75 (.map (some h.P)) (.string nm) true).run Tryz.prog W=.ok (.tuple #[pqV ((za9 qnm nm x.ps).getD ⟨⟨⟨#[]⟩,[]⟩,none,0⟩),.bool (za9 qnm nm x.ps).isSome]) W∧∀ ty,(Builtin.len_ #[75] ty #[.map (some h.P)]).run Tryz.prog W=.ok (.int .i64 (x.ps.length:Int)) W from fun W hb=>by
  have st:=s.later ((za b1).trans (hb.mono (za b1).size));have hk:=zac hb (za X1)
  exact⟨st.cell.2.1,zab hk 0 _ rfl,zab hk 1 _ rfl,zr7 st nm (by simp only[maxLen];omega),fun ty=>by have:=st.pm.len zpf ty;rwa [Sm.fp_length] at this⟩)
 have DR:=zaa (show zfz ⟨⟨nm,ts⟩,a,mc⟩ x=(match za9 qnm nm x.ps with
  |none=>if 32≤x.ps.length then (6,x) else if ((zav x.cf).length:Int)+((za7 ⟨nm,ts⟩).length:Int)≤12000 then (0,{ x with ps:=zev qnm ⟨⟨nm,ts⟩,a,mc⟩ x.ps }) else (6,x)
  |some o=>if ((zav x.cf).length:Int)+(((za7 ⟨nm,ts⟩).length:Int) - ((za7 o.po).length:Int))≤12000 then (0,{ x with ps:=zev qnm ⟨⟨nm,ts⟩,a,mc⟩ x.ps }) else (6,x)) from rfl)
 have hlp:=ze7 ⟨nm,ts⟩ ⟨hnm,hts⟩
 have GO:=zaa (show ∀ o,za9 qnm nm x.ps=some o→TgsAt w o.ta o.po.ts∧o.po.nm.size≤1000000∧o.po.ts.length≤100∧∀ t∈o.po.ts,t.1.size≤1000000 from fun o ho=>by
  have hm:=(zoa _ _ _ _ ho).1
  exact⟨s.tg o hm,hx.t.ps o.po (by simp only[Sm.cf];exact List.mem_map_of_mem hm)⟩)
 go_enter Tryz.func138,Tryz.ntmps138
 go_wp2_with fail
 generalize hB:w.heap.size=B at *;generalize w.alloc (.cells #[.string nm,.slice a ts.length mc] 54)=V at *;generalize hq:((za9 qnm nm x.ps).getD ⟨⟨⟨#[]⟩,[]⟩,none,0⟩)=q at *;generalize hi:(za9 qnm nm x.ps).isSome=ii at *;have HI:=zaa hi;have HQ:=zaa hq;have F:=zaa (show Below V.heap.size V V.drew from(Below.refl _ _).drew);clear hi hq;obtain⟨⟨qn,qt⟩,qa,qc⟩:=q;simp only[pqV] at SS;refine wp_region_held_drew (S:=fun w'=>w'.cell? ⟨h.S,1,none⟩=some (.map (some h.P))∧w'.cell? ⟨B,0,none⟩=some (.string nm)∧(Instr.lookup 75 (.map (some h.P)) (.string nm) true).run Tryz.prog w'=.ok (.tuple #[.agg #[.string qn,.slice qa qt.length qc],.bool ii]) w') (by kernel_rfl) ?_ (fun hHeld=>?_)
 ·try dsimp only
  exact⟨(za SS _ (za F)).1,(za SS _ (za F)).2.1,(za SS _ (za F)).2.2.2.1⟩
 refine hT 0 ?_;refine hT 1 ?_;refine hT 2 ?_;refine hT 3 ?_;refine hT 4 ?_;refine hT 5 ?_;refine hT 6 ?_;refine hT 7 ?_;refine hT 8 ?_;refine hT 9 ?_;refine wpAnyH_ready (rs:=[10]) (by kernel_rfl) (by simp) ?_;refine AllReadyH.cons rfl (fun K hK=>?_) ?_
 ·refine znz rfl rfl ?_;intro E U hE hEn hb;have LE:=zaa (show V.heap.size≤E by rw[← hE];exact(za F).size);have HE:=zaa hEn;have F:=zaa ((za F).trans (hb.mono (za F).size));clear hE hEn hb;refine hK.out _ _ ?_ (fun hHeld=>?_)
  ·try dsimp only
   exact⟨(za SS _ (za F)).1,(za SS _ (za F)).2.1,(za SS _ (za F)).2.2.2.1⟩
  clear hK K;refine hP ?_;refine wpAnyH_ready (rs:=[11]) (by kernel_rfl) (by simp) ?_;refine AllReadyH.cons rfl (fun K hK=>?_) ?_
  ·have z0:=zab (za HE) 0 _ rfl;have z1:=zab (za HE) 1 _ rfl;have f0:U.frozen? ⟨E,0,none⟩=false:=by simp[World.frozen?,za HE]
   have f1:U.frozen? ⟨E,1,none⟩=false:=by simp[World.frozen?,za HE]
   have a1:=zru (x:=.string qn) (y:=.slice qa qt.length qc) (za HE);have HE2:=zaa a1.1;have F:=zaa ((za F).grown a1.2 (za F).size (fun g e=>by have:=Option.some.inj e;have:=za LE;omega));clear a1;go_simp
   clear z0 z1 f0 f1;refine hK.out _ _ ?_ (fun hHeld=>?_)
   ·try dsimp only
    exact⟨(za SS _ (za F)).1,(za SS _ (za F)).2.1,(za SS _ (za F)).2.2.2.1⟩
   clear hK K;refine hP ?_;refine hT 12 ?_;refine wpAnyH_done (by kernel_rfl) ?_ _;generalize ((U.setCell ⟨E,0,none⟩ (.string qn)).setCell ⟨E,1,none⟩ (.slice qa qt.length qc))=U2 at *;clear hHeld HE LE;have k0:=(za SS _ (za F)).2.1;have k1:=(za SS _ (za F)).2.2.1;have b2:=zaa (show Below w.heap.size w U2 by rw[hB];exact(za b1).trans ((za F).mono (by have:=(za b1).size;omega)));have A1:=zaa (zn6 (hTs.later (za b2)) mc hnm hts)
   go_wp2_with fail
   refine(za A1).mono ?_;rintro e U3 ⟨s3,c3,rfl,hb3⟩;have F3:=zaa ((za F).trans (hb3.mono (za F).size));have b3:=zaa ((za b2).trans (hb3.mono (za b2).size));have HE3:=zaa (zac hb3 (za HE2));clear hb3 A1 k0 k1 F b2 HE2;have m1:=(za SS _ (za F3)).1;have m2:=(za SS _ (za F3)).2.2.2.2;generalize hlv:(za7 ⟨nm,ts⟩).length=lv at *;cases ii with
   |false=>as_aux_lemma =>
    have hg:za9 qnm nm x.ps=none:=by
     have h1:=za HI;cases hg:za9 qnm nm x.ps with
     |none=>rfl
     |some v=>rw[hg] at h1;cases h1
    by_cases h32:32≤x.ps.length
    ·as_aux_lemma =>
     have hd:zfz ⟨⟨nm,ts⟩,a,mc⟩ x=(6,x):=by rw[za DR,hg];simp only[if_pos h32]
     have hc:(32:Int)≤(x.ps.length:Int):=by omega
     have ch:=zaa (Chg.below (h:=h) (za b3));have st3:=zaa (s.later (za b3));clear DR
     go_wp2
     go_ret
     rw[hd];exact⟨rfl,za st3,za ch⟩
    ·as_aux_lemma =>
     have hc:¬ (32:Int)≤(x.ps.length:Int):=by omega
     have b4:=zaa (za b3);have F4:=zaa (za F3);have MG:=zaa (zbz (s.later (za b3)) hx (lv:Int) (by omega));clear b3 F3
     go_wp2_with fail
     refine(za MG).mono ?_;rintro e U5 ⟨rfl,hb5⟩;clear MG m1 m2 hc;cases hmg:decide (((zav x.cf).length:Int)+(lv:Int)≤12000) with
     |false =>
      have hm2:¬ (((zav x.cf).length:Int)+(lv:Int)≤12000):=of_decide_eq_false hmg;have hd:zfz ⟨⟨nm,ts⟩,a,mc⟩ x=(6,x):=by
       rw[za DR,hg];simp only[if_neg h32,if_neg hm2]
      have ch:=zaa (Chg.below (h:=h) ((za b4).trans (hb5.mono (za b4).size)));have st5:=zaa (s.later ((za b4).trans (hb5.mono (za b4).size)));clear DR hb5 hmg hm2
      go_wp2
      go_ret
      rw[hd];exact⟨rfl,za st5,za ch⟩
     |true =>
      have hm2:(((zav x.cf).length:Int)+(lv:Int)≤12000):=of_decide_eq_true hmg;have hd:zfz ⟨⟨nm,ts⟩,a,mc⟩ x=(0,{ x with ps:=zev qnm ⟨⟨nm,ts⟩,a,mc⟩ x.ps }):=by
       rw[za DR,hg];simp only[if_neg h32,if_pos hm2]
      have b5:=zaa ((za b4).trans (hb5.mono (za b4).size));have F5:=zaa ((za F4).trans (hb5.mono (za F4).size));have bD:=zaa (show Below V.heap.size V U5.drew from(za F5).drew);obtain⟨W3,hput,sd,cd⟩:=((s.later (za b5)).later (Below.refl _ _).drew).putP ⟨⟨nm,ts⟩,a,mc⟩ (by simp only[maxLen];omega) ((hTs.later (za b5)).later (Below.refl _ _).drew) hpn;have SD:=zaa sd;have CD:=zaa ((Chg.below (h:=h) (za b5)).trans ((Chg.below (Below.refl _ _).drew).trans cd));simp only at hput;have s3:=(za SS _ (za bD)).1;have s4:=(za SS _ (za bD)).2.1;have s5:=(za SS _ (za bD)).2.2.1;clear sd cd DR hb5 hmg hm2
      go_wp2_with fail
      refine wp_region_held_drew (S:=fun w'=>w'=U5.drew∨w'=W3) (by kernel_rfl) ?_ (fun hHeld=>?_)
      ·try dsimp only
       first|exact .inl rfl|exact .inr rfl
      refine hT 0 ?_;refine hT 1 ?_;refine hT 2 ?_;refine hT 4 ?_;refine wpAnyH_ready (rs:=[3,5,6]) (by kernel_rfl) (by simp) ?_;refine AllReadyH.cons rfl (fun K hK=>?_) ?_
      ·go_simp
       refine hK.out _ _ ?_ (fun hHeld=>?_)
       ·try dsimp only
        first|exact .inl rfl|exact .inr rfl
       clear hK K;refine hP ?_;refine wpAnyH_ready (rs:=[5,6]) (by kernel_rfl) (by simp) ?_;refine AllReadyH.cons rfl (fun K hK=>?_) ?_
       ·go_simp
        refine hK.out _ _ ?_ (fun hHeld=>?_)
        ·try dsimp only
         first|exact .inl rfl|exact .inr rfl
        clear hK K;refine hP ?_;refine wpAnyH_ready (rs:=[6]) (by kernel_rfl) (by simp) ?_;refine AllReadyH.cons rfl (fun K hK=>?_) ?_
        ·go_simp
         refine hK.out _ _ ?_ (fun hHeld=>?_)
         ·try dsimp only
          first|exact .inl rfl|exact .inr rfl
         clear hK K;refine hP ?_;refine wpAnyH_ready (rs:=[7]) (by kernel_rfl) (by simp) ?_;refine AllReadyH.cons rfl (fun K hK=>?_) ?_
         ·go_simp
          refine hK.out _ _ ?_ (fun hHeld=>?_)
          ·try dsimp only
           first|exact .inl rfl|exact .inr rfl
          clear hK K;refine hP ?_;refine wpAnyH_done (by kernel_rfl) ?_ _
          go_wp2
          go_ret
          exact⟨rfl,za SD,za CD⟩
         exact AllReadyH.nil
        exact AllReadyH.nil
       refine AllReadyH.cons rfl (fun K hK=>?_) ?_
       ·go_simp
        refine hK.out _ _ ?_ (fun hHeld=>?_)
        ·try dsimp only
         first|exact .inl rfl|exact .inr rfl
        clear hK K;refine hP ?_;refine wpAnyH_ready (rs:=[5]) (by kernel_rfl) (by simp) ?_;refine AllReadyH.cons rfl (fun K hK=>?_) ?_
        ·go_simp
         refine hK.out _ _ ?_ (fun hHeld=>?_)
         ·try dsimp only
          first|exact .inl rfl|exact .inr rfl
         clear hK K;refine hP ?_;refine wpAnyH_ready (rs:=[7]) (by kernel_rfl) (by simp) ?_;refine AllReadyH.cons rfl (fun K hK=>?_) ?_
         ·go_simp
          refine hK.out _ _ ?_ (fun hHeld=>?_)
          ·try dsimp only
           first|exact .inl rfl|exact .inr rfl
          clear hK K;refine hP ?_;refine wpAnyH_done (by kernel_rfl) ?_ _
          go_wp2
          go_ret
          exact⟨rfl,za SD,za CD⟩
         exact AllReadyH.nil
        exact AllReadyH.nil
       exact AllReadyH.nil
      refine AllReadyH.cons rfl (fun K hK=>?_) ?_
      ·go_simp
       refine hK.out _ _ ?_ (fun hHeld=>?_)
       ·try dsimp only
        first|exact .inl rfl|exact .inr rfl
       clear hK K;refine hP ?_;refine wpAnyH_ready (rs:=[3,6]) (by kernel_rfl) (by simp) ?_;refine AllReadyH.cons rfl (fun K hK=>?_) ?_
       ·go_simp
        refine hK.out _ _ ?_ (fun hHeld=>?_)
        ·try dsimp only
         first|exact .inl rfl|exact .inr rfl
        clear hK K;refine hP ?_;refine wpAnyH_ready (rs:=[6]) (by kernel_rfl) (by simp) ?_;refine AllReadyH.cons rfl (fun K hK=>?_) ?_
        ·go_simp
         refine hK.out _ _ ?_ (fun hHeld=>?_)
         ·try dsimp only
          first|exact .inl rfl|exact .inr rfl
         clear hK K;refine hP ?_;refine wpAnyH_ready (rs:=[7]) (by kernel_rfl) (by simp) ?_;refine AllReadyH.cons rfl (fun K hK=>?_) ?_
         ·go_simp
          refine hK.out _ _ ?_ (fun hHeld=>?_)
          ·try dsimp only
           first|exact .inl rfl|exact .inr rfl
          clear hK K;refine hP ?_;refine wpAnyH_done (by kernel_rfl) ?_ _
          go_wp2
          go_ret
          exact⟨rfl,za SD,za CD⟩
         exact AllReadyH.nil
        exact AllReadyH.nil
       refine AllReadyH.cons rfl (fun K hK=>?_) ?_
       ·go_simp
        refine hK.out _ _ ?_ (fun hHeld=>?_)
        ·try dsimp only
         first|exact .inl rfl|exact .inr rfl
        clear hK K;refine hP ?_;refine wpAnyH_ready (rs:=[3]) (by kernel_rfl) (by simp) ?_;refine AllReadyH.cons rfl (fun K hK=>?_) ?_
        ·go_simp
         refine hK.out _ _ ?_ (fun hHeld=>?_)
         ·try dsimp only
          first|exact .inl rfl|exact .inr rfl
         clear hK K;refine hP ?_;refine wpAnyH_ready (rs:=[7]) (by kernel_rfl) (by simp) ?_;refine AllReadyH.cons rfl (fun K hK=>?_) ?_
         ·go_simp
          refine hK.out _ _ ?_ (fun hHeld=>?_)
          ·try dsimp only
           first|exact .inl rfl|exact .inr rfl
          clear hK K;refine hP ?_;refine wpAnyH_done (by kernel_rfl) ?_ _
          go_wp2
          go_ret
          exact⟨rfl,za SD,za CD⟩
         exact AllReadyH.nil
        exact AllReadyH.nil
       exact AllReadyH.nil
      refine AllReadyH.cons rfl (fun K hK=>?_) ?_
      ·go_simp
       refine hK.out _ _ ?_ (fun hHeld=>?_)
       ·try dsimp only
        first|exact .inl rfl|exact .inr rfl
       clear hK K;refine hP ?_;refine wpAnyH_ready (rs:=[3,5]) (by kernel_rfl) (by simp) ?_;refine AllReadyH.cons rfl (fun K hK=>?_) ?_
       ·go_simp
        refine hK.out _ _ ?_ (fun hHeld=>?_)
        ·try dsimp only
         first|exact .inl rfl|exact .inr rfl
        clear hK K;refine hP ?_;refine wpAnyH_ready (rs:=[5]) (by kernel_rfl) (by simp) ?_;refine AllReadyH.cons rfl (fun K hK=>?_) ?_
        ·go_simp
         refine hK.out _ _ ?_ (fun hHeld=>?_)
         ·try dsimp only
          first|exact .inl rfl|exact .inr rfl
         clear hK K;refine hP ?_;refine wpAnyH_ready (rs:=[7]) (by kernel_rfl) (by simp) ?_;refine AllReadyH.cons rfl (fun K hK=>?_) ?_
         ·go_simp
          refine hK.out _ _ ?_ (fun hHeld=>?_)
          ·try dsimp only
           first|exact .inl rfl|exact .inr rfl
          clear hK K;refine hP ?_;refine wpAnyH_done (by kernel_rfl) ?_ _
          go_wp2
          go_ret
          exact⟨rfl,za SD,za CD⟩
         exact AllReadyH.nil
        exact AllReadyH.nil
       refine AllReadyH.cons rfl (fun K hK=>?_) ?_
       ·go_simp
        refine hK.out _ _ ?_ (fun hHeld=>?_)
        ·try dsimp only
         first|exact .inl rfl|exact .inr rfl
        clear hK K;refine hP ?_;refine wpAnyH_ready (rs:=[3]) (by kernel_rfl) (by simp) ?_;refine AllReadyH.cons rfl (fun K hK=>?_) ?_
        ·go_simp
         refine hK.out _ _ ?_ (fun hHeld=>?_)
         ·try dsimp only
          first|exact .inl rfl|exact .inr rfl
         clear hK K;refine hP ?_;refine wpAnyH_ready (rs:=[7]) (by kernel_rfl) (by simp) ?_;refine AllReadyH.cons rfl (fun K hK=>?_) ?_
         ·go_simp
          refine hK.out _ _ ?_ (fun hHeld=>?_)
          ·try dsimp only
           first|exact .inl rfl|exact .inr rfl
          clear hK K;refine hP ?_;refine wpAnyH_done (by kernel_rfl) ?_ _
          go_wp2
          go_ret
          exact⟨rfl,za SD,za CD⟩
         exact AllReadyH.nil
        exact AllReadyH.nil
       exact AllReadyH.nil
      exact AllReadyH.nil
   |true=>as_aux_lemma =>
    have hg:za9 qnm nm x.ps=some ⟨⟨qn,qt⟩,qa,qc⟩:=by
     have h1:=za HI;have h2:=za HQ;cases hg:za9 qnm nm x.ps with
     |none=>rw[hg] at h1;cases h1
     |some v=>rw[hg] at h2;exact congrArg some h2
    obtain⟨g1,g2,g3⟩:=za GO _ hg;simp only at g1 g2 g3;have hlq:=ze7 ⟨qn,qt⟩ ⟨g2,g3⟩;have e0:=zab (za HE3) 0 _ rfl;have e1:=zab (za HE3) 1 _ rfl;have A2:=zaa (zn6 (g1.later (za b3)) qc g2 g3)
    go_wp2_with fail
    refine(za A2).mono ?_;rintro e U4 ⟨s4,c4,rfl,hb4⟩;have b4:=zaa ((za b3).trans (hb4.mono (za b3).size));have F4:=zaa ((za F3).trans (hb4.mono (za F3).size));clear b3 F3 hb4 A2 e0 e1 m1 m2;generalize hlw:(za7 ⟨qn,qt⟩).length=lw at *;have MG:=zaa (zbz (s.later (za b4)) hx ((lv:Int) - (lw:Int)) (by omega))
    go_wp2_with fail
    refine(za MG).mono ?_;rintro e U5 ⟨rfl,hb5⟩;clear MG;cases hmg:decide (((zav x.cf).length:Int)+((lv:Int) - (lw:Int))≤12000) with
    |false =>
     have hm2:¬ (((zav x.cf).length:Int)+((lv:Int) - (lw:Int))≤12000):=of_decide_eq_false hmg;have hd:zfz ⟨⟨nm,ts⟩,a,mc⟩ x=(6,x):=by
      rw[za DR,hg];simp only[hlw,if_neg hm2]
     have ch:=zaa (Chg.below (h:=h) ((za b4).trans (hb5.mono (za b4).size)));have st5:=zaa (s.later ((za b4).trans (hb5.mono (za b4).size)));clear DR hb5 hmg hm2
     go_wp2
     go_ret
     rw[hd];exact⟨rfl,za st5,za ch⟩
    |true =>
     have hm2:(((zav x.cf).length:Int)+((lv:Int) - (lw:Int))≤12000):=of_decide_eq_true hmg;have hd:zfz ⟨⟨nm,ts⟩,a,mc⟩ x=(0,{ x with ps:=zev qnm ⟨⟨nm,ts⟩,a,mc⟩ x.ps }):=by
      rw[za DR,hg];simp only[hlw,if_pos hm2]
     have b5:=zaa ((za b4).trans (hb5.mono (za b4).size));have F5:=zaa ((za F4).trans (hb5.mono (za F4).size));have bD:=zaa (show Below V.heap.size V U5.drew from(za F5).drew);obtain⟨W3,hput,sd,cd⟩:=((s.later (za b5)).later (Below.refl _ _).drew).putP ⟨⟨nm,ts⟩,a,mc⟩ (by simp only[maxLen];omega) ((hTs.later (za b5)).later (Below.refl _ _).drew) hpn;have SD:=zaa sd;have CD:=zaa ((Chg.below (h:=h) (za b5)).trans ((Chg.below (Below.refl _ _).drew).trans cd));simp only at hput;have s3:=(za SS _ (za bD)).1;have s4:=(za SS _ (za bD)).2.1;have s5:=(za SS _ (za bD)).2.2.1;clear sd cd DR hb5 hmg hm2
     go_wp2_with fail
     refine wp_region_held_drew (S:=fun w'=>w'=U5.drew∨w'=W3) (by kernel_rfl) ?_ (fun hHeld=>?_)
     ·try dsimp only
      first|exact .inl rfl|exact .inr rfl
     refine hT 0 ?_;refine hT 1 ?_;refine hT 2 ?_;refine hT 4 ?_;refine wpAnyH_ready (rs:=[3,5,6]) (by kernel_rfl) (by simp) ?_;refine AllReadyH.cons rfl (fun K hK=>?_) ?_
     ·go_simp
      refine hK.out _ _ ?_ (fun hHeld=>?_)
      ·try dsimp only
       first|exact .inl rfl|exact .inr rfl
      clear hK K;refine hP ?_;refine wpAnyH_ready (rs:=[5,6]) (by kernel_rfl) (by simp) ?_;refine AllReadyH.cons rfl (fun K hK=>?_) ?_
      ·go_simp
       refine hK.out _ _ ?_ (fun hHeld=>?_)
       ·try dsimp only
        first|exact .inl rfl|exact .inr rfl
       clear hK K;refine hP ?_;refine wpAnyH_ready (rs:=[6]) (by kernel_rfl) (by simp) ?_;refine AllReadyH.cons rfl (fun K hK=>?_) ?_
       ·go_simp
        refine hK.out _ _ ?_ (fun hHeld=>?_)
        ·try dsimp only
         first|exact .inl rfl|exact .inr rfl
        clear hK K;refine hP ?_;refine wpAnyH_ready (rs:=[7]) (by kernel_rfl) (by simp) ?_;refine AllReadyH.cons rfl (fun K hK=>?_) ?_
        ·go_simp
         refine hK.out _ _ ?_ (fun hHeld=>?_)
         ·try dsimp only
          first|exact .inl rfl|exact .inr rfl
         clear hK K;refine hP ?_;refine wpAnyH_done (by kernel_rfl) ?_ _
         go_wp2
         go_ret
         exact⟨rfl,za SD,za CD⟩
        exact AllReadyH.nil
       exact AllReadyH.nil
      refine AllReadyH.cons rfl (fun K hK=>?_) ?_
      ·go_simp
       refine hK.out _ _ ?_ (fun hHeld=>?_)
       ·try dsimp only
        first|exact .inl rfl|exact .inr rfl
       clear hK K;refine hP ?_;refine wpAnyH_ready (rs:=[5]) (by kernel_rfl) (by simp) ?_;refine AllReadyH.cons rfl (fun K hK=>?_) ?_
       ·go_simp
        refine hK.out _ _ ?_ (fun hHeld=>?_)
        ·try dsimp only
         first|exact .inl rfl|exact .inr rfl
        clear hK K;refine hP ?_;refine wpAnyH_ready (rs:=[7]) (by kernel_rfl) (by simp) ?_;refine AllReadyH.cons rfl (fun K hK=>?_) ?_
        ·go_simp
         refine hK.out _ _ ?_ (fun hHeld=>?_)
         ·try dsimp only
          first|exact .inl rfl|exact .inr rfl
         clear hK K;refine hP ?_;refine wpAnyH_done (by kernel_rfl) ?_ _
         go_wp2
         go_ret
         exact⟨rfl,za SD,za CD⟩
        exact AllReadyH.nil
       exact AllReadyH.nil
      exact AllReadyH.nil
     refine AllReadyH.cons rfl (fun K hK=>?_) ?_
     ·go_simp
      refine hK.out _ _ ?_ (fun hHeld=>?_)
      ·try dsimp only
       first|exact .inl rfl|exact .inr rfl
      clear hK K;refine hP ?_;refine wpAnyH_ready (rs:=[3,6]) (by kernel_rfl) (by simp) ?_;refine AllReadyH.cons rfl (fun K hK=>?_) ?_
      ·go_simp
       refine hK.out _ _ ?_ (fun hHeld=>?_)
       ·try dsimp only
        first|exact .inl rfl|exact .inr rfl
       clear hK K;refine hP ?_;refine wpAnyH_ready (rs:=[6]) (by kernel_rfl) (by simp) ?_;refine AllReadyH.cons rfl (fun K hK=>?_) ?_
       ·go_simp
        refine hK.out _ _ ?_ (fun hHeld=>?_)
        ·try dsimp only
         first|exact .inl rfl|exact .inr rfl
        clear hK K;refine hP ?_;refine wpAnyH_ready (rs:=[7]) (by kernel_rfl) (by simp) ?_;refine AllReadyH.cons rfl (fun K hK=>?_) ?_
        ·go_simp
         refine hK.out _ _ ?_ (fun hHeld=>?_)
         ·try dsimp only
          first|exact .inl rfl|exact .inr rfl
         clear hK K;refine hP ?_;refine wpAnyH_done (by kernel_rfl) ?_ _
         go_wp2
         go_ret
         exact⟨rfl,za SD,za CD⟩
        exact AllReadyH.nil
       exact AllReadyH.nil
      refine AllReadyH.cons rfl (fun K hK=>?_) ?_
      ·go_simp
       refine hK.out _ _ ?_ (fun hHeld=>?_)
       ·try dsimp only
        first|exact .inl rfl|exact .inr rfl
       clear hK K;refine hP ?_;refine wpAnyH_ready (rs:=[3]) (by kernel_rfl) (by simp) ?_;refine AllReadyH.cons rfl (fun K hK=>?_) ?_
       ·go_simp
        refine hK.out _ _ ?_ (fun hHeld=>?_)
        ·try dsimp only
         first|exact .inl rfl|exact .inr rfl
        clear hK K;refine hP ?_;refine wpAnyH_ready (rs:=[7]) (by kernel_rfl) (by simp) ?_;refine AllReadyH.cons rfl (fun K hK=>?_) ?_
        ·go_simp
         refine hK.out _ _ ?_ (fun hHeld=>?_)
         ·try dsimp only
          first|exact .inl rfl|exact .inr rfl
         clear hK K;refine hP ?_;refine wpAnyH_done (by kernel_rfl) ?_ _
         go_wp2
         go_ret
         exact⟨rfl,za SD,za CD⟩
        exact AllReadyH.nil
       exact AllReadyH.nil
      exact AllReadyH.nil
     refine AllReadyH.cons rfl (fun K hK=>?_) ?_
     ·go_simp
      refine hK.out _ _ ?_ (fun hHeld=>?_)
      ·try dsimp only
       first|exact .inl rfl|exact .inr rfl
      clear hK K;refine hP ?_;refine wpAnyH_ready (rs:=[3,5]) (by kernel_rfl) (by simp) ?_;refine AllReadyH.cons rfl (fun K hK=>?_) ?_
      ·go_simp
       refine hK.out _ _ ?_ (fun hHeld=>?_)
       ·try dsimp only
        first|exact .inl rfl|exact .inr rfl
       clear hK K;refine hP ?_;refine wpAnyH_ready (rs:=[5]) (by kernel_rfl) (by simp) ?_;refine AllReadyH.cons rfl (fun K hK=>?_) ?_
       ·go_simp
        refine hK.out _ _ ?_ (fun hHeld=>?_)
        ·try dsimp only
         first|exact .inl rfl|exact .inr rfl
        clear hK K;refine hP ?_;refine wpAnyH_ready (rs:=[7]) (by kernel_rfl) (by simp) ?_;refine AllReadyH.cons rfl (fun K hK=>?_) ?_
        ·go_simp
         refine hK.out _ _ ?_ (fun hHeld=>?_)
         ·try dsimp only
          first|exact .inl rfl|exact .inr rfl
         clear hK K;refine hP ?_;refine wpAnyH_done (by kernel_rfl) ?_ _
         go_wp2
         go_ret
         exact⟨rfl,za SD,za CD⟩
        exact AllReadyH.nil
       exact AllReadyH.nil
      refine AllReadyH.cons rfl (fun K hK=>?_) ?_
      ·go_simp
       refine hK.out _ _ ?_ (fun hHeld=>?_)
       ·try dsimp only
        first|exact .inl rfl|exact .inr rfl
       clear hK K;refine hP ?_;refine wpAnyH_ready (rs:=[3]) (by kernel_rfl) (by simp) ?_;refine AllReadyH.cons rfl (fun K hK=>?_) ?_
       ·go_simp
        refine hK.out _ _ ?_ (fun hHeld=>?_)
        ·try dsimp only
         first|exact .inl rfl|exact .inr rfl
        clear hK K;refine hP ?_;refine wpAnyH_ready (rs:=[7]) (by kernel_rfl) (by simp) ?_;refine AllReadyH.cons rfl (fun K hK=>?_) ?_
        ·go_simp
         refine hK.out _ _ ?_ (fun hHeld=>?_)
         ·try dsimp only
          first|exact .inl rfl|exact .inr rfl
         clear hK K;refine hP ?_;refine wpAnyH_done (by kernel_rfl) ?_ _
         go_wp2
         go_ret
         exact⟨rfl,za SD,za CD⟩
        exact AllReadyH.nil
       exact AllReadyH.nil
      exact AllReadyH.nil
     exact AllReadyH.nil
  exact AllReadyH.nil
 exact AllReadyH.nil
end Go.Proofs.YtjcjleaicjhpeaaGreatDoor
