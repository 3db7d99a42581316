/- Conf: placeOf, putRoute. -/
import Derived.Test.YtjcjleaicjhpeaaGreatDoorB18
set_option linter.unusedVariables false
set_option maxRecDepth 20000
set_option maxHeartbeats 16000000
namespace Go.Proofs.YtjcjleaicjhpeaaGreatDoor
open Go.ChangeShapes Go.WideShapes Go.ChangeAt Go.RowKit
theorem StAt.lts {w:World} {h:StH} {x:Sm} (s:StAt w h x):h.S<w.heap.size∧h.P<w.heap.size∧h.R<w.heap.size∧h.C<w.heap.size:=⟨(Array.getElem?_eq_some_iff.1 s.hd).1,s.pm.lt,s.rm.lt,s.cm.lt⟩
theorem zas (w:World) (r:Rt):Calls Tryz.prog 103 #[.agg #[.string r.h,.string r.p,.string r.l]] w fun e w'=>e=.returned (.agg #[.string r.h,.string r.p])∧Below w.heap.size w w':=by
 have b1:Below w.heap.size w (w.alloc (.cells #[.string r.h,.string r.p,.string r.l] 56)):=(Below.refl _ _).alloc (Nat.le_refl _) _;have b2:=b1.alloc b1.size (.cells #[.string r.h,.string r.p] 89);have b3:=b1.alloc b1.size (.cells #[.string ⟨#[]⟩,.string ⟨#[]⟩] 89);have s1:(w.alloc (.cells #[.string r.h,.string r.p,.string r.l] 56)).heap.size=w.heap.size+1:=by simp
 have X1:=zad w (.cells #[.string r.h,.string r.p,.string r.l] 56);have X3:=zac ((Below.refl _ _).alloc (Nat.le_refl _) (.cells #[.string ⟨#[]⟩,.string ⟨#[]⟩] 89):Below (w.alloc (.cells #[.string r.h,.string r.p,.string r.l] 56)).heap.size (w.alloc (.cells #[.string r.h,.string r.p,.string r.l] 56)) _) X1;have X2:=(show((w.alloc (.cells #[.string r.h,.string r.p,.string r.l] 56)).alloc (.cells #[.string r.h,.string r.p] 89)).heap[w.heap.size+1]? = some (.cells #[.string r.h,.string r.p] 89 (0,0)) by rw[← s1];exact zad _ _)
 have c0:=zab X3 0 _ rfl;have c1:=zab X3 1 _ rfl;have g0:=zab X2 0 _ rfl;have g1:=zab X2 1 _ rfl;have B2:=zaa b2;clear b1 b2 b3 s1 X1 X2 X3;go_enter Tryz.func103,Tryz.ntmps103
 go_wp2
 exact bodyPost_ret (v:=.agg #[.string r.h,.string r.p]) (by simp[results,Tryz.results103,go_sem,g0,g1]) rfl ⟨rfl,za B2⟩
def zdz (r:Rt) (x:Sm):Int×Sm:=match za9 qnm r.l x.ps with
 |none=>(8,x)
 |some _=>match za9 rpl (r.h,r.p) x.rs with
  |none=>if 64≤x.rs.length then (6,x) else if ((zav x.cf).length:Int)+((zaw r).length:Int)≤12000 then (0,{ x with rs:=zev rpl r x.rs }) else (6,x)
  |some o=>if ((zav x.cf).length:Int)+(((zaw r).length:Int) - ((zaw o).length:Int))≤12000 then (0,{ x with rs:=zev rpl r x.rs }) else (6,x)
theorem zf8 (w:World) (r:Rt) (hr:r.h.size≤1000000∧r.p.size≤1000000∧r.l.size≤1000000) :
  Calls Tryz.prog 93 #[.slice none 0 0,.agg #[.string r.h,.string r.p,.string r.l]] w fun e w'=>∃ sp' c',e=.returned (.slice sp' (zaw r).length c')∧Below w.heap.size w w':=by
 refine(zfo w.heap.size r (sp:=none) (n0:=0) (c:=0) (l:=[]) rfl (OwnB.ofNil _ _) hr (by simp) (Nat.le_refl _)).mono ?_;rintro e w' ⟨s1,n1,c1,rfl,h1,h2,h3⟩;have h4:=za h1;rw[List.nil_append] at h4;exact⟨s1,c1,by rw[h4],h3.below (OwnB.ofNil _ _) (Nat.le_refl _)⟩
theorem zfs {w:World} {h:StH} {x:Sm} (s:StAt w h x) (hx:SmOk x) (rh rp rl:ByteArray) (hr:rh.size≤1000000∧rp.size≤1000000∧rl.size≤1000000) :
  Calls Tryz.prog 140 #[.pointer (some ⟨h.S,0,none⟩),.agg #[.string rh,.string rp,.string rl]] w fun e w'=>e=.returned (.int .i64 (zdz ⟨rh,rp,rl⟩ x).1)∧StAt w' h (zdz ⟨rh,rp,rl⟩ x).2∧Chg h w w':=by
 have b1:=zaa (show Below w.heap.size w (w.alloc (.cells #[.string rh,.string rp,.string rl] 56)) from(Below.refl _ _).alloc (Nat.le_refl _) _);have X1:=zaa (zad w (.cells #[.string rh,.string rp,.string rl] 56));have hrn:x.rs.length≤1000:=by have:=hx.t.rn;simpa [Sm.cf] using this
 have SS:=zaa (show ∀ W:World,Below (w.alloc (.cells #[.string rh,.string rp,.string rl] 56)).heap.size (w.alloc (.cells #[.string rh,.string rp,.string rl] 56)) W→W.cell? ⟨h.S,1,none⟩=some (.map (some h.P))∧W.cell? ⟨h.S,2,none⟩=some (.map (some h.R))∧W.cell? ⟨w.heap.size,0,none⟩=some (.string rh)∧W.cell? ⟨w.heap.size,1,none⟩=some (.string rp)∧W.cell? ⟨w.heap.size,2,none⟩=some (.string rl)∧(Instr.lookup 75 (.map (some h.P)) (.string rl) true).run Tryz.prog W=.ok (.tuple #[pqV ((za9 qnm rl x.ps).getD ⟨⟨⟨#[]⟩,[]⟩,none,0⟩),.bool (za9 qnm rl x.ps).isSome]) W∧(Instr.lookup 76 (.map (some h.R)) (.agg #[.string rh,.string rp]) true).run Tryz.prog W=.ok (.tuple #[zdi ((za9 rpl (rh,rp) x.rs).getD rt0),.bool (za9 rpl (rh,rp) x.rs).isSome]) W∧∀ ty,(Builtin.len_ #[76] ty #[.map (some h.R)]).run Tryz.prog W=.ok (.int .i64 (x.rs.length:Int)) W from fun W hb=>by
  have st:=s.later ((za b1).trans (hb.mono (za b1).size));have hk:=zac hb (za X1)
  exact⟨st.cell.2.1,st.cell.2.2.1,zab hk 0 _ rfl,zab hk 1 _ rfl,zab hk 2 _ rfl,zr7 st rl (by simp only[maxLen];omega),zuk st (rh,rp) (by simp only[maxLen];omega),fun ty=>by have:=st.rm.len zli ty;rwa [Sm.fr_length] at this⟩)
 have DR:=zaa (show zdz ⟨rh,rp,rl⟩ x=(match za9 qnm rl x.ps with
  |none=>(8,x)
  |some _=>match za9 rpl (rh,rp) x.rs with
   |none=>if 64≤x.rs.length then (6,x) else if ((zav x.cf).length:Int)+((zaw ⟨rh,rp,rl⟩).length:Int)≤12000 then (0,{ x with rs:=zev rpl ⟨rh,rp,rl⟩ x.rs }) else (6,x)
   |some o=>if ((zav x.cf).length:Int)+(((zaw ⟨rh,rp,rl⟩).length:Int) - ((zaw o).length:Int))≤12000 then (0,{ x with rs:=zev rpl ⟨rh,rp,rl⟩ x.rs }) else (6,x)) from rfl)
 have hlp:=zc9 ⟨rh,rp,rl⟩ hr;have GO:=zaa (show ∀ o,za9 rpl (rh,rp) x.rs=some o→o.h.size≤1000000∧o.p.size≤1000000∧o.l.size≤1000000 from fun o ho=>hx.t.rs o (by simp only[Sm.cf];exact(zoa _ _ _ _ ho).1));go_enter Tryz.func140,Tryz.ntmps140
 go_wp2_with fail
 generalize hB:w.heap.size=B at *;generalize w.alloc (.cells #[.string rh,.string rp,.string rl] 56)=V at *;have BV:=zaa (show B<V.heap.size from(Array.getElem?_eq_some_iff.1 (za X1)).1);generalize hq:((za9 qnm rl x.ps).getD ⟨⟨⟨#[]⟩,[]⟩,none,0⟩)=q at *;generalize hi:(za9 qnm rl x.ps).isSome=ii at *;have HI:=zaa hi;generalize hq2:((za9 rpl (rh,rp) x.rs).getD rt0)=q2 at *;generalize hi2:(za9 rpl (rh,rp) x.rs).isSome=jj at *;have HJ:=zaa hi2;have HQ:=zaa hq2;have F:=zaa (show Below V.heap.size V V.drew from(Below.refl _ _).drew);clear hi hq hi2 hq2;obtain⟨⟨qn,qt⟩,qa,qc⟩:=q;obtain⟨oh,op,ol⟩:=q2;simp only[pqV,zdi] at SS;refine wp_region_held_drew (S:=fun w'=>w'.cell? ⟨h.S,1,none⟩=some (.map (some h.P))∧w'.cell? ⟨B,2,none⟩=some (.string rl)∧(Instr.lookup 75 (.map (some h.P)) (.string rl) true).run Tryz.prog w'=.ok (.tuple #[.agg #[.string qn,.slice qa qt.length qc],.bool ii]) w') (by kernel_rfl) ?_ (fun hHeld=>?_)
 ·try dsimp only
  exact⟨(za SS _ (za F)).1,(za SS _ (za F)).2.2.2.2.1,(za SS _ (za F)).2.2.2.2.2.1⟩
 refine hT 0 ?_;refine hT 1 ?_;refine hT 2 ?_;refine hT 3 ?_;refine hT 4 ?_;refine hT 5 ?_;refine hT 6 ?_;refine hT 7 ?_;refine hT 8 ?_;refine hT 9 ?_;refine wpAnyH_ready (rs:=[10]) (by kernel_rfl) (by simp) ?_;refine AllReadyH.cons rfl (fun K hK=>?_) ?_
 ·refine znz rfl rfl ?_;intro E U hE hEn hb;have LE:=zaa (show V.heap.size≤E by rw[← hE];exact(za F).size);have HE:=zaa hEn;have F:=zaa ((za F).trans (hb.mono (za F).size));clear hE hEn hb;refine hK.out _ _ ?_ (fun hHeld=>?_)
  ·try dsimp only
   exact⟨(za SS _ (za F)).1,(za SS _ (za F)).2.2.2.2.1,(za SS _ (za F)).2.2.2.2.2.1⟩
  clear hK K;refine hP ?_;refine wpAnyH_ready (rs:=[11]) (by kernel_rfl) (by simp) ?_;refine AllReadyH.cons rfl (fun K hK=>?_) ?_
  ·have z0:=zab (za HE) 0 _ rfl;have z1:=zab (za HE) 1 _ rfl;have f0:U.frozen? ⟨E,0,none⟩=false:=by simp[World.frozen?,za HE]
   have f1:U.frozen? ⟨E,1,none⟩=false:=by simp[World.frozen?,za HE]
   have a1:=zru (x:=.string qn) (y:=.slice qa qt.length qc) (za HE);have F:=zaa ((za F).grown a1.2 (za F).size (fun g e=>by have:=Option.some.inj e;have:=za LE;omega));clear a1;go_simp
   clear z0 z1 f0 f1;refine hK.out _ _ ?_ (fun hHeld=>?_)
   ·try dsimp only
    exact⟨(za SS _ (za F)).1,(za SS _ (za F)).2.2.2.2.1,(za SS _ (za F)).2.2.2.2.2.1⟩
   clear hK K;refine hP ?_;refine hT 12 ?_;refine wpAnyH_done (by kernel_rfl) ?_ _;generalize ((U.setCell ⟨E,0,none⟩ (.string qn)).setCell ⟨E,1,none⟩ (.slice qa qt.length qc))=U2 at *;clear hHeld HE LE;have b2:=zaa (show Below w.heap.size w U2 by rw[hB];exact(za b1).trans ((za F).mono (by have:=(za b1).size;omega)));cases ii with
   |false=>as_aux_lemma =>
    have hg:za9 qnm rl x.ps=none:=by
     have h1:=za HI;cases hg:za9 qnm rl x.ps with
     |none=>rfl
     |some v=>rw[hg] at h1;cases h1
    have hd:zdz ⟨rh,rp,rl⟩ x=(8,x):=by rw[za DR,hg]
    have ch:=zaa (Chg.below (h:=h) (za b2));have st3:=zaa (s.later (za b2));clear DR
    go_wp2
    go_ret
    rw[hd];exact⟨rfl,za st3,za ch⟩
   |true=>as_aux_lemma =>
    have LP:=zaa (show ∃ v,za9 qnm rl x.ps=some v by
     have h1:=za HI;cases hg:za9 qnm rl x.ps with
     |none=>rw[hg] at h1;cases h1
     |some v=>exact⟨v,rfl⟩)
    obtain⟨pv,hpv⟩:=za LP;have LP:=zaa hpv;clear hpv
    go_wp2_with fail
    have F2:=zaa (za F);have F:=zaa ((za F2).drew);refine wp_region_held_drew (S:=fun w'=>w'.cell? ⟨h.S,2,none⟩=some (.map (some h.R))∧w'.cell? ⟨B,0,none⟩=some (.string rh)∧w'.cell? ⟨B,1,none⟩=some (.string rp)∧w'.cell? ⟨B,2,none⟩=some (.string rl)∧(Instr.lookup 76 (.map (some h.R)) (.agg #[.string rh,.string rp]) true).run Tryz.prog w'=.ok (.tuple #[.agg #[.string oh,.string op,.string ol],.bool jj]) w') (by kernel_rfl) ?_ (fun hHeld=>?_)
    ·try dsimp only
     exact⟨(za SS _ (za F)).2.1,(za SS _ (za F)).2.2.1,(za SS _ (za F)).2.2.2.1,(za SS _ (za F)).2.2.2.2.1,(za SS _ (za F)).2.2.2.2.2.2.1⟩
    refine hT 0 ?_;refine hT 1 ?_;refine hT 2 ?_;refine hT 3 ?_;refine hT 4 ?_;refine wpAnyH_ready (rs:=[5,10]) (by kernel_rfl) (by simp) ?_;refine AllReadyH.cons rfl (fun K hK=>?_) ?_
    ·go_simp
     go_at_call 103
     refine(zas _ ⟨rh,rp,rl⟩).mono ?_;rintro e U6 ⟨rfl,hb⟩;have F:=zaa ((za F).trans (hb.mono (za F).size));first
      |(have hV:HE=HE:=rfl
        clear hV
        have HE:=zaa (zac hb (za HE)))
      |skip
     clear hb
     go_wp2_with fail
     refine hK.out _ _ ?_ (fun hHeld=>?_)
     ·try dsimp only
      exact⟨(za SS _ (za F)).2.1,(za SS _ (za F)).2.2.1,(za SS _ (za F)).2.2.2.1,(za SS _ (za F)).2.2.2.2.1,(za SS _ (za F)).2.2.2.2.2.2.1⟩
     clear hK K;refine hP ?_;refine hT 6 ?_;refine hT 7 ?_;refine hT 8 ?_;refine hT 9 ?_;refine wpAnyH_ready (rs:=[10]) (by kernel_rfl) (by simp) ?_;refine AllReadyH.cons rfl (fun K hK=>?_) ?_
     ·refine zn0 rfl rfl ?_;intro E2 U6 hE hEn hb;have LE:=zaa (show V.heap.size≤E2 by rw[← hE];exact(za F).size);have HE:=zaa hEn;have F:=zaa ((za F).trans (hb.mono (za F).size));clear hE hEn hb;refine hK.out _ _ ?_ (fun hHeld=>?_)
      ·try dsimp only
       exact⟨(za SS _ (za F)).2.1,(za SS _ (za F)).2.2.1,(za SS _ (za F)).2.2.2.1,(za SS _ (za F)).2.2.2.2.1,(za SS _ (za F)).2.2.2.2.2.2.1⟩
      clear hK K;refine hP ?_;refine wpAnyH_ready (rs:=[11]) (by kernel_rfl) (by simp) ?_;refine AllReadyH.cons rfl (fun K hK=>?_) ?_
      ·have z0:=zab (za HE) 0 _ rfl;have z1:=zab (za HE) 1 _ rfl;have z2:=zab (za HE) 2 _ rfl;have f0:U6.frozen? ⟨E2,0,none⟩=false:=by simp[World.frozen?,za HE]
       have f1:U6.frozen? ⟨E2,1,none⟩=false:=by simp[World.frozen?,za HE]
       have f2:U6.frozen? ⟨E2,2,none⟩=false:=by simp[World.frozen?,za HE]
       have a1:=zps (x:=.string oh) (y:=.string op) (z:=.string ol) (za HE);have HE2:=zaa a1.1;have F:=zaa ((za F).grown a1.2 (za F).size (fun g e=>by have:=Option.some.inj e;have:=za LE;omega));clear a1;go_simp
       clear z0 z1 z2 f0 f1 f2;refine hK.out _ _ ?_ (fun hHeld=>?_)
       ·try dsimp only
        exact⟨(za SS _ (za F)).2.1,(za SS _ (za F)).2.2.1,(za SS _ (za F)).2.2.2.1,(za SS _ (za F)).2.2.2.2.1,(za SS _ (za F)).2.2.2.2.2.2.1⟩
       clear hK K;refine hP ?_;refine hT 12 ?_;refine wpAnyH_done (by kernel_rfl) ?_ _
       as_aux_lemma =>
       generalize (((U6.setCell ⟨E2,0,none⟩ (.string oh)).setCell ⟨E2,1,none⟩ (.string op)).setCell ⟨E2,2,none⟩ (.string ol))=U7 at *;clear hHeld HE LE F2 b2;have b2:=zaa (show Below w.heap.size w U7 by rw[hB];exact(za b1).trans ((za F).mono (by have:=(za b1).size;omega)));have k0:=(za SS _ (za F)).2.2.1;have k1:=(za SS _ (za F)).2.2.2.1;have k2:=(za SS _ (za F)).2.2.2.2.1;have A1:=zaa (zf8 U7 ⟨rh,rp,rl⟩ hr)
       go_wp2_with fail
       refine(za A1).mono ?_;rintro e U3 ⟨s3,c3,rfl,hb3⟩;have F3:=zaa ((za F).trans (hb3.mono (za F).size));have b3:=zaa ((za b2).trans (hb3.mono (za b2).size));have HE3:=zaa (zac hb3 (za HE2));clear hb3 A1 k0 k1 k2 F b2 HE2;have m1:=(za SS _ (za F3)).2.1;have m2:=(za SS _ (za F3)).2.2.2.2.2.2.2;generalize hlv:(zaw ⟨rh,rp,rl⟩).length=lv at *;cases jj with
       |false=>as_aux_lemma =>
        have hg:za9 rpl (rh,rp) x.rs=none:=by
         have h1:=za HJ;cases hg:za9 rpl (rh,rp) x.rs with
         |none=>rfl
         |some v=>rw[hg] at h1;cases h1
        by_cases h32:64≤x.rs.length
        ·as_aux_lemma =>
         have hd:zdz ⟨rh,rp,rl⟩ x=(6,x):=by rw[za DR,za LP,hg];simp only[if_pos h32]
         have hc:(64:Int)≤(x.rs.length:Int):=by omega
         have ch:=zaa (Chg.below (h:=h) (za b3));have st3:=zaa (s.later (za b3));clear DR
         go_wp2
         go_ret
         rw[hd];exact⟨rfl,za st3,za ch⟩
        ·as_aux_lemma =>
         have hc:¬ (64:Int)≤(x.rs.length:Int):=by omega
         have b4:=zaa (za b3);have F4:=zaa (za F3);have MG:=zaa (zbz (s.later (za b3)) hx (lv:Int) (by omega));clear b3 F3
         go_wp2_with fail
         refine(za MG).mono ?_;rintro e U5 ⟨rfl,hb5⟩;clear MG m1 m2 hc;cases hmg:decide (((zav x.cf).length:Int)+(lv:Int)≤12000) with
         |false =>
          have hm2:¬ (((zav x.cf).length:Int)+(lv:Int)≤12000):=of_decide_eq_false hmg;have hd:zdz ⟨rh,rp,rl⟩ x=(6,x):=by
           rw[za DR,za LP,hg];simp only[if_neg h32,if_neg hm2]
          have ch:=zaa (Chg.below (h:=h) ((za b4).trans (hb5.mono (za b4).size)));have st5:=zaa (s.later ((za b4).trans (hb5.mono (za b4).size)));clear DR hb5 hmg hm2
          go_wp2
          go_ret
          rw[hd];exact⟨rfl,za st5,za ch⟩
         |true =>
          have hm2:(((zav x.cf).length:Int)+(lv:Int)≤12000):=of_decide_eq_true hmg;have hd:zdz ⟨rh,rp,rl⟩ x=(0,{ x with rs:=zev rpl ⟨rh,rp,rl⟩ x.rs }):=by
           rw[za DR,za LP,hg];simp only[if_neg h32,if_pos hm2]
          have b5:=zaa ((za b4).trans (hb5.mono (za b4).size));have F:=zaa (((za F4).trans (hb5.mono (za F4).size)).trans ((Below.refl _ _).drew.mono (show V.heap.size≤U5.heap.size by have:=(za F4).size;have:=hb5.size;omega)));have G:=zaa (show Below U5.heap.size U5 U5.drew from(Below.refl _ _).drew);have SB:=zaa (show ∀ W:World,Below V.heap.size V W→W.cell? ⟨h.S,2,none⟩=some (.map (some h.R))∧W.cell? ⟨B,0,none⟩=some (.string rh)∧W.cell? ⟨B,1,none⟩=some (.string rp)∧W.cell? ⟨B,2,none⟩=some (.string rl) from fun W hb=>⟨(za SS W hb).2.1,(za SS W hb).2.2.1,(za SS W hb).2.2.2.1,(za SS W hb).2.2.2.2.1⟩);clear DR hb5 hmg hm2
          go_wp2_with fail
          refine wp_region_held_drew (S:=fun w'=>w'.cell? ⟨h.S,2,none⟩=some (.map (some h.R))∧w'.cell? ⟨B,0,none⟩=some (.string rh)∧w'.cell? ⟨B,1,none⟩=some (.string rp)∧w'.cell? ⟨B,2,none⟩=some (.string rl)) (by kernel_rfl) ?_ (fun hHeld=>?_)
          ·try dsimp only
           first|exact za KC|exact za SB _ (za F)
          refine hT 0 ?_;refine hT 1 ?_;refine hT 2 ?_;refine hT 3 ?_;refine hT 4 ?_;refine hT 6 ?_;refine wpAnyH_ready (rs:=[5]) (by kernel_rfl) (by simp) ?_;refine AllReadyH.cons rfl (fun K hK=>?_) ?_
          ·go_simp
           go_at_call 103
           refine(zas _ ⟨rh,rp,rl⟩).mono ?_;rintro e U6 ⟨rfl,hb⟩;have F:=zaa ((za F).trans (hb.mono (za F).size));have G:=zaa ((za G).trans (hb.mono (za G).size));clear hb
           go_wp2_with fail
           refine hK.out _ _ ?_ (fun hHeld=>?_)
           ·try dsimp only
            first|exact za KC|exact za SB _ (za F)
           clear hK K;refine hP ?_;refine wpAnyH_ready (rs:=[7]) (by kernel_rfl) (by simp) ?_;refine AllReadyH.cons rfl (fun K hK=>?_) ?_
           ·have b6:=zaa ((za b5).trans ((za G).mono (za b5).size));obtain⟨W3,hput,sd,cd⟩:=(s.later (za b6)).putR ⟨rh,rp,rl⟩ (by simp only[maxLen];omega) hrn;simp only at hput
            have KC:=zaa (show W3.cell? ⟨h.S,2,none⟩=some (.map (some h.R))∧W3.cell? ⟨B,0,none⟩=some (.string rh)∧W3.cell? ⟨B,1,none⟩=some (.string rp)∧W3.cell? ⟨B,2,none⟩=some (.string rl) by
             obtain⟨t1,t2,t3,t4⟩:=s.lts;obtain⟨q1,q2,q3,q4⟩:=za SB _ (za F);have hk:W3.heap[B]? = U6.heap[B]?:=cd.block B (by have:=(za F).size;have:=za BV;omega) (by omega) (by omega) (by omega) (by omega)
             exact⟨sd.cell.2.2.1,(World.cell?_of_block hk).trans q2,(World.cell?_of_block hk).trans q3,(World.cell?_of_block hk).trans q4⟩)
            have SD:=zaa sd;have CD:=zaa ((Chg.below (h:=h) (za b6)).trans cd);clear sd cd;go_simp
            clear hput;refine hK.out _ _ ?_ (fun hHeld=>?_)
            ·try dsimp only
             first|exact za KC|exact za SB _ (za F)
            clear hK K;refine hP ?_;refine wpAnyH_done (by kernel_rfl) ?_ _
            go_wp2
            go_ret
            first
             |rw[hd]
             |skip
            exact⟨rfl,za SD,za CD⟩
           exact AllReadyH.nil
          exact AllReadyH.nil
       |true=>as_aux_lemma =>
        have hg:za9 rpl (rh,rp) x.rs=some ⟨oh,op,ol⟩:=by
         have h1:=za HJ;have h2:=za HQ;cases hg:za9 rpl (rh,rp) x.rs with
         |none=>rw[hg] at h1;cases h1
         |some v=>rw[hg] at h2;exact congrArg some h2
        have g1:=za GO _ hg;simp only at g1;have hlq:=zc9 ⟨oh,op,ol⟩ g1;have e0:=zab (za HE3) 0 _ rfl;have e1:=zab (za HE3) 1 _ rfl;have e2:=zab (za HE3) 2 _ rfl;have A2:=zaa (zf8 U3 ⟨oh,op,ol⟩ g1)
        go_wp2_with fail
        refine(za A2).mono ?_;rintro e U4 ⟨s4,c4,rfl,hb4⟩;have b4:=zaa ((za b3).trans (hb4.mono (za b3).size));have F4:=zaa ((za F3).trans (hb4.mono (za F3).size));clear b3 F3 hb4 A2 e0 e1 e2 m1 m2;generalize hlw:(zaw ⟨oh,op,ol⟩).length=lw at *;have MG:=zaa (zbz (s.later (za b4)) hx ((lv:Int) - (lw:Int)) (by omega))
        go_wp2_with fail
        refine(za MG).mono ?_;rintro e U5 ⟨rfl,hb5⟩;clear MG;cases hmg:decide (((zav x.cf).length:Int)+((lv:Int) - (lw:Int))≤12000) with
        |false =>
         have hm2:¬ (((zav x.cf).length:Int)+((lv:Int) - (lw:Int))≤12000):=of_decide_eq_false hmg;have hd:zdz ⟨rh,rp,rl⟩ x=(6,x):=by
          rw[za DR,za LP,hg];simp only[hlw,if_neg hm2]
         have ch:=zaa (Chg.below (h:=h) ((za b4).trans (hb5.mono (za b4).size)));have st5:=zaa (s.later ((za b4).trans (hb5.mono (za b4).size)));clear DR hb5 hmg hm2
         go_wp2
         go_ret
         rw[hd];exact⟨rfl,za st5,za ch⟩
        |true =>
         have hm2:(((zav x.cf).length:Int)+((lv:Int) - (lw:Int))≤12000):=of_decide_eq_true hmg;have hd:zdz ⟨rh,rp,rl⟩ x=(0,{ x with rs:=zev rpl ⟨rh,rp,rl⟩ x.rs }):=by
          rw[za DR,za LP,hg];simp only[hlw,if_pos hm2]
         have b5:=zaa ((za b4).trans (hb5.mono (za b4).size));have F:=zaa (((za F4).trans (hb5.mono (za F4).size)).trans ((Below.refl _ _).drew.mono (show V.heap.size≤U5.heap.size by have:=(za F4).size;have:=hb5.size;omega)));have G:=zaa (show Below U5.heap.size U5 U5.drew from(Below.refl _ _).drew);have SB:=zaa (show ∀ W:World,Below V.heap.size V W→W.cell? ⟨h.S,2,none⟩=some (.map (some h.R))∧W.cell? ⟨B,0,none⟩=some (.string rh)∧W.cell? ⟨B,1,none⟩=some (.string rp)∧W.cell? ⟨B,2,none⟩=some (.string rl) from fun W hb=>⟨(za SS W hb).2.1,(za SS W hb).2.2.1,(za SS W hb).2.2.2.1,(za SS W hb).2.2.2.2.1⟩);clear DR hb5 hmg hm2
         go_wp2_with fail
         refine wp_region_held_drew (S:=fun w'=>w'.cell? ⟨h.S,2,none⟩=some (.map (some h.R))∧w'.cell? ⟨B,0,none⟩=some (.string rh)∧w'.cell? ⟨B,1,none⟩=some (.string rp)∧w'.cell? ⟨B,2,none⟩=some (.string rl)) (by kernel_rfl) ?_ (fun hHeld=>?_)
         ·try dsimp only
          first|exact za KC|exact za SB _ (za F)
         refine hT 0 ?_;refine hT 1 ?_;refine hT 2 ?_;refine hT 3 ?_;refine hT 4 ?_;refine hT 6 ?_;refine wpAnyH_ready (rs:=[5]) (by kernel_rfl) (by simp) ?_;refine AllReadyH.cons rfl (fun K hK=>?_) ?_
         ·go_simp
          go_at_call 103
          refine(zas _ ⟨rh,rp,rl⟩).mono ?_;rintro e U6 ⟨rfl,hb⟩;have F:=zaa ((za F).trans (hb.mono (za F).size));have G:=zaa ((za G).trans (hb.mono (za G).size));clear hb
          go_wp2_with fail
          refine hK.out _ _ ?_ (fun hHeld=>?_)
          ·try dsimp only
           first|exact za KC|exact za SB _ (za F)
          clear hK K;refine hP ?_;refine wpAnyH_ready (rs:=[7]) (by kernel_rfl) (by simp) ?_;refine AllReadyH.cons rfl (fun K hK=>?_) ?_
          ·have b6:=zaa ((za b5).trans ((za G).mono (za b5).size));obtain⟨W3,hput,sd,cd⟩:=(s.later (za b6)).putR ⟨rh,rp,rl⟩ (by simp only[maxLen];omega) hrn;simp only at hput
           have KC:=zaa (show W3.cell? ⟨h.S,2,none⟩=some (.map (some h.R))∧W3.cell? ⟨B,0,none⟩=some (.string rh)∧W3.cell? ⟨B,1,none⟩=some (.string rp)∧W3.cell? ⟨B,2,none⟩=some (.string rl) by
            obtain⟨t1,t2,t3,t4⟩:=s.lts;obtain⟨q1,q2,q3,q4⟩:=za SB _ (za F);have hk:W3.heap[B]? = U6.heap[B]?:=cd.block B (by have:=(za F).size;have:=za BV;omega) (by omega) (by omega) (by omega) (by omega)
            exact⟨sd.cell.2.2.1,(World.cell?_of_block hk).trans q2,(World.cell?_of_block hk).trans q3,(World.cell?_of_block hk).trans q4⟩)
           have SD:=zaa sd;have CD:=zaa ((Chg.below (h:=h) (za b6)).trans cd);clear sd cd;go_simp
           clear hput;refine hK.out _ _ ?_ (fun hHeld=>?_)
           ·try dsimp only
            first|exact za KC|exact za SB _ (za F)
           clear hK K;refine hP ?_;refine wpAnyH_done (by kernel_rfl) ?_ _
           go_wp2
           go_ret
           first
            |rw[hd]
            |skip
           exact⟨rfl,za SD,za CD⟩
          exact AllReadyH.nil
         exact AllReadyH.nil
      exact AllReadyH.nil
     exact AllReadyH.nil
    refine AllReadyH.cons rfl (fun K hK=>?_) ?_
    ·refine zn0 rfl rfl ?_;intro E2 U6 hE hEn hb;have LE:=zaa (show V.heap.size≤E2 by rw[← hE];exact(za F).size);have HE:=zaa hEn;have F:=zaa ((za F).trans (hb.mono (za F).size));clear hE hEn hb;refine hK.out _ _ ?_ (fun hHeld=>?_)
     ·try dsimp only
      exact⟨(za SS _ (za F)).2.1,(za SS _ (za F)).2.2.1,(za SS _ (za F)).2.2.2.1,(za SS _ (za F)).2.2.2.2.1,(za SS _ (za F)).2.2.2.2.2.2.1⟩
     clear hK K;refine hP ?_;refine wpAnyH_ready (rs:=[5]) (by kernel_rfl) (by simp) ?_;refine AllReadyH.cons rfl (fun K hK=>?_) ?_
     ·go_simp
      go_at_call 103
      refine(zas _ ⟨rh,rp,rl⟩).mono ?_;rintro e U6 ⟨rfl,hb⟩;have F:=zaa ((za F).trans (hb.mono (za F).size));first
       |(have hV:HE=HE:=rfl
         clear hV
         have HE:=zaa (zac hb (za HE)))
       |skip
      clear hb
      go_wp2_with fail
      refine hK.out _ _ ?_ (fun hHeld=>?_)
      ·try dsimp only
       exact⟨(za SS _ (za F)).2.1,(za SS _ (za F)).2.2.1,(za SS _ (za F)).2.2.2.1,(za SS _ (za F)).2.2.2.2.1,(za SS _ (za F)).2.2.2.2.2.2.1⟩
      clear hK K;refine hP ?_;refine hT 6 ?_;refine hT 7 ?_;refine hT 8 ?_;refine hT 9 ?_;refine wpAnyH_ready (rs:=[11]) (by kernel_rfl) (by simp) ?_;refine AllReadyH.cons rfl (fun K hK=>?_) ?_
      ·have z0:=zab (za HE) 0 _ rfl;have z1:=zab (za HE) 1 _ rfl;have z2:=zab (za HE) 2 _ rfl;have f0:U6.frozen? ⟨E2,0,none⟩=false:=by simp[World.frozen?,za HE]
       have f1:U6.frozen? ⟨E2,1,none⟩=false:=by simp[World.frozen?,za HE]
       have f2:U6.frozen? ⟨E2,2,none⟩=false:=by simp[World.frozen?,za HE]
       have a1:=zps (x:=.string oh) (y:=.string op) (z:=.string ol) (za HE);have HE2:=zaa a1.1;have F:=zaa ((za F).grown a1.2 (za F).size (fun g e=>by have:=Option.some.inj e;have:=za LE;omega));clear a1;go_simp
       clear z0 z1 z2 f0 f1 f2;refine hK.out _ _ ?_ (fun hHeld=>?_)
       ·try dsimp only
        exact⟨(za SS _ (za F)).2.1,(za SS _ (za F)).2.2.1,(za SS _ (za F)).2.2.2.1,(za SS _ (za F)).2.2.2.2.1,(za SS _ (za F)).2.2.2.2.2.2.1⟩
       clear hK K;refine hP ?_;refine hT 12 ?_;refine wpAnyH_done (by kernel_rfl) ?_ _
       as_aux_lemma =>
       generalize (((U6.setCell ⟨E2,0,none⟩ (.string oh)).setCell ⟨E2,1,none⟩ (.string op)).setCell ⟨E2,2,none⟩ (.string ol))=U7 at *;clear hHeld HE LE F2 b2;have b2:=zaa (show Below w.heap.size w U7 by rw[hB];exact(za b1).trans ((za F).mono (by have:=(za b1).size;omega)));have k0:=(za SS _ (za F)).2.2.1;have k1:=(za SS _ (za F)).2.2.2.1;have k2:=(za SS _ (za F)).2.2.2.2.1;have A1:=zaa (zf8 U7 ⟨rh,rp,rl⟩ hr)
       go_wp2_with fail
       refine(za A1).mono ?_;rintro e U3 ⟨s3,c3,rfl,hb3⟩;have F3:=zaa ((za F).trans (hb3.mono (za F).size));have b3:=zaa ((za b2).trans (hb3.mono (za b2).size));have HE3:=zaa (zac hb3 (za HE2));clear hb3 A1 k0 k1 k2 F b2 HE2;have m1:=(za SS _ (za F3)).2.1;have m2:=(za SS _ (za F3)).2.2.2.2.2.2.2;generalize hlv:(zaw ⟨rh,rp,rl⟩).length=lv at *;cases jj with
       |false=>as_aux_lemma =>
        have hg:za9 rpl (rh,rp) x.rs=none:=by
         have h1:=za HJ;cases hg:za9 rpl (rh,rp) x.rs with
         |none=>rfl
         |some v=>rw[hg] at h1;cases h1
        by_cases h32:64≤x.rs.length
        ·as_aux_lemma =>
         have hd:zdz ⟨rh,rp,rl⟩ x=(6,x):=by rw[za DR,za LP,hg];simp only[if_pos h32]
         have hc:(64:Int)≤(x.rs.length:Int):=by omega
         have ch:=zaa (Chg.below (h:=h) (za b3));have st3:=zaa (s.later (za b3));clear DR
         go_wp2
         go_ret
         rw[hd];exact⟨rfl,za st3,za ch⟩
        ·as_aux_lemma =>
         have hc:¬ (64:Int)≤(x.rs.length:Int):=by omega
         have b4:=zaa (za b3);have F4:=zaa (za F3);have MG:=zaa (zbz (s.later (za b3)) hx (lv:Int) (by omega));clear b3 F3
         go_wp2_with fail
         refine(za MG).mono ?_;rintro e U5 ⟨rfl,hb5⟩;clear MG m1 m2 hc;cases hmg:decide (((zav x.cf).length:Int)+(lv:Int)≤12000) with
         |false =>
          have hm2:¬ (((zav x.cf).length:Int)+(lv:Int)≤12000):=of_decide_eq_false hmg;have hd:zdz ⟨rh,rp,rl⟩ x=(6,x):=by
           rw[za DR,za LP,hg];simp only[if_neg h32,if_neg hm2]
          have ch:=zaa (Chg.below (h:=h) ((za b4).trans (hb5.mono (za b4).size)));have st5:=zaa (s.later ((za b4).trans (hb5.mono (za b4).size)));clear DR hb5 hmg hm2
          go_wp2
          go_ret
          rw[hd];exact⟨rfl,za st5,za ch⟩
         |true =>
          have hm2:(((zav x.cf).length:Int)+(lv:Int)≤12000):=of_decide_eq_true hmg;have hd:zdz ⟨rh,rp,rl⟩ x=(0,{ x with rs:=zev rpl ⟨rh,rp,rl⟩ x.rs }):=by
           rw[za DR,za LP,hg];simp only[if_neg h32,if_pos hm2]
          have b5:=zaa ((za b4).trans (hb5.mono (za b4).size));have F:=zaa (((za F4).trans (hb5.mono (za F4).size)).trans ((Below.refl _ _).drew.mono (show V.heap.size≤U5.heap.size by have:=(za F4).size;have:=hb5.size;omega)));have G:=zaa (show Below U5.heap.size U5 U5.drew from(Below.refl _ _).drew);have SB:=zaa (show ∀ W:World,Below V.heap.size V W→W.cell? ⟨h.S,2,none⟩=some (.map (some h.R))∧W.cell? ⟨B,0,none⟩=some (.string rh)∧W.cell? ⟨B,1,none⟩=some (.string rp)∧W.cell? ⟨B,2,none⟩=some (.string rl) from fun W hb=>⟨(za SS W hb).2.1,(za SS W hb).2.2.1,(za SS W hb).2.2.2.1,(za SS W hb).2.2.2.2.1⟩);clear DR hb5 hmg hm2
          go_wp2_with fail
          refine wp_region_held_drew (S:=fun w'=>w'.cell? ⟨h.S,2,none⟩=some (.map (some h.R))∧w'.cell? ⟨B,0,none⟩=some (.string rh)∧w'.cell? ⟨B,1,none⟩=some (.string rp)∧w'.cell? ⟨B,2,none⟩=some (.string rl)) (by kernel_rfl) ?_ (fun hHeld=>?_)
          ·try dsimp only
           first|exact za KC|exact za SB _ (za F)
          refine hT 0 ?_;refine hT 1 ?_;refine hT 2 ?_;refine hT 3 ?_;refine hT 4 ?_;refine hT 6 ?_;refine wpAnyH_ready (rs:=[5]) (by kernel_rfl) (by simp) ?_;refine AllReadyH.cons rfl (fun K hK=>?_) ?_
          ·go_simp
           go_at_call 103
           refine(zas _ ⟨rh,rp,rl⟩).mono ?_;rintro e U6 ⟨rfl,hb⟩;have F:=zaa ((za F).trans (hb.mono (za F).size));have G:=zaa ((za G).trans (hb.mono (za G).size));clear hb
           go_wp2_with fail
           refine hK.out _ _ ?_ (fun hHeld=>?_)
           ·try dsimp only
            first|exact za KC|exact za SB _ (za F)
           clear hK K;refine hP ?_;refine wpAnyH_ready (rs:=[7]) (by kernel_rfl) (by simp) ?_;refine AllReadyH.cons rfl (fun K hK=>?_) ?_
           ·have b6:=zaa ((za b5).trans ((za G).mono (za b5).size));obtain⟨W3,hput,sd,cd⟩:=(s.later (za b6)).putR ⟨rh,rp,rl⟩ (by simp only[maxLen];omega) hrn;simp only at hput
            have KC:=zaa (show W3.cell? ⟨h.S,2,none⟩=some (.map (some h.R))∧W3.cell? ⟨B,0,none⟩=some (.string rh)∧W3.cell? ⟨B,1,none⟩=some (.string rp)∧W3.cell? ⟨B,2,none⟩=some (.string rl) by
             obtain⟨t1,t2,t3,t4⟩:=s.lts;obtain⟨q1,q2,q3,q4⟩:=za SB _ (za F);have hk:W3.heap[B]? = U6.heap[B]?:=cd.block B (by have:=(za F).size;have:=za BV;omega) (by omega) (by omega) (by omega) (by omega)
             exact⟨sd.cell.2.2.1,(World.cell?_of_block hk).trans q2,(World.cell?_of_block hk).trans q3,(World.cell?_of_block hk).trans q4⟩)
            have SD:=zaa sd;have CD:=zaa ((Chg.below (h:=h) (za b6)).trans cd);clear sd cd;go_simp
            clear hput;refine hK.out _ _ ?_ (fun hHeld=>?_)
            ·try dsimp only
             first|exact za KC|exact za SB _ (za F)
            clear hK K;refine hP ?_;refine wpAnyH_done (by kernel_rfl) ?_ _
            go_wp2
            go_ret
            first
             |rw[hd]
             |skip
            exact⟨rfl,za SD,za CD⟩
           exact AllReadyH.nil
          exact AllReadyH.nil
       |true=>as_aux_lemma =>
        have hg:za9 rpl (rh,rp) x.rs=some ⟨oh,op,ol⟩:=by
         have h1:=za HJ;have h2:=za HQ;cases hg:za9 rpl (rh,rp) x.rs with
         |none=>rw[hg] at h1;cases h1
         |some v=>rw[hg] at h2;exact congrArg some h2
        have g1:=za GO _ hg;simp only at g1;have hlq:=zc9 ⟨oh,op,ol⟩ g1;have e0:=zab (za HE3) 0 _ rfl;have e1:=zab (za HE3) 1 _ rfl;have e2:=zab (za HE3) 2 _ rfl;have A2:=zaa (zf8 U3 ⟨oh,op,ol⟩ g1)
        go_wp2_with fail
        refine(za A2).mono ?_;rintro e U4 ⟨s4,c4,rfl,hb4⟩;have b4:=zaa ((za b3).trans (hb4.mono (za b3).size));have F4:=zaa ((za F3).trans (hb4.mono (za F3).size));clear b3 F3 hb4 A2 e0 e1 e2 m1 m2;generalize hlw:(zaw ⟨oh,op,ol⟩).length=lw at *;have MG:=zaa (zbz (s.later (za b4)) hx ((lv:Int) - (lw:Int)) (by omega))
        go_wp2_with fail
        refine(za MG).mono ?_;rintro e U5 ⟨rfl,hb5⟩;clear MG;cases hmg:decide (((zav x.cf).length:Int)+((lv:Int) - (lw:Int))≤12000) with
        |false =>
         have hm2:¬ (((zav x.cf).length:Int)+((lv:Int) - (lw:Int))≤12000):=of_decide_eq_false hmg;have hd:zdz ⟨rh,rp,rl⟩ x=(6,x):=by
          rw[za DR,za LP,hg];simp only[hlw,if_neg hm2]
         have ch:=zaa (Chg.below (h:=h) ((za b4).trans (hb5.mono (za b4).size)));have st5:=zaa (s.later ((za b4).trans (hb5.mono (za b4).size)));clear DR hb5 hmg hm2
         go_wp2
         go_ret
         rw[hd];exact⟨rfl,za st5,za ch⟩
        |true =>
         have hm2:(((zav x.cf).length:Int)+((lv:Int) - (lw:Int))≤12000):=of_decide_eq_true hmg;have hd:zdz ⟨rh,rp,rl⟩ x=(0,{ x with rs:=zev rpl ⟨rh,rp,rl⟩ x.rs }):=by
          rw[za DR,za LP,hg];simp only[hlw,if_pos hm2]
         have b5:=zaa ((za b4).trans (hb5.mono (za b4).size));have F:=zaa (((za F4).trans (hb5.mono (za F4).size)).trans ((Below.refl _ _).drew.mono (show V.heap.size≤U5.heap.size by have:=(za F4).size;have:=hb5.size;omega)));have G:=zaa (show Below U5.heap.size U5 U5.drew from(Below.refl _ _).drew);have SB:=zaa (show ∀ W:World,Below V.heap.size V W→W.cell? ⟨h.S,2,none⟩=some (.map (some h.R))∧W.cell? ⟨B,0,none⟩=some (.string rh)∧W.cell? ⟨B,1,none⟩=some (.string rp)∧W.cell? ⟨B,2,none⟩=some (.string rl) from fun W hb=>⟨(za SS W hb).2.1,(za SS W hb).2.2.1,(za SS W hb).2.2.2.1,(za SS W hb).2.2.2.2.1⟩);clear DR hb5 hmg hm2
         go_wp2_with fail
         refine wp_region_held_drew (S:=fun w'=>w'.cell? ⟨h.S,2,none⟩=some (.map (some h.R))∧w'.cell? ⟨B,0,none⟩=some (.string rh)∧w'.cell? ⟨B,1,none⟩=some (.string rp)∧w'.cell? ⟨B,2,none⟩=some (.string rl)) (by kernel_rfl) ?_ (fun hHeld=>?_)
         ·try dsimp only
          first|exact za KC|exact za SB _ (za F)
         refine hT 0 ?_;refine hT 1 ?_;refine hT 2 ?_;refine hT 3 ?_;refine hT 4 ?_;refine hT 6 ?_;refine wpAnyH_ready (rs:=[5]) (by kernel_rfl) (by simp) ?_;refine AllReadyH.cons rfl (fun K hK=>?_) ?_
         ·go_simp
          go_at_call 103
          refine(zas _ ⟨rh,rp,rl⟩).mono ?_;rintro e U6 ⟨rfl,hb⟩;have F:=zaa ((za F).trans (hb.mono (za F).size));have G:=zaa ((za G).trans (hb.mono (za G).size));clear hb
          go_wp2_with fail
          refine hK.out _ _ ?_ (fun hHeld=>?_)
          ·try dsimp only
           first|exact za KC|exact za SB _ (za F)
          clear hK K;refine hP ?_;refine wpAnyH_ready (rs:=[7]) (by kernel_rfl) (by simp) ?_;refine AllReadyH.cons rfl (fun K hK=>?_) ?_
          ·have b6:=zaa ((za b5).trans ((za G).mono (za b5).size));obtain⟨W3,hput,sd,cd⟩:=(s.later (za b6)).putR ⟨rh,rp,rl⟩ (by simp only[maxLen];omega) hrn;simp only at hput
           have KC:=zaa (show W3.cell? ⟨h.S,2,none⟩=some (.map (some h.R))∧W3.cell? ⟨B,0,none⟩=some (.string rh)∧W3.cell? ⟨B,1,none⟩=some (.string rp)∧W3.cell? ⟨B,2,none⟩=some (.string rl) by
            obtain⟨t1,t2,t3,t4⟩:=s.lts;obtain⟨q1,q2,q3,q4⟩:=za SB _ (za F);have hk:W3.heap[B]? = U6.heap[B]?:=cd.block B (by have:=(za F).size;have:=za BV;omega) (by omega) (by omega) (by omega) (by omega)
            exact⟨sd.cell.2.2.1,(World.cell?_of_block hk).trans q2,(World.cell?_of_block hk).trans q3,(World.cell?_of_block hk).trans q4⟩)
           have SD:=zaa sd;have CD:=zaa ((Chg.below (h:=h) (za b6)).trans cd);clear sd cd;go_simp
           clear hput;refine hK.out _ _ ?_ (fun hHeld=>?_)
           ·try dsimp only
            first|exact za KC|exact za SB _ (za F)
           clear hK K;refine hP ?_;refine wpAnyH_done (by kernel_rfl) ?_ _
           go_wp2
           go_ret
           first
            |rw[hd]
            |skip
           exact⟨rfl,za SD,za CD⟩
          exact AllReadyH.nil
         exact AllReadyH.nil
      exact AllReadyH.nil
     exact AllReadyH.nil
    exact AllReadyH.nil
  exact AllReadyH.nil
 exact AllReadyH.nil
end Go.Proofs.YtjcjleaicjhpeaaGreatDoor
