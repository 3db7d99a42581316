/- Conf: both stores tell the same. -/
import Derived.Test.YtjcjleaicjhpeaaGreatDoorB28
import Derived.Test.YtjcjleaicjhpeaaGreatDoorB29
import Derived.Test.YtjcjleaicjhpeaaGreatDoorB30
import Derived.Deep.CutBlock
import Derived.Deep.DeepCutAuto
set_option linter.unusedVariables false
set_option maxRecDepth 20000
set_option maxHeartbeats 16000000
namespace Go.Proofs.YtjcjleaicjhpeaaGreatDoor
open Go.ChangeShapes Go.WideShapes Go.ChangeAt Go.RowKit
theorem Po8.conf {j b:Nat} {w:World} {h:StH} {z:Sm} (p:Po8 j b w h z) (hj:j≤800) :
  Calls Tryz.prog 19 #[.pointer (some ⟨h.S,0,none⟩)] w fun e w'=>∃ k,e=.returned (zcl z.cf k)∧CfAt w' z.cf k∧Below w.heap.size w w'∧(∃ l,OwnPq w.heap.size w' k.pa k.pc l∧l.map Pq.po=z.ps.map Pq.po)∧zdw w.heap.size w' k.ra k.rc z.rs:=by
 obtain⟨x,h1,h2,h3,h4,h5⟩:=p.ex;have:=zcz h1 (h4.ok (by omega));rw[h2.cf,h2.rs,h2.ps] at this;exact this
theorem Po8.put {j b:Nat} {w:World} {h:StH} {z:Sm} (p:Po8 j b w h z) (hj:j≤800) :
  Calls Tryz.prog 22 #[.pointer (some ⟨h.S,0,none⟩)] w fun e w'=>∃ sp n c,e=.returned (.slice sp n c)∧Hid ((zh2 z).length=n)∧OwnB w.heap.size w' sp c (zh2 z)∧Below w.heap.size w w':=by
 obtain⟨x,h1,h2,h3,h4,h5⟩:=p.ex;have:=zjb h1 (h4.ok (by omega)) h5 (by have:=h4.vr;omega);rw[h2.put] at this;exact this
theorem Po8.seen {j b:Nat} {w:World} {h:StH} {z:Sm} (p:Po8 j b w h z) (id:Int) (hid:-9223372036854775808≤id∧id≤9223372036854775807) :
  Calls Tryz.prog 17 #[.pointer (some ⟨h.S,0,none⟩),.int .i64 id] w fun e w'=>e=.returned (.tuple #[.int .i64 ((zat lid id z.cl).getD ⟨id,0,0,0⟩).seq,.agg #[.int .i64 ((zat lid id z.cl).getD ⟨id,0,0,0⟩).e,.int .i64 ((zat lid id z.cl).getD ⟨id,0,0,0⟩).ver]])∧Below w.heap.size w w':=by
 obtain⟨x,h1,h2,h3,h4,h5⟩:=p.ex;have:=zil h1 id hid;rw[h2.cl] at this;exact this
theorem Ro8.conf {j b:Nat} {w:World} {r:Nat} {z:Sm} (p:Ro8 j b w r z) (hj:j≤800) :
  Calls Tryz.prog 33 #[.pointer (some ⟨r,0,none⟩)] w fun e w'=>∃ k,e=.returned (zcl z.cf k)∧CfAt w' z.cf k∧Below w.heap.size w w':=by
 obtain⟨x,k,h1,h2,h3,h4,h5⟩:=p.ex;have:=zim h1 h4 (by omega);rw[h2.cf] at this;exact this
theorem Ro8.put {j b:Nat} {w:World} {r:Nat} {z:Sm} (p:Ro8 j b w r z) (hj:j≤800) :
  Calls Tryz.prog 34 #[.pointer (some ⟨r,0,none⟩)] w fun e w'=>∃ sp n c,e=.returned (.slice sp n c)∧Hid ((zh2 z).length=n)∧OwnB w.heap.size w' sp c (zh2 z)∧Below w.heap.size w w':=by
 obtain⟨x,k,h1,h2,h3,h4,h5⟩:=p.ex;have:=zio h1 h4 (by omega) h5 (by have:=h4.vr;omega);rw[h2.put] at this;exact this
theorem Ro8.seen {j b:Nat} {w:World} {r:Nat} {z:Sm} (p:Ro8 j b w r z) (hj:j≤800) (id:Int) :
  Calls Tryz.prog 35 #[.pointer (some ⟨r,0,none⟩),.int .i64 id] w fun e w'=>e=.returned (.tuple #[.int .i64 ((zat lid id z.cl).getD ⟨id,0,0,0⟩).seq,.agg #[.int .i64 ((zat lid id z.cl).getD ⟨id,0,0,0⟩).e,.int .i64 ((zat lid id z.cl).getD ⟨id,0,0,0⟩).ver]])∧Below w.heap.size w w':=by
 obtain⟨x,k,h1,h2,h3,h4,h5⟩:=p.ex;have:=zfx h1.lw rfl (by have:=h4.cn;omega) h1.hd id;rw[h2.cl] at this;exact this
theorem zjg {j b:Nat} {w:World} {h:StH} {r:Nat} {z:Sm} (p:Po8 j b w h z) (q:Ro8 j b w r z) (hj:j≤800) :
  Calls Tryz.prog 14 #[.pointer (some ⟨h.S,0,none⟩),.pointer (some ⟨r,0,none⟩)] w fun e w'=>e=.returned (.bool true)∧Below w.heap.size w w':=by
 have FC:=zaa (fun (W:World) (hb:Below w.heap.size w W)=>(p.later hb).conf hj);have FP:=zaa (fun (W:World) (hb:Below w.heap.size w W)=>(p.later hb).put hj);have FS:=zaa (fun (W:World) (hb:Below w.heap.size w W) (k:Nat) (hk:k≤40)=>(p.later hb).seen ((k:Int) - 1) (by omega));have GC:=zaa (fun (W:World) (hb:Below w.heap.size w W)=>(q.later hb).conf hj);have GP:=zaa (fun (W:World) (hb:Below w.heap.size w W)=>(q.later hb).put hj);have GS:=zaa (fun (W:World) (hb:Below w.heap.size w W) (k:Nat)=>(q.later hb).seen hj ((k:Int) - 1));generalize z.cf=cf at *;generalize zh2 z=PS at *;clear p q;have BD:=zaa (show Below w.heap.size w w.drew from(Below.refl _ _).drew);go_enter Tryz.func14,Tryz.ntmps14
 go_upto_block 0 with fail
 go_cut [24] (fun v wc=>v=.bool false∧Hid (Below w.heap.size w wc))
 case first =>
  go_wp2_with fail
  refine wp_region_held_drew (S:=fun W=>True) (by kernel_rfl) ?_ (fun hHeld=>?_)
  ·try dsimp only
   all_goals trivial
  refine hT 0 ?_;refine hT 2 ?_;refine wpAnyH_ready (rs:=[1]) (by kernel_rfl) (by simp) ?_;refine AllReadyH.cons rfl (fun K hK=>?_) ?_
  ·go_simp
   go_at_call 19
   refine(za FC _ (za BD)).mono ?_;rintro e U1 ⟨k1,rfl,cf1,u1,_,_⟩;have BD:=zaa ((za BD).trans (u1.mono (za BD).size));have CF1:=zaa cf1;clear u1 cf1
   go_wp2_with fail
   refine hK.out _ _ ?_ (fun hHeld=>?_)
   ·try dsimp only
    all_goals trivial
   clear hK K;refine hP ?_;refine wpAnyH_ready (rs:=[3]) (by kernel_rfl) (by simp) ?_;refine AllReadyH.cons rfl (fun K hK=>?_) ?_
   ·go_simp
    go_at_call 33
    refine(za GC _ (za BD)).mono ?_;rintro e U2 ⟨k2,rfl,cf2,u2⟩;have SC:=zaa (zjh ((za CF1).later u2) cf2);have BD:=zaa ((za BD).trans (u2.mono (za BD).size));clear u2 cf2
    go_wp2_with fail
    refine hK.out _ _ ?_ (fun hHeld=>?_)
    ·try dsimp only
     all_goals trivial
    clear hK K;refine hP ?_;refine wpAnyH_ready (rs:=[4]) (by kernel_rfl) (by simp) ?_;refine AllReadyH.cons rfl (fun K hK=>?_) ?_
    ·go_simp
     go_at_call 21
     refine(za SC).mono ?_;rintro e U3 ⟨rfl,u3⟩;have BD:=zaa ((za BD).trans (u3.mono (za BD).size));clear u3
     go_wp2_with fail
     refine hK.out _ _ ?_ (fun hHeld=>?_)
     ·try dsimp only
      all_goals trivial
     clear hK K;refine hP ?_;refine hT 5 ?_;refine hT 6 ?_;refine hT 7 ?_;refine hT 10 ?_;refine wpAnyH_ready (rs:=[8]) (by kernel_rfl) (by simp) ?_;refine AllReadyH.cons rfl (fun K hK=>?_) ?_
     ·go_simp
      go_at_call 22
      refine(za FP _ (za BD)).mono ?_;rintro e U4 ⟨sp1,n1,c1,rfl,hn1,ho1,u4⟩;have BD:=zaa ((za BD).trans (u4.mono (za BD).size));have P1:=zaa ho1.bytes;clear u4 ho1
      go_wp2_with fail
      refine hK.out _ _ ?_ (fun hHeld=>?_)
      ·try dsimp only
       all_goals trivial
      clear hK K;refine hP ?_;refine wpAnyH_ready (rs:=[9,11]) (by kernel_rfl) (by simp) ?_;refine AllReadyH.cons rfl (fun K hK=>?_) ?_
      ·have s1:=zc n1 c1 (za hn1) (za P1);go_simp
       clear s1;refine hK.out _ _ ?_ (fun hHeld=>?_)
       ·try dsimp only
        all_goals trivial
       clear hK K;refine hP ?_;refine wpAnyH_ready (rs:=[11]) (by kernel_rfl) (by simp) ?_;refine AllReadyH.cons rfl (fun K hK=>?_) ?_
       ·go_simp
        go_at_call 34
        refine(za GP _ (za BD)).mono ?_;rintro e U5 ⟨sp2,n2,c2,rfl,hn2,ho2,u5⟩;have BD:=zaa ((za BD).trans (u5.mono (za BD).size));have P1:=zaa ((za P1).later u5);have P2:=zaa ho2.bytes;clear u5 ho2
        go_wp2_with fail
        refine hK.out _ _ ?_ (fun hHeld=>?_)
        ·try dsimp only
         all_goals trivial
        clear hK K;refine hP ?_;refine wpAnyH_ready (rs:=[12]) (by kernel_rfl) (by simp) ?_;refine AllReadyH.cons rfl (fun K hK=>?_) ?_
        ·have s2:=zc n2 c2 (za hn2) (za P2);go_simp
         clear s2;refine hK.out _ _ ?_ (fun hHeld=>?_)
         ·try dsimp only
          all_goals trivial
         clear hK K;refine hP ?_;refine hT 13 ?_;refine hT 14 ?_;refine wpAnyH_done (by kernel_rfl) ?_ _
         go_wp2_with fail
         go_meet
         case rel=>exact⟨rfl,BD⟩
        exact AllReadyH.nil
       exact AllReadyH.nil
      refine AllReadyH.cons rfl (fun K hK=>?_) ?_
      ·go_simp
       go_at_call 34
       refine(za GP _ (za BD)).mono ?_;rintro e U5 ⟨sp2,n2,c2,rfl,hn2,ho2,u5⟩;have BD:=zaa ((za BD).trans (u5.mono (za BD).size));have P1:=zaa ((za P1).later u5);have P2:=zaa ho2.bytes;clear u5 ho2
       go_wp2_with fail
       refine hK.out _ _ ?_ (fun hHeld=>?_)
       ·try dsimp only
        all_goals trivial
       clear hK K;refine hP ?_;refine wpAnyH_ready (rs:=[9,12]) (by kernel_rfl) (by simp) ?_;refine AllReadyH.cons rfl (fun K hK=>?_) ?_
       ·have s1:=zc n1 c1 (za hn1) (za P1);go_simp
        clear s1;refine hK.out _ _ ?_ (fun hHeld=>?_)
        ·try dsimp only
         all_goals trivial
        clear hK K;refine hP ?_;refine wpAnyH_ready (rs:=[12]) (by kernel_rfl) (by simp) ?_;refine AllReadyH.cons rfl (fun K hK=>?_) ?_
        ·have s2:=zc n2 c2 (za hn2) (za P2);go_simp
         clear s2;refine hK.out _ _ ?_ (fun hHeld=>?_)
         ·try dsimp only
          all_goals trivial
         clear hK K;refine hP ?_;refine hT 13 ?_;refine hT 14 ?_;refine wpAnyH_done (by kernel_rfl) ?_ _
         go_wp2_with fail
         go_meet
         case rel=>exact⟨rfl,BD⟩
        exact AllReadyH.nil
       refine AllReadyH.cons rfl (fun K hK=>?_) ?_
       ·have s2:=zc n2 c2 (za hn2) (za P2);go_simp
        clear s2;refine hK.out _ _ ?_ (fun hHeld=>?_)
        ·try dsimp only
         all_goals trivial
        clear hK K;refine hP ?_;refine wpAnyH_ready (rs:=[9]) (by kernel_rfl) (by simp) ?_;refine AllReadyH.cons rfl (fun K hK=>?_) ?_
        ·have s1:=zc n1 c1 (za hn1) (za P1);go_simp
         clear s1;refine hK.out _ _ ?_ (fun hHeld=>?_)
         ·try dsimp only
          all_goals trivial
         clear hK K;refine hP ?_;refine hT 13 ?_;refine hT 14 ?_;refine wpAnyH_done (by kernel_rfl) ?_ _
         go_wp2_with fail
         go_meet
         case rel=>exact⟨rfl,BD⟩
        exact AllReadyH.nil
       exact AllReadyH.nil
      exact AllReadyH.nil
     exact AllReadyH.nil
    exact AllReadyH.nil
   exact AllReadyH.nil
  exact AllReadyH.nil
 case rest =>
  obtain⟨rfl,BD⟩:=hcut
  go_wp2_with fail
  go_loopw [5,6,7,8,9] (fun k _ _ _ _ wr=>∃ t:Nat,t≤35∧k=.int .i64 ((t:Int) - 1)∧Hid (Below w.heap.size w wr)) (fun k _ _ _ _ _=>36 - ((intOf k)+1).toNat)
  case atStart=>exact⟨0,by omega,rfl,BD⟩
  case round =>
   obtain⟨t,ht,rfl,BB⟩:=hrel;by_cases htm:t<35
   ·as_aux_lemma =>
    have y1:(t:Int) - 1≤33:=by omega
    have C1:=zaa (za FS wr (za BB) t (by omega));have HG:=zaa (za GS);generalize hid:(zat lid ((t:Int) - 1) z.cl).getD ⟨(t:Int) - 1,0,0,0⟩=tl at *;have HI:=zaa hid;clear hid;obtain⟨ti,tseq,te,tver⟩:=tl;dsimp only at C1
    go_wp2_with fail
    refine(za C1).mono ?_;rintro e U1 ⟨rfl,u1⟩;have b1:=zaa ((za BB).trans (u1.mono (za BB).size));have b2:=zaa (show Below U1.heap.size U1 (U1.alloc (.cells #[.int .i64 te,.int .i64 tver] 38)) from(Below.refl _ _).alloc (Nat.le_refl _) _);have X2:=zaa (zad U1 (.cells #[.int .i64 te,.int .i64 tver] 38));have b3:=zaa ((za b1).trans ((za b2).mono (za b1).size));have C2:=zaa (za HG _ (za b3) t);rw[za HI] at C2;dsimp only at C2;clear u1 C1
    go_wp2_with fail
    refine(za C2).mono ?_;rintro e U3 ⟨rfl,u3⟩;have b4:=zaa ((za b3).trans (u3.mono (za b3).size));have b5:=zaa (show Below U3.heap.size U3 (U3.alloc (.cells #[.int .i64 te,.int .i64 tver] 38)) from(Below.refl _ _).alloc (Nat.le_refl _) _);have X5:=zac (za b5) (zac u3 (za X2));have X4:=zad U3 (.cells #[.int .i64 te,.int .i64 tver] 38);have b6:=zaa ((za b4).trans ((za b5).mono (za b4).size));have e0:=zab X5 0 (.int .i64 te) rfl;have e1:=zab X5 1 (.int .i64 tver) rfl;have g0:=zab X4 0 (.int .i64 te) rfl;have g1:=zab X4 1 (.int .i64 tver) rfl;have NE:=zn3 te tver;have hwr:IntKind.i64.wrap ((t:Int) - 1+1)=(t:Int):=by rw[IntKind.wrap_i64];omega
    clear u3 C2 X4 X5
    go_wp2
    exact⟨⟨t+1,by omega,congrArg (Value.int .i64) (by omega),b6⟩,by simp[intOf];omega⟩
   ·as_aux_lemma =>
    have y1:¬ (t:Int) - 1≤33:=by omega
    go_wp2
    go_ret
    exact⟨rfl,za BB⟩
end Go.Proofs.YtjcjleaicjhpeaaGreatDoor
