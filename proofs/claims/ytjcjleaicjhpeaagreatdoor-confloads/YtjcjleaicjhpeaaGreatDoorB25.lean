/- Conf: what Load asks of a route. -/
import Derived.Test.YtjcjleaicjhpeaaGreatDoorB19
import Derived.Test.YtjcjleaicjhpeaaGreatDoorB06
set_option linter.unusedVariables false
set_option maxRecDepth 20000
set_option maxHeartbeats 16000000
namespace Go.Proofs.YtjcjleaicjhpeaaGreatDoor
open Go.ChangeShapes Go.WideShapes Go.ChangeAt Go.RowKit
def zaz (x:Sm) (r:Rt):Bool:=zbw r.h&&(zc5 r.p&&(za9 qnm r.l x.ps).isSome)
theorem zhn {w:World} {h:StH} {x:Sm} (s:StAt w h x) (hm:Mx w) (rh rp rl:ByteArray) (hr:rh.size≤1000000∧rp.size≤1000000∧rl.size≤1000000) :
  Calls Tryz.prog 116 #[.pointer (some ⟨h.S,0,none⟩),.agg #[.string rh,.string rp,.string rl]] w fun e w'=>e=.returned (.bool (zaz x ⟨rh,rp,rl⟩))∧Below w.heap.size w w':=by
 have b1:=zaa (show Below w.heap.size w (w.alloc (.cells #[.string rh,.string rp,.string rl] 56)) from(Below.refl _ _).alloc (Nat.le_refl _) _);have X1:=zaa (zad w (.cells #[.string rh,.string rp,.string rl] 56))
 have SS:=zaa (show ∀ W:World,Below (w.alloc (.cells #[.string rh,.string rp,.string rl] 56)).heap.size (w.alloc (.cells #[.string rh,.string rp,.string rl] 56)) W→W.cell? ⟨h.S,1,none⟩=some (.map (some h.P))∧W.cell? ⟨w.heap.size,0,none⟩=some (.string rh)∧W.cell? ⟨w.heap.size,1,none⟩=some (.string rp)∧W.cell? ⟨w.heap.size,2,none⟩=some (.string rl)∧(Instr.lookup 75 (.map (some h.P)) (.string rl) true).run Tryz.prog W=.ok (.tuple #[pqV ((za9 qnm rl x.ps).getD ⟨⟨⟨#[]⟩,[]⟩,none,0⟩),.bool (za9 qnm rl x.ps).isSome]) W from fun W hb=>by
  have st:=s.later ((za b1).trans (hb.mono (za b1).size));have hk:=zac hb (za X1)
  exact⟨st.cell.2.1,zab hk 0 _ rfl,zab hk 1 _ rfl,zab hk 2 _ rfl,zr7 st rl (by simp only[maxLen];omega)⟩)
 have FH:=zaa (fun (W:World) (hb:Below w.heap.size w W)=>zhf rh (by omega) W (hm.later hb));have FP:=zaa (fun (W:World)=>zfq rp (by omega) W);have EQ:=zaa (show zaz x ⟨rh,rp,rl⟩=(zbw rh&&(zc5 rp&&(za9 qnm rl x.ps).isSome)) from rfl);generalize zaz x ⟨rh,rp,rl⟩=ok at *;generalize zbw rh=c1 at *;generalize zc5 rp=c2 at *;clear s hm;go_enter Tryz.func116,Tryz.ntmps116
 go_wp2_with fail
 generalize hB:w.heap.size=B at *;generalize w.alloc (.cells #[.string rh,.string rp,.string rl] 56)=V at *;have BV:=zaa (show B<V.heap.size from(Array.getElem?_eq_some_iff.1 (za X1)).1);generalize hq:((za9 qnm rl x.ps).getD ⟨⟨⟨#[]⟩,[]⟩,none,0⟩)=q at *;generalize hi:(za9 qnm rl x.ps).isSome=ii at *;have F:=zaa (show Below V.heap.size V V.drew from(Below.refl _ _).drew);clear hi hq;obtain⟨⟨qn,qt⟩,qa,qc⟩:=q;simp only[pqV] at SS;refine wp_region_held_drew (S:=fun w'=>w'.cell? ⟨h.S,1,none⟩=some (.map (some h.P))∧w'.cell? ⟨B,2,none⟩=some (.string rl)∧(Instr.lookup 75 (.map (some h.P)) (.string rl) true).run Tryz.prog w'=.ok (.tuple #[.agg #[.string qn,.slice qa qt.length qc],.bool ii]) w') (by kernel_rfl) ?_ (fun hHeld=>?_)
 ·try dsimp only
  exact⟨(za SS _ (za F)).1,(za SS _ (za F)).2.2.2.1,(za SS _ (za F)).2.2.2.2⟩
 refine hT 0 ?_;refine hT 1 ?_;refine hT 2 ?_;refine hT 3 ?_;refine hT 4 ?_;refine hT 5 ?_;refine hT 6 ?_;refine hT 7 ?_;refine hT 8 ?_;refine hT 9 ?_;refine wpAnyH_ready (rs:=[10]) (by kernel_rfl) (by simp) ?_;refine AllReadyH.cons rfl (fun K hK=>?_) ?_
 ·refine znz rfl rfl ?_;intro E U hE hEn hb;have LE:=zaa (show V.heap.size≤E by rw[← hE];exact(za F).size);have HE:=zaa hEn;have F:=zaa ((za F).trans (hb.mono (za F).size));clear hE hEn hb;refine hK.out _ _ ?_ (fun hHeld=>?_)
  ·try dsimp only
   exact⟨(za SS _ (za F)).1,(za SS _ (za F)).2.2.2.1,(za SS _ (za F)).2.2.2.2⟩
  clear hK K;refine hP ?_;refine wpAnyH_ready (rs:=[11]) (by kernel_rfl) (by simp) ?_;refine AllReadyH.cons rfl (fun K hK=>?_) ?_
  ·have z0:=zab (za HE) 0 _ rfl;have z1:=zab (za HE) 1 _ rfl;have f0:U.frozen? ⟨E,0,none⟩=false:=by simp[World.frozen?,za HE]
   have f1:U.frozen? ⟨E,1,none⟩=false:=by simp[World.frozen?,za HE]
   have a1:=zru (x:=.string qn) (y:=.slice qa qt.length qc) (za HE);have F:=zaa ((za F).grown a1.2 (za F).size (fun g e=>by have:=Option.some.inj e;have:=za LE;omega));clear a1;go_simp
   clear z0 z1 f0 f1;refine hK.out _ _ ?_ (fun hHeld=>?_)
   ·try dsimp only
    exact⟨(za SS _ (za F)).1,(za SS _ (za F)).2.2.2.1,(za SS _ (za F)).2.2.2.2⟩
   clear hK K;refine hP ?_;refine hT 12 ?_;refine wpAnyH_done (by kernel_rfl) ?_ _;generalize ((U.setCell ⟨E,0,none⟩ (.string qn)).setCell ⟨E,1,none⟩ (.slice qa qt.length qc))=U2 at *;clear hHeld HE LE;have b2:=zaa (show Below w.heap.size w U2 by rw[hB];exact(za b1).trans ((za F).mono (by have:=(za b1).size;omega)));have d0:=(za SS _ (za F)).2.1;have FH2:=zaa (za FH U2 (by rw[← hB];exact za b2))
   go_wp2_with fail
   go_at_call 76
   refine(za FH2).mono ?_;rintro e W1 ⟨rfl,u1⟩;have F:=zaa ((za F).trans (u1.mono (za F).size));have b2:=zaa ((za b2).trans (u1.mono (za b2).size));have d1:=(za SS _ (za F)).2.2.1;clear u1 d0 FH2 FH;cases c1 with
   |false=>as_aux_lemma =>
    have e1:ok=false:=by rw[za EQ];rfl
    subst e1
    go_wp2
    go_ret
    exact⟨rfl,za b2⟩
   |true =>
    have FP2:=zaa (za FP W1)
    go_wp2_with fail
    go_at_call 77
    refine(za FP2).mono ?_;rintro e W2 ⟨rfl,u2⟩;have b2:=zaa ((za b2).trans (u2.mono (za b2).size));clear u2 FP2 d1;have e1:ok=(c2&&ii):=by rw[za EQ];rfl
    subst e1;cases c2 with
    |false=>as_aux_lemma =>
     go_wp2
     go_ret
     exact⟨rfl,za b2⟩
    |true=>as_aux_lemma =>
     go_wp2
     go_ret
     exact⟨rfl,za b2⟩
  exact AllReadyH.nil
 exact AllReadyH.nil
end Go.Proofs.YtjcjleaicjhpeaaGreatDoor
