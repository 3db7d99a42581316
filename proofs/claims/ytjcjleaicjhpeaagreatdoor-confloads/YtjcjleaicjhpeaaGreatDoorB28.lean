/- Conf: rise. -/
import Derived.Test.YtjcjleaicjhpeaaGreatDoorB27
import Derived.Test.YtjcjleaicjhpeaaGreatDoorB24
import Derived.Test.YtjcjleaicjhpeaaGreatDoorB04
set_option linter.unusedVariables false
set_option maxRecDepth 20000
set_option maxHeartbeats 16000000
namespace Go.Proofs.YtjcjleaicjhpeaaGreatDoor
section
open Go.ChangeShapes Go.WideShapes Go.ChangeAt Go.RowKit
theorem znm {w:World} {sp:Option Addr} {l:List Rt} (c:Nat) (hL:∀ W:World,Below w.heap.size w W→∀ j (hj:j<l.length),∃ g,sp=some ⟨g,0,none⟩∧W.cell? ⟨g,j*3,none⟩=some (.string l[j].h)∧W.cell? ⟨g,j*3+1,none⟩=some (.string l[j].p)∧W.cell? ⟨g,j*3+2,none⟩=some (.string l[j].l)) (hn:l.length≤100) :
  Calls Tryz.prog 106 #[.slice sp l.length c,.func (.func 107) #[] #[]] w fun e w'=>e=.returned (.bool (zat (l.map rpl)))∧Below w.heap.size w w':=by
 have LL:=zaa hL
 have KX:=zaa (show ∀ (j:Nat) (hj:j+1<l.length),zat ((l.map rpl).drop j)=(decide (Kord.lt (rpl l[j]) (rpl l[j+1]))&&zat ((l.map rpl).drop (j+1))) from fun j hj=>by
  rw[zg7 (l.map rpl) j (by simpa using hj),List.getElem_map,List.getElem_map])
 have KS:=zaa (show ∀ j,l.length≤j+1→zat ((l.map rpl).drop j)=true from fun j hj=>zf0 (l.map rpl) j (by simpa using hj));have hE:=zo6;generalize hks:l.map rpl=ks at *;generalize hR:zat ks=R at *;clear hL;go_enter Tryz.func106,Tryz.ntmps106
 go_wp2_with fail
 go_loopw [5] (fun i wr=>∃ j:Nat,j≤l.length∧i=.int .i64 ((j:Int)+1)∧Hid (R=zat (ks.drop j))∧Hid (Below w.heap.size w wr)) (fun i _=>l.length+5 - (intOf i).toNat)
 case atStart=>exact⟨0,by omega,rfl,zaa (by rw[List.drop_zero];exact hR.symm),Below.refl _ _⟩
 case round =>
  obtain⟨j,hj,rfl,HR,F⟩:=hrel;by_cases hjm:j+1<l.length
  ·as_aux_lemma =>
   have y0:(0:Int)≤(j:Int):=by omega
   have y1:(j:Int)+1<(l.length:Int):=by omega
   have y2:(0:Int)≤(j:Int)+1:=by omega
   have y3:(j:Int)<(l.length:Int):=by omega
   have hw:IntKind.i64.wrap (j:Int)=(j:Int):=by rw[IntKind.wrap_i64];omega
   have ht:((j:Int)+1).toNat=j+1:=by omega
   have NX:=zaa (za KX j hjm)
   have CE:=zaa (show ∀ W:World,Below w.heap.size w W→∃ g,sp=some ⟨g,0,none⟩∧W.cell? ⟨g,j*3,none⟩=some (.string l[j].h)∧W.cell? ⟨g,j*3+1,none⟩=some (.string l[j].p)∧W.cell? ⟨g,j*3+2,none⟩=some (.string l[j].l)∧W.cell? ⟨g,(j+1)*3,none⟩=some (.string l[j+1].h)∧W.cell? ⟨g,(j+1)*3+1,none⟩=some (.string l[j+1].p)∧W.cell? ⟨g,(j+1)*3+2,none⟩=some (.string l[j+1].l) from fun W hb=>by
    obtain⟨g,h1,h2⟩:=za LL W hb j (by omega);obtain⟨g',h1',h2'⟩:=za LL W hb (j+1) hjm;have e:=h1.symm.trans h1';simp only[Option.some.injEq,Addr.mk.injEq,and_true] at e;subst e
    exact⟨g,h1,h2.1,h2.2.1,h2.2.2,h2'⟩)
   generalize l[j]=xa at *;generalize l[j+1]=xb at *;obtain⟨ah,ap,al⟩:=xa;obtain⟨bh,bp,bl⟩:=xb;dsimp only[rpl] at CE NX;have F:=zaa (show Below w.heap.size w wr.drew from(za F).drew);obtain⟨g,rfl,_⟩:=za CE _ (za F)
   have CG:=zaa (show ∀ W:World,Below w.heap.size w W→W.cell? ⟨g,j*3,none⟩=some (.string ah)∧W.cell? ⟨g,j*3+1,none⟩=some (.string ap)∧W.cell? ⟨g,j*3+2,none⟩=some (.string al)∧W.cell? ⟨g,(j+1)*3,none⟩=some (.string bh)∧W.cell? ⟨g,(j+1)*3+1,none⟩=some (.string bp)∧W.cell? ⟨g,(j+1)*3+2,none⟩=some (.string bl) from fun W hb=>by
    obtain⟨g',e,h⟩:=za CE W hb;simp only[Option.some.injEq,Addr.mk.injEq,and_true] at e;subst e
    exact h)
   by_cases hlt:Kord.lt (ah,ap) (bh,bp)
   ·as_aux_lemma =>
    have hv:=zmv hlt;have RN:=zaa (show R=zat (ks.drop (j+1)) by rw[za HR,za NX];simp[show Kord.lt (ah,ap) (bh,bp) from hlt]);clear hR hlt
    go_wp2_with fail
    refine wp_region_held_drew (S:=fun W=>W.cell? ⟨g,j*3,none⟩=some (.string ah)∧W.cell? ⟨g,j*3+1,none⟩=some (.string ap)∧W.cell? ⟨g,j*3+2,none⟩=some (.string al)∧W.cell? ⟨g,(j+1)*3,none⟩=some (.string bh)∧W.cell? ⟨g,(j+1)*3+1,none⟩=some (.string bp)∧W.cell? ⟨g,(j+1)*3+2,none⟩=some (.string bl)) (by kernel_rfl) ?_ (fun hHeld=>?_)
    ·try dsimp only
     exact za CG _ (za F)
    refine hT 0 ?_;refine hT 1 ?_;refine hT 2 ?_;refine hT 3 ?_;refine hT 4 ?_;refine hT 5 ?_;refine hT 6 ?_;refine hT 7 ?_;refine hT 8 ?_;refine hT 9 ?_;refine hO 10 (fun K hK=>?_);go_simp
    first
     |(go_at_call 107
       refine(zgy ah ap al bh bp bl _).mono ?_;rintro e U1 ⟨rfl,u1⟩;rw[hv];have F:=zaa ((za F).trans (u1.mono (za F).size))
       clear u1)
    go_wp2_with fail
    refine hK.out _ _ ?_ (fun hHeld=>?_)
    ·try dsimp only
     exact za CG _ (za F)
    clear hK K;refine hP ?_;refine hT 11 ?_;refine wpAnyH_done (by kernel_rfl) ?_ _
    go_wp2
    exact⟨⟨j+1,by omega,by go_num,RN,F⟩,by simp[intOf];omega⟩
   ·as_aux_lemma =>
    have RN:=zaa (show R=false by rw[za HR,za NX];simp[show ¬ Kord.lt (ah,ap) (bh,bp) from hlt]);rcases zmu hlt with hv|hv
    ·as_aux_lemma =>
     clear hR hlt
     go_wp2_with fail
     refine wp_region_held_drew (S:=fun W=>W.cell? ⟨g,j*3,none⟩=some (.string ah)∧W.cell? ⟨g,j*3+1,none⟩=some (.string ap)∧W.cell? ⟨g,j*3+2,none⟩=some (.string al)∧W.cell? ⟨g,(j+1)*3,none⟩=some (.string bh)∧W.cell? ⟨g,(j+1)*3+1,none⟩=some (.string bp)∧W.cell? ⟨g,(j+1)*3+2,none⟩=some (.string bl)) (by kernel_rfl) ?_ (fun hHeld=>?_)
     ·try dsimp only
      exact za CG _ (za F)
     refine hT 0 ?_;refine hT 1 ?_;refine hT 2 ?_;refine hT 3 ?_;refine hT 4 ?_;refine hT 5 ?_;refine hT 6 ?_;refine hT 7 ?_;refine hT 8 ?_;refine hT 9 ?_;refine hO 10 (fun K hK=>?_);go_simp
     first
      |(go_at_call 107
        refine(zgy ah ap al bh bp bl _).mono ?_;rintro e U1 ⟨rfl,u1⟩;rw[hv];have F:=zaa ((za F).trans (u1.mono (za F).size))
        clear u1)
     go_wp2_with fail
     refine hK.out _ _ ?_ (fun hHeld=>?_)
     ·try dsimp only
      exact za CG _ (za F)
     clear hK K;refine hP ?_;refine hT 11 ?_;refine wpAnyH_done (by kernel_rfl) ?_ _
     go_wp2
     go_ret
     rw[za RN];exact⟨rfl,za F⟩
    ·as_aux_lemma =>
     clear hR hlt
     go_wp2_with fail
     refine wp_region_held_drew (S:=fun W=>W.cell? ⟨g,j*3,none⟩=some (.string ah)∧W.cell? ⟨g,j*3+1,none⟩=some (.string ap)∧W.cell? ⟨g,j*3+2,none⟩=some (.string al)∧W.cell? ⟨g,(j+1)*3,none⟩=some (.string bh)∧W.cell? ⟨g,(j+1)*3+1,none⟩=some (.string bp)∧W.cell? ⟨g,(j+1)*3+2,none⟩=some (.string bl)) (by kernel_rfl) ?_ (fun hHeld=>?_)
     ·try dsimp only
      exact za CG _ (za F)
     refine hT 0 ?_;refine hT 1 ?_;refine hT 2 ?_;refine hT 3 ?_;refine hT 4 ?_;refine hT 5 ?_;refine hT 6 ?_;refine hT 7 ?_;refine hT 8 ?_;refine hT 9 ?_;refine hO 10 (fun K hK=>?_);go_simp
     first
      |(go_at_call 107
        refine(zgy ah ap al bh bp bl _).mono ?_;rintro e U1 ⟨rfl,u1⟩;rw[hv];have F:=zaa ((za F).trans (u1.mono (za F).size))
        clear u1)
     go_wp2_with fail
     refine hK.out _ _ ?_ (fun hHeld=>?_)
     ·try dsimp only
      exact za CG _ (za F)
     clear hK K;refine hP ?_;refine hT 11 ?_;refine wpAnyH_done (by kernel_rfl) ?_ _
     go_wp2
     go_ret
     rw[za RN];exact⟨rfl,za F⟩
  ·as_aux_lemma =>
   have y1:¬ (j:Int)+1<(l.length:Int):=by omega
   have RN:=zaa (show R=true by rw[za HR];exact za KS j (by omega))
   go_wp2
   go_ret
   rw[za RN];exact⟨rfl,za F⟩
theorem znk {w:World} {sp:Option Addr} {l:List Ls} (c:Nat) (hL:∀ W:World,Below w.heap.size w W→∀ j (hj:j<l.length),∃ g,sp=some ⟨g,0,none⟩∧W.cell? ⟨g,j*4,none⟩=some (.int .i64 l[j].id)∧W.cell? ⟨g,j*4+1,none⟩=some (.int .i64 l[j].seq)∧W.cell? ⟨g,j*4+2,none⟩=some (.int .i64 l[j].e)∧W.cell? ⟨g,j*4+3,none⟩=some (.int .i64 l[j].ver)) (hn:l.length≤100) :
  Calls Tryz.prog 108 #[.slice sp l.length c,.func (.func 109) #[] #[]] w fun e w'=>e=.returned (.bool (zat (l.map lid)))∧Below w.heap.size w w':=by
 have LL:=zaa hL
 have KX:=zaa (show ∀ (j:Nat) (hj:j+1<l.length),zat ((l.map lid).drop j)=(decide (Kord.lt (lid l[j]) (lid l[j+1]))&&zat ((l.map lid).drop (j+1))) from fun j hj=>by
  rw[zg7 (l.map lid) j (by simpa using hj),List.getElem_map,List.getElem_map])
 have KS:=zaa (show ∀ j,l.length≤j+1→zat ((l.map lid).drop j)=true from fun j hj=>zf0 (l.map lid) j (by simpa using hj));have hE:=zo4;generalize hks:l.map lid=ks at *;generalize hR:zat ks=R at *;clear hL;go_enter Tryz.func108,Tryz.ntmps108
 go_wp2_with fail
 go_loopw [5] (fun i wr=>∃ j:Nat,j≤l.length∧i=.int .i64 ((j:Int)+1)∧Hid (R=zat (ks.drop j))∧Hid (Below w.heap.size w wr)) (fun i _=>l.length+5 - (intOf i).toNat)
 case atStart=>exact⟨0,by omega,rfl,zaa (by rw[List.drop_zero];exact hR.symm),Below.refl _ _⟩
 case round =>
  obtain⟨j,hj,rfl,HR,F⟩:=hrel;by_cases hjm:j+1<l.length
  ·as_aux_lemma =>
   have y0:(0:Int)≤(j:Int):=by omega
   have y1:(j:Int)+1<(l.length:Int):=by omega
   have y2:(0:Int)≤(j:Int)+1:=by omega
   have y3:(j:Int)<(l.length:Int):=by omega
   have hw:IntKind.i64.wrap (j:Int)=(j:Int):=by rw[IntKind.wrap_i64];omega
   have ht:((j:Int)+1).toNat=j+1:=by omega
   have NX:=zaa (za KX j hjm)
   have CE:=zaa (show ∀ W:World,Below w.heap.size w W→∃ g,sp=some ⟨g,0,none⟩∧W.cell? ⟨g,j*4,none⟩=some (.int .i64 l[j].id)∧W.cell? ⟨g,j*4+1,none⟩=some (.int .i64 l[j].seq)∧W.cell? ⟨g,j*4+2,none⟩=some (.int .i64 l[j].e)∧W.cell? ⟨g,j*4+3,none⟩=some (.int .i64 l[j].ver)∧W.cell? ⟨g,(j+1)*4,none⟩=some (.int .i64 l[j+1].id)∧W.cell? ⟨g,(j+1)*4+1,none⟩=some (.int .i64 l[j+1].seq)∧W.cell? ⟨g,(j+1)*4+2,none⟩=some (.int .i64 l[j+1].e)∧W.cell? ⟨g,(j+1)*4+3,none⟩=some (.int .i64 l[j+1].ver) from fun W hb=>by
    obtain⟨g,h1,h2⟩:=za LL W hb j (by omega);obtain⟨g',h1',h2'⟩:=za LL W hb (j+1) hjm;have e:=h1.symm.trans h1';simp only[Option.some.injEq,Addr.mk.injEq,and_true] at e;subst e
    exact⟨g,h1,h2.1,h2.2.1,h2.2.2.1,h2.2.2.2,h2'⟩)
   generalize l[j]=xa at *;generalize l[j+1]=xb at *;obtain⟨ai,as_,ae,av⟩:=xa;obtain⟨bi,bs,be,bv⟩:=xb;dsimp only[lid] at CE NX;have F:=zaa (show Below w.heap.size w wr.drew from(za F).drew);obtain⟨g,rfl,_⟩:=za CE _ (za F)
   have CG:=zaa (show ∀ W:World,Below w.heap.size w W→W.cell? ⟨g,j*4,none⟩=some (.int .i64 ai)∧W.cell? ⟨g,j*4+1,none⟩=some (.int .i64 as_)∧W.cell? ⟨g,j*4+2,none⟩=some (.int .i64 ae)∧W.cell? ⟨g,j*4+3,none⟩=some (.int .i64 av)∧W.cell? ⟨g,(j+1)*4,none⟩=some (.int .i64 bi)∧W.cell? ⟨g,(j+1)*4+1,none⟩=some (.int .i64 bs)∧W.cell? ⟨g,(j+1)*4+2,none⟩=some (.int .i64 be)∧W.cell? ⟨g,(j+1)*4+3,none⟩=some (.int .i64 bv) from fun W hb=>by
    obtain⟨g',e,h⟩:=za CE W hb;simp only[Option.some.injEq,Addr.mk.injEq,and_true] at e;subst e
    exact h)
   by_cases hlt:Kord.lt ai bi
   ·as_aux_lemma =>
    have hv:=zmv hlt;have RN:=zaa (show R=zat (ks.drop (j+1)) by rw[za HR,za NX];simp[show Kord.lt ai bi from hlt]);clear hR hlt
    go_wp2_with fail
    refine wp_region_held_drew (S:=fun W=>W.cell? ⟨g,j*4,none⟩=some (.int .i64 ai)∧W.cell? ⟨g,j*4+1,none⟩=some (.int .i64 as_)∧W.cell? ⟨g,j*4+2,none⟩=some (.int .i64 ae)∧W.cell? ⟨g,j*4+3,none⟩=some (.int .i64 av)∧W.cell? ⟨g,(j+1)*4,none⟩=some (.int .i64 bi)∧W.cell? ⟨g,(j+1)*4+1,none⟩=some (.int .i64 bs)∧W.cell? ⟨g,(j+1)*4+2,none⟩=some (.int .i64 be)∧W.cell? ⟨g,(j+1)*4+3,none⟩=some (.int .i64 bv)) (by kernel_rfl) ?_ (fun hHeld=>?_)
    ·try dsimp only
     exact za CG _ (za F)
    refine hT 0 ?_;refine hT 1 ?_;refine hT 2 ?_;refine hT 3 ?_;refine hT 4 ?_;refine hT 5 ?_;refine hT 6 ?_;refine hT 7 ?_;refine hT 8 ?_;refine hT 9 ?_;refine hO 10 (fun K hK=>?_);go_simp
    first
     |(go_at_call 109
       refine(zgw ai as_ ae av bi bs be bv _).mono ?_;rintro e U1 ⟨rfl,u1⟩;rw[hv];have F:=zaa ((za F).trans (u1.mono (za F).size))
       clear u1)
    go_wp2_with fail
    refine hK.out _ _ ?_ (fun hHeld=>?_)
    ·try dsimp only
     exact za CG _ (za F)
    clear hK K;refine hP ?_;refine hT 11 ?_;refine wpAnyH_done (by kernel_rfl) ?_ _
    go_wp2
    exact⟨⟨j+1,by omega,by go_num,RN,F⟩,by simp[intOf];omega⟩
   ·as_aux_lemma =>
    have RN:=zaa (show R=false by rw[za HR,za NX];simp[show ¬ Kord.lt ai bi from hlt]);rcases zmu hlt with hv|hv
    ·as_aux_lemma =>
     clear hR hlt
     go_wp2_with fail
     refine wp_region_held_drew (S:=fun W=>W.cell? ⟨g,j*4,none⟩=some (.int .i64 ai)∧W.cell? ⟨g,j*4+1,none⟩=some (.int .i64 as_)∧W.cell? ⟨g,j*4+2,none⟩=some (.int .i64 ae)∧W.cell? ⟨g,j*4+3,none⟩=some (.int .i64 av)∧W.cell? ⟨g,(j+1)*4,none⟩=some (.int .i64 bi)∧W.cell? ⟨g,(j+1)*4+1,none⟩=some (.int .i64 bs)∧W.cell? ⟨g,(j+1)*4+2,none⟩=some (.int .i64 be)∧W.cell? ⟨g,(j+1)*4+3,none⟩=some (.int .i64 bv)) (by kernel_rfl) ?_ (fun hHeld=>?_)
     ·try dsimp only
      exact za CG _ (za F)
     refine hT 0 ?_;refine hT 1 ?_;refine hT 2 ?_;refine hT 3 ?_;refine hT 4 ?_;refine hT 5 ?_;refine hT 6 ?_;refine hT 7 ?_;refine hT 8 ?_;refine hT 9 ?_;refine hO 10 (fun K hK=>?_);go_simp
     first
      |(go_at_call 109
        refine(zgw ai as_ ae av bi bs be bv _).mono ?_;rintro e U1 ⟨rfl,u1⟩;rw[hv];have F:=zaa ((za F).trans (u1.mono (za F).size))
        clear u1)
     go_wp2_with fail
     refine hK.out _ _ ?_ (fun hHeld=>?_)
     ·try dsimp only
      exact za CG _ (za F)
     clear hK K;refine hP ?_;refine hT 11 ?_;refine wpAnyH_done (by kernel_rfl) ?_ _
     go_wp2
     go_ret
     rw[za RN];exact⟨rfl,za F⟩
    ·as_aux_lemma =>
     clear hR hlt
     go_wp2_with fail
     refine wp_region_held_drew (S:=fun W=>W.cell? ⟨g,j*4,none⟩=some (.int .i64 ai)∧W.cell? ⟨g,j*4+1,none⟩=some (.int .i64 as_)∧W.cell? ⟨g,j*4+2,none⟩=some (.int .i64 ae)∧W.cell? ⟨g,j*4+3,none⟩=some (.int .i64 av)∧W.cell? ⟨g,(j+1)*4,none⟩=some (.int .i64 bi)∧W.cell? ⟨g,(j+1)*4+1,none⟩=some (.int .i64 bs)∧W.cell? ⟨g,(j+1)*4+2,none⟩=some (.int .i64 be)∧W.cell? ⟨g,(j+1)*4+3,none⟩=some (.int .i64 bv)) (by kernel_rfl) ?_ (fun hHeld=>?_)
     ·try dsimp only
      exact za CG _ (za F)
     refine hT 0 ?_;refine hT 1 ?_;refine hT 2 ?_;refine hT 3 ?_;refine hT 4 ?_;refine hT 5 ?_;refine hT 6 ?_;refine hT 7 ?_;refine hT 8 ?_;refine hT 9 ?_;refine hO 10 (fun K hK=>?_);go_simp
     first
      |(go_at_call 109
        refine(zgw ai as_ ae av bi bs be bv _).mono ?_;rintro e U1 ⟨rfl,u1⟩;rw[hv];have F:=zaa ((za F).trans (u1.mono (za F).size))
        clear u1)
     go_wp2_with fail
     refine hK.out _ _ ?_ (fun hHeld=>?_)
     ·try dsimp only
      exact za CG _ (za F)
     clear hK K;refine hP ?_;refine hT 11 ?_;refine wpAnyH_done (by kernel_rfl) ?_ _
     go_wp2
     go_ret
     rw[za RN];exact⟨rfl,za F⟩
  ·as_aux_lemma =>
   have y1:¬ (j:Int)+1<(l.length:Int):=by omega
   have RN:=zaa (show R=true by rw[za HR];exact za KS j (by omega))
   go_wp2
   go_ret
   rw[za RN];exact⟨rfl,za F⟩
section
variable {w:World} {ver size:Int} {ra pa ca:Option Addr} {rc pc cc:Nat} {rs:List Rt} {lq:List Pq} {cl:List Ls}
theorem LdAt.pCell (L:LdAt w ra rc rs pa pc lq ca cc cl):∀ W:World,Below w.heap.size w W→∀ j (hj:j<lq.length),∃ g,pa=some ⟨g,0,none⟩∧W.cell? ⟨g,j*2,none⟩=some (.string lq[j].po.nm)∧W.cell? ⟨g,j*2+1,none⟩=some (.slice lq[j].ta lq[j].po.ts.length lq[j].tc):=fun W hb j hj=>by
 obtain⟨g,h1,_,h2,h3⟩:=(L.later hb).p.row.cell j (by simpa using hj);simp only[List.getElem_map,Pq.pr] at h2 h3;exact⟨g,h1,h2,h3⟩
theorem LdAt.rCell (L:LdAt w ra rc rs pa pc lq ca cc cl):∀ W:World,Below w.heap.size w W→∀ j (hj:j<rs.length),∃ g,ra=some ⟨g,0,none⟩∧W.cell? ⟨g,j*3,none⟩=some (.string rs[j].h)∧W.cell? ⟨g,j*3+1,none⟩=some (.string rs[j].p)∧W.cell? ⟨g,j*3+2,none⟩=some (.string rs[j].l):=fun W hb j hj=>by
 obtain⟨g,h1,_,h2⟩:=(L.later hb).r.cell j hj;exact⟨g,h1,h2⟩
theorem LdAt.cCell (L:LdAt w ra rc rs pa pc lq ca cc cl):∀ W:World,Below w.heap.size w W→∀ j (hj:j<cl.length),∃ g,ca=some ⟨g,0,none⟩∧W.cell? ⟨g,j*4,none⟩=some (.int .i64 cl[j].id)∧W.cell? ⟨g,j*4+1,none⟩=some (.int .i64 cl[j].seq)∧W.cell? ⟨g,j*4+2,none⟩=some (.int .i64 cl[j].e)∧W.cell? ⟨g,j*4+3,none⟩=some (.int .i64 cl[j].ver):=fun W hb j hj=>by
 obtain⟨g,h1,_,h2⟩:=(L.later hb).c.cell j hj;exact⟨g,h1,h2⟩
def zun (x:Sm) (lq:List Pq) (rs:List Rt) (cl:List Ls) (size:Int):Bool :=
 zat (lq.map qnm)&&(zat (rs.map rpl)&&(zat (cl.map lid)&&(decide (size≤12000)&&(!lq.any (fun q=>!zbe q.po)&&(!rs.any (fun r=>!zaz x r) && !cl.any (fun c=>!zb3 x.ver c))))))
theorem znb {h:StH} {x:Sm} (L:LdAt w ra rc rs pa pc lq ca cc cl) (s:StAt w h x) (hm:Mx w) :
  Calls Tryz.prog 60 #[.agg #[.int .i64 ver,.slice ra rs.length rc,.slice pa lq.length pc,.int .i64 size,.slice ca cl.length cc],.pointer (some ⟨h.S,0,none⟩)] w fun e w'=>e=.returned (.bool (zun x lq rs cl size))∧Below w.heap.size w w':=by
 have n1:=L.n.1;have n2:=L.n.2.1;have n3:=L.n.2.2;have b1:Below w.heap.size w (w.alloc (.cells #[.int .i64 ver,.slice ra rs.length rc,.slice pa lq.length pc,.int .i64 size,.slice ca cl.length cc] 107)):=(Below.refl _ _).alloc (Nat.le_refl _) _;have bX:=zaa (show Below w.heap.size w ((w.alloc (.cells #[.int .i64 ver,.slice ra rs.length rc,.slice pa lq.length pc,.int .i64 size,.slice ca cl.length cc] 107)).alloc (.cells #[.pointer (some ⟨h.S,0,none⟩)] 23)) from b1.alloc b1.size _);have s1:(w.alloc (.cells #[.int .i64 ver,.slice ra rs.length rc,.slice pa lq.length pc,.int .i64 size,.slice ca cl.length cc] 107)).heap.size=w.heap.size+1:=by simp
 have X0:=zaa (show((w.alloc (.cells #[.int .i64 ver,.slice ra rs.length rc,.slice pa lq.length pc,.int .i64 size,.slice ca cl.length cc] 107)).alloc (.cells #[.pointer (some ⟨h.S,0,none⟩)] 23)).heap[w.heap.size]? = some (.cells #[.int .i64 ver,.slice ra rs.length rc,.slice pa lq.length pc,.int .i64 size,.slice ca cl.length cc] 107 (0,0)) by rw[Below.heap_alloc _ _ _ (by simp)];exact zad _ _);have X1:=zaa (show((w.alloc (.cells #[.int .i64 ver,.slice ra rs.length rc,.slice pa lq.length pc,.int .i64 size,.slice ca cl.length cc] 107)).alloc (.cells #[.pointer (some ⟨h.S,0,none⟩)] 23)).heap[w.heap.size+1]? = some (.cells #[.pointer (some ⟨h.S,0,none⟩)] 23 (0,0)) by rw[← s1];exact zad _ _);have FP1:=zaa (fun (W:World) (hb:Below w.heap.size w W)=>znl pc (L.later hb).pCell n2);have FR1:=zaa (fun (W:World) (hb:Below w.heap.size w W)=>znm rc (L.later hb).rCell n1);have FC1:=zaa (fun (W:World) (hb:Below w.heap.size w W)=>znk cc (L.later hb).cCell n3)
 have FP2:=zaa (fun (W:World) (hb:Below w.heap.size w W)=>zi pc (L.later hb).pCell n2 (K:=112) (caps:=#[]) (pick:=fun q=>!zbe q.po) ⟨zo8,fun q hq U hu=>by
  rw[Array.append_empty];have q1:=L.qz q hq
  exact zph q (((L.later hb).t q hq).later hu) q1.1 q1.2⟩)
 have FR2:=zaa (fun (W:World) (hb:Below w.heap.size w W) (hD:W.cell? ⟨w.heap.size+1,0,none⟩=some (.pointer (some ⟨h.S,0,none⟩)))=>zia rc (L.later hb).rCell n1 (K:=115) (caps:=#[.pointer (some ⟨w.heap.size+1,0,none⟩)]) (pick:=fun r=>!zaz x r) ⟨zo9,fun r hr U hu=>zpi ((s.later hb).later hu) ((hm.later hb).later hu) (cell_later hu hD) r.h r.p r.l (L.rz r hr)⟩);have FC2:=zaa (fun (W:World) (hb:Below w.heap.size w W) (hD:W.cell? ⟨w.heap.size+1,0,none⟩=some (.pointer (some ⟨h.S,0,none⟩)))=>zh9 cc (L.later hb).cCell n3 (K:=118) (caps:=#[.pointer (some ⟨w.heap.size+1,0,none⟩)]) (pick:=fun c=>!zb3 x.ver c) ⟨zo7,fun c hc U hu=>zpg (cell_later hu (s.later hb).cell.1) (cell_later hu hD) c⟩);have EQ:=zaa (show zun x lq rs cl size=(zat (lq.map qnm)&&(zat (rs.map rpl)&&(zat (cl.map lid)&&(decide (size≤12000)&&(!lq.any (fun q=>!zbe q.po)&&(!rs.any (fun r=>!zaz x r) && !cl.any (fun c=>!zb3 x.ver c))))))) from rfl);generalize zun x lq rs cl size=ok at *;generalize zat (lq.map qnm)=a1 at *;generalize zat (rs.map rpl)=a2 at *;generalize zat (cl.map lid)=a3 at *;generalize lq.any (fun q=>!zbe q.po)=a5 at *;generalize rs.any (fun r=>!zaz x r)=a6 at *;generalize cl.any (fun c=>!zb3 x.ver c)=a7 at *;have BD:=zaa (show w.heap.size+2≤((w.alloc (.cells #[.int .i64 ver,.slice ra rs.length rc,.slice pa lq.length pc,.int .i64 size,.slice ca cl.length cc] 107)).alloc (.cells #[.pointer (some ⟨h.S,0,none⟩)] 23)).heap.size by simp)
 clear L s hm b1 s1 n1 n2 n3;generalize hB:w.heap.size=B at *;go_enter Tryz.func60,Tryz.ntmps60
 have CX:=zaa (show ∀ W:World,Below ((w.alloc (.cells #[.int .i64 ver,.slice ra rs.length rc,.slice pa lq.length pc,.int .i64 size,.slice ca cl.length cc] 107)).alloc (.cells #[.pointer (some ⟨h.S,0,none⟩)] 23)).heap.size ((w.alloc (.cells #[.int .i64 ver,.slice ra rs.length rc,.slice pa lq.length pc,.int .i64 size,.slice ca cl.length cc] 107)).alloc (.cells #[.pointer (some ⟨h.S,0,none⟩)] 23)) W→W.cell? ⟨B,0,none⟩=some (.int .i64 ver)∧W.cell? ⟨B,1,none⟩=some (.slice ra rs.length rc)∧W.cell? ⟨B,2,none⟩=some (.slice pa lq.length pc)∧W.cell? ⟨B,3,none⟩=some (.int .i64 size)∧W.cell? ⟨B,4,none⟩=some (.slice ca cl.length cc)∧W.cell? ⟨B+1,0,none⟩=some (.pointer (some ⟨h.S,0,none⟩)) from fun W hb=>by
  have hx:=zac hb (za X0)
  exact⟨zab hx 0 _ rfl,zab hx 1 _ rfl,zab hx 2 _ rfl,zab hx 3 _ rfl,zab hx 4 _ rfl,zab (zac hb (za X1)) 0 _ rfl⟩)
 clear X0 X1;have c2:=(za CX _ (Below.refl _ _)).2.2.1
 go_wp2_with fail
 try rw[hB]
 generalize ((w.alloc (.cells #[.int .i64 ver,.slice ra rs.length rc,.slice pa lq.length pc,.int .i64 size,.slice ca cl.length cc] 107)).alloc (.cells #[.pointer (some ⟨h.S,0,none⟩)] 23))=V at *;have F:=zaa (show Below V.heap.size V V from Below.refl _ _);clear c2;have BW:=zaa (show Below B w V from by have:=za BD;exact za bX);refine(za FP1 _ (za BW)).mono ?_;rintro e U0 ⟨rfl,u1⟩;have F:=zaa ((za F).trans (u1.mono (za F).size));have BW:=zaa ((za BW).trans (u1.mono (by have:=(za BW).size;omega)));clear u1;cases a1 with
 |false =>
  have e1:ok=false:=by rw[za EQ];rfl
  subst e1
  go_wp2
  go_ret
  exact⟨rfl,za BW⟩
 |true =>
  have c2:=(za CX _ (za F)).2.1
  go_wp2_with fail
  clear c2;refine(za FR1 _ (za BW)).mono ?_;rintro e U1 ⟨rfl,u1⟩;have F:=zaa ((za F).trans (u1.mono (za F).size));have BW:=zaa ((za BW).trans (u1.mono (by have:=(za BW).size;omega)));clear u1;cases a2 with
  |false =>
   have e1:ok=false:=by rw[za EQ];rfl
   subst e1
   go_wp2
   go_ret
   exact⟨rfl,za BW⟩
  |true =>
   have c2:=(za CX _ (za F)).2.2.2.2.1
   go_wp2_with fail
   clear c2;refine(za FC1 _ (za BW)).mono ?_;rintro e U2 ⟨rfl,u1⟩;have F:=zaa ((za F).trans (u1.mono (za F).size));have BW:=zaa ((za BW).trans (u1.mono (by have:=(za BW).size;omega)));clear u1;cases a3 with
   |false =>
    have e1:ok=false:=by rw[za EQ];rfl
    subst e1
    go_wp2
    go_ret
    exact⟨rfl,za BW⟩
   |true =>
    have c2:=(za CX _ (za F)).2.2.2.1;by_cases h4:size≤12000
    ·have g4:decide (size≤12000)=true:=decide_eq_true h4;have c3:=(za CX _ (za F)).2.2.1
     go_wp2_with fail
     clear c2 c3;refine(za FP2 _ (za BW)).mono ?_;rintro e U4 ⟨rfl,u1⟩;have F:=zaa ((za F).trans (u1.mono (za F).size));have BW:=zaa ((za BW).trans (u1.mono (by have:=(za BW).size;omega)));clear u1;cases a5 with
     |true =>
      have e1:ok=false:=by rw[za EQ,g4];rfl
      subst e1
      go_wp2
      go_ret
      exact⟨rfl,za BW⟩
     |false =>
      have c2:=(za CX _ (za F)).2.1
      go_wp2_with fail
      clear c2;refine(za FR2 _ (za BW) (za CX _ (za F)).2.2.2.2.2).mono ?_;rintro e U5 ⟨rfl,u1⟩;have F:=zaa ((za F).trans (u1.mono (za F).size));have BW:=zaa ((za BW).trans (u1.mono (by have:=(za BW).size;omega)));clear u1;cases a6 with
      |true =>
       have e1:ok=false:=by rw[za EQ,g4];rfl
       subst e1
       go_wp2
       go_ret
       exact⟨rfl,za BW⟩
      |false =>
       have c2:=(za CX _ (za F)).2.2.2.2.1
       go_wp2_with fail
       clear c2;refine(za FC2 _ (za BW) (za CX _ (za F)).2.2.2.2.2).mono ?_;rintro e U6 ⟨rfl,u1⟩;have F:=zaa ((za F).trans (u1.mono (za F).size));have BW:=zaa ((za BW).trans (u1.mono (by have:=(za BW).size;omega)));clear u1;have e1:ok = !a7:=by rw[za EQ,g4];rfl
       subst e1
       go_wp2
       go_ret
       exact⟨by cases a7 <;> rfl,za BW⟩
    ·have g4:decide (size≤12000)=false:=decide_eq_false h4;have e1:ok=false:=by rw[za EQ,g4];rfl
     subst e1
     go_wp2
     go_ret
     exact⟨rfl,za BW⟩
end
theorem zds {α:Type} (x:α×Nat×Nat):∃ a b c,x=(a,b,c):=⟨x.1,x.2.1,x.2.2,rfl⟩
theorem zfc (h:List Nat) (k e:Nat):(zbp h k e).1.length≤128:=by
 unfold zbp;exact Nat.le_trans (zj8 _ _ _ _) (zdx _ _ _ _)
theorem zf2 (b:List Nat):(zaj b).size=b.length:=by simp[zaj,ByteArray.size]
theorem zsg (h:List Nat) (k e:Nat):zrd (zho h k e).1:=by
 rw[zrf];simp only[zrd,zf2];exact⟨zfc ..,zfc ..,zfc ..⟩
theorem zol (h:List Nat):∀ n k e,∀ x∈(zhw h n k e).1,zrd x
 |0,_,_,_,hx=>by cases hx
 |n+1,k,e,x,hx=>by
  rw[zed] at hx;rcases List.mem_cons.1 hx with rfl|hx
  ·exact zsg h k e
  ·exact zol h n _ _ x hx
theorem zkn (h:List Nat):∀ n k e,(zhw h n k e).1.length=n
 |0,_,_=>rfl
 |n+1,k,e=>by rw[zed,List.length_cons,zkn h n]
theorem zon (h:List Nat) (k e:Nat):(zom h k e).1.length≤64∧∀ x∈(zom h k e).1,zrd x:=by
 have h1:zom h k e=zhw h (zbo h k e 64).1 (zbo h k e 64).2.1 (zbo h k e 64).2.2:=rfl;rw[h1,zkn];exact⟨zdx h k e 64,zol h _ _ _⟩
theorem zty (h:List Nat) (k e:Nat):(tgK h k e).1.1.size≤128:=by
 have h1:(tgK h k e).1.1=zaj (zbp h k e).1:=rfl;rw[h1,zf2];exact zfc ..
theorem zos (h:List Nat):∀ n k e,∀ x∈(zgq h n k e).1,x.1.size≤128
 |0,_,_,_,hx=>by cases hx
 |n+1,k,e,x,hx=>by
  rw[zc0] at hx;rcases List.mem_cons.1 hx with rfl|hx
  ·exact zty h k e
  ·exact zos h n _ _ x hx
theorem zsb (h:List Nat) (k e:Nat):(zg4 h k e).1.nm.size≤128∧∀ t∈(zg4 h k e).1.ts,t.1.size≤128:=by
 obtain⟨tb,k2,e2,q1⟩:∃ a b c,zbp h k e=(a,b,c):=zds _;obtain⟨ts,k3,e3,q2⟩:∃ a b c,zjf h k2 e2=(a,b,c):=zds _;have h1:=zfc h k e;have h2:∀ t∈(zjf h k2 e2).1,t.1.size≤128:=zos h _ _ _;rw[q1] at h1;rw[q2] at h2;rw[zkj q1 q2];exact⟨by rw[zf2];exact h1,h2⟩
theorem zoh (h:List Nat):∀ n k e,∀ x∈(zje h n k e).1,x.nm.size≤128∧∀ t∈x.ts,t.1.size≤128
 |0,_,_,_,hx=>by cases hx
 |n+1,k,e,x,hx=>by
  rw[zdg] at hx;rcases List.mem_cons.1 hx with rfl|hx
  ·exact zsb h k e
  ·exact zoh h n _ _ x hx
theorem zkk (h:List Nat):∀ n k e,(zje h n k e).1.length=n
 |0,_,_=>rfl
 |n+1,k,e=>by rw[zdg,List.length_cons,zkk h n]
theorem zoi (h:List Nat) (k e:Nat):(znf h k e).1.length≤32∧∀ x∈(znf h k e).1,x.nm.size≤128∧∀ t∈x.ts,t.1.size≤128:=by
 have h1:znf h k e=zje h (zbo h k e 32).1 (zbo h k e 32).2.1 (zbo h k e 32).2.2:=rfl;rw[h1,zkk];exact⟨zdx h k e 32,zoh h _ _ _⟩
theorem zs7 {h:List Nat} (hb:∀ c∈h,c<256) (k e:Nat):zt4 (zhl h k e).1:=by
 obtain⟨n1,k2,e2,q1⟩:∃ a b c,zcd h k e=(a,b,c):=zds _;obtain⟨n2,k3,e3,q2⟩:∃ a b c,zcd h k2 e2=(a,b,c):=zds _;obtain⟨n3,k4,e4,q3⟩:∃ a b c,zcd h k3 e3=(a,b,c):=zds _;obtain⟨n4,k5,e5,q4⟩:∃ a b c,zcd h k4 e4=(a,b,c):=zds _;have b1:=ziq hb k e;have b2:=ziq hb k2 e2;have b3:=ziq hb k3 e3;have b4:=ziq hb k4 e4;rw[q1] at b1;rw[q2] at b2;rw[q3] at b3;rw[q4] at b4;rw[zms q1 q2 q3 q4];dsimp only at b1 b2 b3 b4;unfold zt4;dsimp only;omega
theorem zqc {h:List Nat} (hb:∀ c∈h,c<256):∀ n k e,∀ x∈(zjh h n k e).1,zt4 x
 |0,_,_,_,hx=>by cases hx
 |n+1,k,e,x,hx=>by
  rw[zd5] at hx;rcases List.mem_cons.1 hx with rfl|hx
  ·exact zs7 hb k e
  ·exact zqc hb n _ _ x hx
theorem zj7 (h:List Nat):∀ n k e,(zjh h n k e).1.length=n
 |0,_,_=>rfl
 |n+1,k,e=>by rw[zd5,List.length_cons,zj7 h n]
theorem zmt {h:List Nat} (hb:∀ c∈h,c<256) (k e:Nat):(zn8 h k e).1.length≤32∧∀ x∈(zn8 h k e).1,zt4 x:=by
 have h1:zn8 h k e=zjh h (zbo h k e 32).1 (zbo h k e 32).2.1 (zbo h k e 32).2.2:=rfl;rw[h1,zj7];exact⟨zdx h k e 32,zqc hb _ _ _⟩
def zqz (v:Int) (ps:List Po) (rs:List Rt) (cl:List Ls) (size:Int):Bool :=
 zat (ps.map pnm)&&(zat (rs.map rpl)&&(zat (cl.map lid)&&(decide (size≤12000)&&(ps.all zbe&&(rs.all (fun r=>zbw r.h&&(zc5 r.p&&(za9 pnm r.l ps).isSome))&&cl.all (zb3 v))))))
theorem zmo {α:Type} (p:α→Bool) (l:List α):(!l.any (fun x=>!p x))=l.all p:=by
 induction l with
 |nil=>rfl
 |cons a l ih=>rw[List.any_cons,List.all_cons,← ih];cases p a <;> simp
theorem ztn (v:Int) (lq:List Pq) (rs:List Rt) (cl:List Ls) (size:Int):zun ⟨v,zb4 qnm lq,zb4 rpl rs,zb4 lid cl⟩ lq rs cl size=zqz v (lq.map Pq.po) rs cl size:=by
 have e1:(lq.map Pq.po).map pnm=lq.map qnm:=by rw[List.map_map];rfl
 unfold zun zqz;rw[e1,zmo (fun q:Pq=>zbe q.po),zmo,zmo];cases h1:zat (lq.map qnm) with
 |false=>rfl
 |true =>
  have hk:=zff qnm lq ((zg0 qnm lq).2 h1);have e2:(lq.map Pq.po).all zbe=lq.all (fun q=>zbe q.po):=by rw[List.all_map];rfl
  have e3:zaz ⟨v,zb4 qnm lq,zb4 rpl rs,zb4 lid cl⟩=(fun r:Rt=>zbw r.h&&(zc5 r.p&&(za9 pnm r.l (lq.map Pq.po)).isSome)):=by
   funext r
   unfold zaz;dsimp only;rw[hk,zke qnm Pq.po pnm (fun _=>rfl) r.l lq,Option.isSome_map]
  rw[e2,e3]
theorem zjt {v:Int} {ps:List Po} {rs:List Rt} {cl:List Ls} {size:Int} (h:zqz v ps rs cl size=true):Kl pnm ps∧Kl rpl rs∧Kl lid cl∧size≤12000∧(∀ p∈ps,zbe p=true)∧(∀ r∈rs,zbw r.h=true∧zc5 r.p=true∧(za9 pnm r.l ps).isSome=true)∧(∀ c∈cl,zb3 v c=true):=by
 unfold zqz at h;simp only[Bool.and_eq_true,List.all_eq_true,decide_eq_true_eq] at h;exact⟨(zg0 _ _).2 h.1,(zg0 _ _).2 h.2.1,(zg0 _ _).2 h.2.2.1,h.2.2.2.1,h.2.2.2.2.1,h.2.2.2.2.2.1,h.2.2.2.2.2.2⟩
structure LdK (l:List Nat) (n:Nat) (ps:List Po) (rs:List Rt) (cl:List Ls) (k1 k3 k4 e4:Nat):Prop where
 eq:∃ e1 k2 e2 e3,zcd l 0 0=(n,k1,e1)∧znf l k1 e1=(ps,k2,e2)∧zom l k2 e2=(rs,k3,e3)∧zn8 l k3 e3=(cl,k4,e4)
def zhy (w:World) (l:List Nat) (e:Ending) (w':World):Prop:=∃ n ps rs cl k1 k3 k4 e4,LdK l n ps rs cl k1 k3 k4 e4∧Below w.heap.size w w' ∧
 ((zk l k4 e4≠0∧e=.returned (.tuple #[.pointer none,.int .i64 (zk l k4 e4:Nat)])) ∨
  (zk l k4 e4=0∧zqz n ps rs cl ((k3:Int) - (k1:Int))=false∧e=.returned (.tuple #[.pointer none,.int .i64 4])) ∨
  (zk l k4 e4=0∧zqz n ps rs cl ((k3:Int) - (k1:Int))=true∧∃ h x,e=.returned (.tuple #[.pointer (some ⟨h.S,0,none⟩),.int .i64 0])∧StAt w' h x∧SmE x ⟨n,x.ps,rs,cl⟩∧x.ps.map Pq.po=ps∧(w.heap.size≤h.S∧w.heap.size≤h.P∧w.heap.size≤h.R∧w.heap.size≤h.C)))
structure LSt (R C:Nat) (w0 W:World) (p:Option Addr) (c:Nat) (h:List Nat) (k e:Nat) (cs:Array Value):Prop where
 cb:W.heap[C]? = some (.cells cs 107 (0,0))
 z:KR R W p c h k e
 g:w0.grownBy W (some R)
 rl:R<w0.heap.size
 wc:w0.heap.size≤C
section
variable {R C:Nat} {w0 W W':World} {p:Option Addr} {c:Nat} {h:List Nat} {k e k0 e0:Nat} {cs:Array Value}
theorem LSt.new (z0:KR R w0 p c h k e) (cs:Array Value):LSt R w0.heap.size w0 (w0.alloc (.cells cs 107)) p c h k e cs:=by
 have bA:Below w0.heap.size w0 (w0.alloc (.cells cs 107)):=(Below.refl _ _).alloc (Nat.le_refl _) _;exact⟨zad w0 _,z0.later bA,zao bA _,z0.lt,Nat.le_refl _⟩
theorem LSt.num (s:LSt R C w0 W p c h k e cs) {k' e':Nat} (z:KR R W' p c h k' e') (g:W.grownBy W' (some R)):LSt R C w0 W' p c h k' e' cs:=by
 have hC:C<W.heap.size:=(Array.getElem?_eq_some_iff.1 s.cb).1;have h1:=s.rl;have h2:=s.wc;exact⟨(g.block C hC (fun e=>by have:=Option.some.inj e;omega)).trans s.cb,z,zaf s.g g,h1,h2⟩
theorem LSt.put (s:LSt R C w0 W p c h k e cs) (z0:KR R w0 p c h k0 e0) (i:Nat) (v:Value):LSt R C w0 (W.setCell ⟨C,i,none⟩ v) p c h k e (cs.setIfInBounds i v):=by
 have h1:=s.rl;have h2:=s.wc;have hb:Below w0.heap.size W (W.setCell ⟨C,i,none⟩ v):=zcb (Below.refl _ _) (zak W C i v) (by omega) s.g.size;exact⟨heap_setCell_same W C i _ _ _ s.cb,z0.kept s.g s.z hb,zam s.g hb,h1,h2⟩
theorem LSt.lt (s:LSt R C w0 W p c h k e cs):R<W.heap.size∧C<W.heap.size:=⟨s.z.lt,(Array.getElem?_eq_some_iff.1 s.cb).1⟩
theorem LSt.below {w:World} (s:LSt R C w0 W p c h k e cs) (hb:Below R w w0):Below R w W:=by
 have h1:=s.rl;exact hb.trans ⟨s.g.os,s.g.tape,s.g.output,s.g.size,fun g hg=>s.g.block g (by omega) (fun e=>by have:=Option.some.inj e;omega)⟩
end
end
end Go.Proofs.YtjcjleaicjhpeaaGreatDoor
