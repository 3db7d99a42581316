/- Conf: the store that Load makes of what it read. -/
import Derived.Test.YtjcjleaicjhpeaaGreatDoorB19
import Derived.Test.YtjcjleaicjhpeaaGreatDoorB15
import Derived.Test.YtjcjleaicjhpeaaGreatDoorB16
import Derived.Test.YtjcjleaicjhpeaaGreatDoorB24
set_option linter.unusedVariables false
set_option maxRecDepth 20000
set_option maxHeartbeats 16000000
namespace Go.Proofs.YtjcjleaicjhpeaaGreatDoor
open Go.ChangeShapes Go.WideShapes Go.ChangeAt Go.RowKit
section
variable {κ α:Type} [Kord κ]
def zb4 (kf:α→κ) (xs:List α):List α:=xs.foldl (fun l x=>zev kf x l) []
theorem zpe (kf:α→κ) (xs:List α) (x:α):zb4 kf (xs++[x])=zev kf x (zb4 kf xs):=by simp[zb4]
theorem zg2 (kf:α→κ) (xs:List α) (j:Nat) (h:j<xs.length):zb4 kf (xs.take (j+1))=zev kf xs[j] (zb4 kf (xs.take j)):=by
 rw[List.take_succ_eq_append_getElem h,zpe]
theorem zkf (kf:α→κ) (xs:List α):(zb4 kf xs).length≤xs.length:=by
 have h:∀ (ys acc:List α),(ys.foldl (fun l x=>zev kf x l) acc).length≤acc.length+ys.length:=by
  intro ys;induction ys with
  |nil=>intro acc;simp
  |cons y ys ih =>
   intro acc;have h1:=ih (zev kf y acc);have h2:=zqy kf y acc;simp only[List.foldl_cons,List.length_cons];omega
 have:=h xs []
 simpa [zb4] using this
theorem zlg (kf:α→κ) (a:α):∀ l:List α,(∀ x∈l,Kord.lt (kf x) (kf a))→zev kf a l=l++[a]
 |[],_=>rfl
 |b::l,h=>by
  rw[zgb,if_pos (h b (by simp)),zlg kf a l (fun x hx=>h x (by simp[hx]))];rfl
theorem zff (kf:α→κ) (xs:List α) (h:Kl kf xs):zb4 kf xs=xs:=by
 have g:∀ (ys acc:List α),Kl kf (acc++ys)→ys.foldl (fun l x=>zev kf x l) acc=acc++ys:=by
  intro ys;induction ys with
  |nil=>intro acc _;simp
  |cons y ys ih =>
   intro acc hk
   have h1:zev kf y acc=acc++[y]:=zlg kf y acc (fun x hx=>by
    have h2:(acc++y::ys).Pairwise (fun a b=>Kord.lt (kf a) (kf b)):=(List.pairwise_map.1 hk).imp (fun {a b} q=>q)
    exact(List.pairwise_append.1 h2).2.2 x hx y (by simp))
   rw[List.foldl_cons,h1,ih (acc++[y]) (by rw[List.append_assoc];exact hk),List.append_assoc];rfl
 have:=g xs [] (by simpa using h)
 simpa [zb4] using this
end
theorem zgk (xs:List Ls) (i f:Nat) (hi:i<xs.length) (hf:f<4):(zgl xs)[i*4+f]? = (ze2 xs[i])[f]?:=zea xs i f hi hf
theorem zp3.cell {base:Nat} {w:World} {sp:Option Addr} {c:Nat} {l:List Ls} (h:zp3 base w sp c l) (i:Nat) (hi:i<l.length) :
  ∃ g,sp=some ⟨g,0,none⟩∧base≤g∧w.cell? ⟨g,i*4,none⟩=some (.int .i64 l[i].id)∧w.cell? ⟨g,i*4+1,none⟩=some (.int .i64 l[i].seq)∧w.cell? ⟨g,i*4+2,none⟩=some (.int .i64 l[i].e)∧w.cell? ⟨g,i*4+3,none⟩=some (.int .i64 l[i].ver):=by
 obtain⟨g,hs,hb,_,_,hc⟩:=ze6 h (by omega);exact⟨g,hs,hb,hc _ _ (zgk l i 0 hi (by omega)),hc _ _ (zgk l i 1 hi (by omega)),hc _ _ (zgk l i 2 hi (by omega)),hc _ _ (zgk l i 3 hi (by omega))⟩
structure LdAt (w:World) (ra:Option Addr) (rc:Nat) (rs:List Rt) (pa:Option Addr) (pc:Nat) (lq:List Pq) (ca:Option Addr) (cc:Nat) (cl:List Ls):Prop where
 r:zku 0 w ra rc rs
 p:OwnPq 0 w pa pc lq
 c:zp3 0 w ca cc cl
 t:∀ q∈lq,TgsAt w q.ta q.po.ts
 n:rs.length≤100∧lq.length≤100∧cl.length≤100
 rz:∀ r∈rs,r.h.size≤1000000∧r.p.size≤1000000∧r.l.size≤1000000
 qz:∀ q∈lq,q.po.nm.size≤1000000∧q.po.ts.length≤16∧∀ t∈q.po.ts,t.1.size≤1000000
 cz:∀ c∈cl,-9223372036854775808≤c.id∧c.id≤9223372036854775807
theorem LdAt.later {w w':World} {ra:Option Addr} {rc:Nat} {rs:List Rt} {pa:Option Addr} {pc:Nat} {lq:List Pq} {ca:Option Addr} {cc:Nat} {cl:List Ls} (h:LdAt w ra rc rs pa pc lq ca cc cl) (hb:Below w.heap.size w w'):LdAt w' ra rc rs pa pc lq ca cc cl :=
 ⟨zb0 h.r hb,h.p.later hb,zb0 h.c hb,fun q hq=>(h.t q hq).later hb,h.n,h.rz,h.qz,h.cz⟩
theorem Chg.toB0 {h:StH} {w w':World} {b:Nat} (c:Chg h w w') (hn:b≤h.S∧b≤h.P∧b≤h.R∧b≤h.C) (hb:b≤w.heap.size):Below b w w' :=
 ⟨c.os,c.tape,c.output,c.size,fun g hg=>c.block g (Nat.lt_of_lt_of_le hg hb) (by omega) (by omega) (by omega) (by omega)⟩
theorem zn1 {w:World} {ver size:Int} {ra pa ca:Option Addr} {rc pc cc:Nat} {rs:List Rt} {lq:List Pq} {cl:List Ls} (L:LdAt w ra rc rs pa pc lq ca cc cl) :
  Calls Tryz.prog 59 #[.agg #[.int .i64 ver,.slice ra rs.length rc,.slice pa lq.length pc,.int .i64 size,.slice ca cl.length cc]] w fun e w'=>∃ h,e=.returned (.pointer (some ⟨h.S,0,none⟩))∧StAt w' h ⟨ver,zb4 qnm lq,zb4 rpl rs,zb4 lid cl⟩∧Below w.heap.size w w'∧w.heap.size≤h.S∧w.heap.size≤h.P∧w.heap.size≤h.R∧w.heap.size≤h.C:=by
 have n1:=L.n.1;have n2:=L.n.2.1;have n3:=L.n.2.2;have LL:=zaa L;have NP:=zaa (zg2 qnm lq);have NR:=zaa (zg2 rpl rs);have NC:=zaa (zg2 lid cl);have TP:=zaa (show lq.take lq.length=lq from List.take_length);have TR:=zaa (show rs.take rs.length=rs from List.take_length);have TC:=zaa (show cl.take cl.length=cl from List.take_length);have bX:=zaa (show Below w.heap.size w (w.alloc (.cells #[.int .i64 ver,.slice ra rs.length rc,.slice pa lq.length pc,.int .i64 size,.slice ca cl.length cc] 107)) from(Below.refl _ _).alloc (Nat.le_refl _) _);have X1:=zaa (zad w (.cells #[.int .i64 ver,.slice ra rs.length rc,.slice pa lq.length pc,.int .i64 size,.slice ca cl.length cc] 107));have NS:=zaa (zju (w.alloc (.cells #[.int .i64 ver,.slice ra rs.length rc,.slice pa lq.length pc,.int .i64 size,.slice ca cl.length cc] 107)))
 have LP:=zaa (show ∀ W:World,Below w.heap.size w W→∀ j (hj:j<lq.length),∃ g,pa=some ⟨g,0,none⟩∧W.cell? ⟨g,j*2,none⟩=some (.string lq[j].po.nm)∧W.cell? ⟨g,j*2+1,none⟩=some (.slice lq[j].ta lq[j].po.ts.length lq[j].tc) from fun W hb j hj=>by
  obtain⟨g,h1,_,h2,h3⟩:=(L.later hb).p.row.cell j (by simpa using hj);simp only[List.getElem_map,Pq.pr] at h2 h3
  exact⟨g,h1,h2,h3⟩)
 have LR:=zaa (show ∀ W:World,Below w.heap.size w W→∀ j (hj:j<rs.length),∃ g,ra=some ⟨g,0,none⟩∧W.cell? ⟨g,j*3,none⟩=some (.string rs[j].h)∧W.cell? ⟨g,j*3+1,none⟩=some (.string rs[j].p)∧W.cell? ⟨g,j*3+2,none⟩=some (.string rs[j].l) from fun W hb j hj=>by
  obtain⟨g,h1,_,h2⟩:=(L.later hb).r.cell j hj
  exact⟨g,h1,h2⟩)
 have LC:=zaa (show ∀ W:World,Below w.heap.size w W→∀ j (hj:j<cl.length),∃ g,ca=some ⟨g,0,none⟩∧W.cell? ⟨g,j*4,none⟩=some (.int .i64 cl[j].id)∧W.cell? ⟨g,j*4+1,none⟩=some (.int .i64 cl[j].seq)∧W.cell? ⟨g,j*4+2,none⟩=some (.int .i64 cl[j].e)∧W.cell? ⟨g,j*4+3,none⟩=some (.int .i64 cl[j].ver) from fun W hb j hj=>by
  obtain⟨g,h1,_,h2⟩:=(L.later hb).c.cell j hj
  exact⟨g,h1,h2⟩)
 generalize hB:w.heap.size=B at *;have BV:=zaa (show B<(w.alloc (.cells #[.int .i64 ver,.slice ra rs.length rc,.slice pa lq.length pc,.int .i64 size,.slice ca cl.length cc] 107)).heap.size from(Array.getElem?_eq_some_iff.1 (za X1)).1);clear L;go_enter Tryz.func59,Tryz.ntmps59
 go_wp2_with fail
 try rw[hB]
 generalize w.alloc (.cells #[.int .i64 ver,.slice ra rs.length rc,.slice pa lq.length pc,.int .i64 size,.slice ca cl.length cc] 107)=V0 at *;refine(za NS).mono ?_;rintro e V1 ⟨h,rfl,s1,u1,hS,hP,hR,hC⟩
 have CX:=zaa (show ∀ W:World,Below V0.heap.size V0 W→W.cell? ⟨B,0,none⟩=some (.int .i64 ver)∧W.cell? ⟨B,1,none⟩=some (.slice ra rs.length rc)∧W.cell? ⟨B,2,none⟩=some (.slice pa lq.length pc)∧W.cell? ⟨B,4,none⟩=some (.slice ca cl.length cc) from fun W hb=>by
  have hx:=zac hb (za X1)
  exact⟨zab hx 0 _ rfl,zab hx 1 _ rfl,zab hx 2 _ rfl,zab hx 4 _ rfl⟩)
 have FIN:=zaa (show ∀ W:World,StAt W h ⟨ver,zb4 qnm lq,zb4 rpl rs,zb4 lid cl⟩→Below V0.heap.size V0 W→∃ h',(Ending.returned (Value.pointer (some ⟨h.S,0,none⟩)):Ending)=.returned (.pointer (some ⟨h'.S,0,none⟩))∧StAt W h' ⟨ver,zb4 qnm lq,zb4 rpl rs,zb4 lid cl⟩∧Below B w W∧B≤h'.S∧B≤h'.P∧B≤h'.R∧B≤h'.C from fun W hs hb=>by
  have:=(za bX).size
  exact⟨h,rfl,hs,(za bX).trans (hb.mono (by omega)),by omega,by omega,by omega,by omega⟩)
 have NW:=zaa (show V0.heap.size≤h.S∧V0.heap.size≤h.P∧V0.heap.size≤h.R∧V0.heap.size≤h.C from⟨hS,hP,hR,hC⟩);have z0:=(za CX V1 u1).1;have k0:=zab s1.hd 0 _ rfl;have f0:=zbf s1.hd 0;obtain⟨sv,cv⟩:=s1.withV ver;have SV:=zaa sv;have U1:=zaa (u1.trans (cv.toB0 (za NW) u1.size));have z2:=(za CX _ (za U1)).2.2.1;clear s1 u1 hS hP hR hC sv cv NS X1
 go_wp2_with fail
 clear z0 k0 f0 z2;generalize V1.setCell ⟨h.S,0,none⟩ (.int .i64 ver)=V2 at *;go_loopw [21] (fun i wr=>∃ j:Nat,j≤lq.length∧i=.int .i64 (j:Int)∧Hid (StAt wr h ⟨ver,zb4 qnm (lq.take j),[],[]⟩)∧Hid (Below V0.heap.size V0 wr)) (fun i _=>lq.length - (intOf i).toNat)
 case atStart=>exact⟨0,by omega,rfl,SV,U1⟩
 case round =>
  obtain⟨j,hj,rfl,SY,BY⟩:=hrel;have BWw:=zaa (show Below B w wr from(za bX).trans ((za BY).mono (by have:=(za bX).size;omega)));by_cases hjm:j<lq.length
  ·as_aux_lemma =>
   have y0:(0:Int)≤(j:Int):=by omega
   have y1:(j:Int)<(lq.length:Int):=by omega
   obtain⟨g,rfl,q0,q1⟩:=za LP wr (za BWw) j hjm;have TG:=zaa (((za LL).later (by rw[hB];exact za BWw)).t _ (List.getElem_mem hjm));have QZ:=zaa ((za LL).qz _ (List.getElem_mem hjm)).1;have NX:=zaa (za NP j hjm);have TL:=zaa (show(zb4 qnm (lq.take j)).length≤1000 from Nat.le_trans (zkf qnm _) (by rw[List.length_take];omega));generalize lq[j]=q at *;obtain⟨⟨qn,qt⟩,qa,qc⟩:=q;dsimp only at q0 q1 TG QZ;have bA:=zaa (show Below wr.heap.size wr (wr.alloc (.cells #[.string qn,.slice qa qt.length qc] 54)) from(Below.refl _ _).alloc (Nat.le_refl _) _);have XA:=zaa (zad wr (.cells #[.string qn,.slice qa qt.length qc] 54))
   go_wp2_with fail
   clear q0 q1;generalize wr.alloc (.cells #[.string qn,.slice qa qt.length qc] 54)=V at *;have bD:=zaa (show Below wr.heap.size wr V.drew from(za bA).drew);have bE:=zaa (show Below V.heap.size V V.drew from(Below.refl _ _).drew);obtain⟨W3,hput,sd,cd⟩:=((za SY).later (za bD)).putP ⟨⟨qn,qt⟩,qa,qc⟩ (by simp only[maxLen];have:=za QZ;omega) ((za TG).later (za bD)) (za TL);have SD:=zaa sd;have CD:=zaa ((za BY).trans ((za bD).mono (za BY).size |>.trans (cd.toB0 (za NW) (Nat.le_trans (za BY).size (za bD).size))));simp only at hput;have s3:=((za SY).later (za bD)).cell.2.1;have s4:=zab (zac (za bE) (za XA)) 0 _ rfl;have s5:=zab (zac (za bE) (za XA)) 1 _ rfl;clear sd cd;refine wp_region_held_drew (S:=fun w'=>w'=V.drew∨w'=W3) (by kernel_rfl) ?_ (fun hHeld=>?_)
   ·try dsimp only
    first|exact .inl rfl|exact .inr rfl
   refine hT 0 ?_;refine hT 1 ?_;refine hT 2 ?_;refine hT 4 ?_;refine wpAnyH_ready (rs:=[3,5,6]) (by kernel_rfl) (by simp) ?_;refine AllReadyH.cons rfl (fun K hK=>?_) ?_
   ·go_simp
    refine hK.out _ _ ?_ (fun hHeld=>?_)
    ·try dsimp only
     first|exact .inl rfl|exact .inr rfl
    clear hK K;refine hP ?_;refine wpAnyH_ready (rs:=[5,6]) (by kernel_rfl) (by simp) ?_;refine AllReadyH.cons rfl (fun K hK=>?_) ?_
    ·go_simp
     refine hK.out _ _ ?_ (fun hHeld=>?_)
     ·try dsimp only
      first|exact .inl rfl|exact .inr rfl
     clear hK K;refine hP ?_;refine wpAnyH_ready (rs:=[6]) (by kernel_rfl) (by simp) ?_;refine AllReadyH.cons rfl (fun K hK=>?_) ?_
     ·go_simp
      refine hK.out _ _ ?_ (fun hHeld=>?_)
      ·try dsimp only
       first|exact .inl rfl|exact .inr rfl
      clear hK K;refine hP ?_;refine wpAnyH_ready (rs:=[7]) (by kernel_rfl) (by simp) ?_;refine AllReadyH.cons rfl (fun K hK=>?_) ?_
      ·go_simp
       refine hK.out _ _ ?_ (fun hHeld=>?_)
       ·try dsimp only
        first|exact .inl rfl|exact .inr rfl
       clear hK K;refine hP ?_;refine wpAnyH_done (by kernel_rfl) ?_ _
       go_wp2
       exact⟨⟨j+1,by omega,by go_num,zaa (by rw[za NX];exact za SD),CD⟩,by simp[intOf];omega⟩
      exact AllReadyH.nil
     exact AllReadyH.nil
    refine AllReadyH.cons rfl (fun K hK=>?_) ?_
    ·go_simp
     refine hK.out _ _ ?_ (fun hHeld=>?_)
     ·try dsimp only
      first|exact .inl rfl|exact .inr rfl
     clear hK K;refine hP ?_;refine wpAnyH_ready (rs:=[5]) (by kernel_rfl) (by simp) ?_;refine AllReadyH.cons rfl (fun K hK=>?_) ?_
     ·go_simp
      refine hK.out _ _ ?_ (fun hHeld=>?_)
      ·try dsimp only
       first|exact .inl rfl|exact .inr rfl
      clear hK K;refine hP ?_;refine wpAnyH_ready (rs:=[7]) (by kernel_rfl) (by simp) ?_;refine AllReadyH.cons rfl (fun K hK=>?_) ?_
      ·go_simp
       refine hK.out _ _ ?_ (fun hHeld=>?_)
       ·try dsimp only
        first|exact .inl rfl|exact .inr rfl
       clear hK K;refine hP ?_;refine wpAnyH_done (by kernel_rfl) ?_ _
       go_wp2
       exact⟨⟨j+1,by omega,by go_num,zaa (by rw[za NX];exact za SD),CD⟩,by simp[intOf];omega⟩
      exact AllReadyH.nil
     exact AllReadyH.nil
    exact AllReadyH.nil
   refine AllReadyH.cons rfl (fun K hK=>?_) ?_
   ·go_simp
    refine hK.out _ _ ?_ (fun hHeld=>?_)
    ·try dsimp only
     first|exact .inl rfl|exact .inr rfl
    clear hK K;refine hP ?_;refine wpAnyH_ready (rs:=[3,6]) (by kernel_rfl) (by simp) ?_;refine AllReadyH.cons rfl (fun K hK=>?_) ?_
    ·go_simp
     refine hK.out _ _ ?_ (fun hHeld=>?_)
     ·try dsimp only
      first|exact .inl rfl|exact .inr rfl
     clear hK K;refine hP ?_;refine wpAnyH_ready (rs:=[6]) (by kernel_rfl) (by simp) ?_;refine AllReadyH.cons rfl (fun K hK=>?_) ?_
     ·go_simp
      refine hK.out _ _ ?_ (fun hHeld=>?_)
      ·try dsimp only
       first|exact .inl rfl|exact .inr rfl
      clear hK K;refine hP ?_;refine wpAnyH_ready (rs:=[7]) (by kernel_rfl) (by simp) ?_;refine AllReadyH.cons rfl (fun K hK=>?_) ?_
      ·go_simp
       refine hK.out _ _ ?_ (fun hHeld=>?_)
       ·try dsimp only
        first|exact .inl rfl|exact .inr rfl
       clear hK K;refine hP ?_;refine wpAnyH_done (by kernel_rfl) ?_ _
       go_wp2
       exact⟨⟨j+1,by omega,by go_num,zaa (by rw[za NX];exact za SD),CD⟩,by simp[intOf];omega⟩
      exact AllReadyH.nil
     exact AllReadyH.nil
    refine AllReadyH.cons rfl (fun K hK=>?_) ?_
    ·go_simp
     refine hK.out _ _ ?_ (fun hHeld=>?_)
     ·try dsimp only
      first|exact .inl rfl|exact .inr rfl
     clear hK K;refine hP ?_;refine wpAnyH_ready (rs:=[3]) (by kernel_rfl) (by simp) ?_;refine AllReadyH.cons rfl (fun K hK=>?_) ?_
     ·go_simp
      refine hK.out _ _ ?_ (fun hHeld=>?_)
      ·try dsimp only
       first|exact .inl rfl|exact .inr rfl
      clear hK K;refine hP ?_;refine wpAnyH_ready (rs:=[7]) (by kernel_rfl) (by simp) ?_;refine AllReadyH.cons rfl (fun K hK=>?_) ?_
      ·go_simp
       refine hK.out _ _ ?_ (fun hHeld=>?_)
       ·try dsimp only
        first|exact .inl rfl|exact .inr rfl
       clear hK K;refine hP ?_;refine wpAnyH_done (by kernel_rfl) ?_ _
       go_wp2
       exact⟨⟨j+1,by omega,by go_num,zaa (by rw[za NX];exact za SD),CD⟩,by simp[intOf];omega⟩
      exact AllReadyH.nil
     exact AllReadyH.nil
    exact AllReadyH.nil
   refine AllReadyH.cons rfl (fun K hK=>?_) ?_
   ·go_simp
    refine hK.out _ _ ?_ (fun hHeld=>?_)
    ·try dsimp only
     first|exact .inl rfl|exact .inr rfl
    clear hK K;refine hP ?_;refine wpAnyH_ready (rs:=[3,5]) (by kernel_rfl) (by simp) ?_;refine AllReadyH.cons rfl (fun K hK=>?_) ?_
    ·go_simp
     refine hK.out _ _ ?_ (fun hHeld=>?_)
     ·try dsimp only
      first|exact .inl rfl|exact .inr rfl
     clear hK K;refine hP ?_;refine wpAnyH_ready (rs:=[5]) (by kernel_rfl) (by simp) ?_;refine AllReadyH.cons rfl (fun K hK=>?_) ?_
     ·go_simp
      refine hK.out _ _ ?_ (fun hHeld=>?_)
      ·try dsimp only
       first|exact .inl rfl|exact .inr rfl
      clear hK K;refine hP ?_;refine wpAnyH_ready (rs:=[7]) (by kernel_rfl) (by simp) ?_;refine AllReadyH.cons rfl (fun K hK=>?_) ?_
      ·go_simp
       refine hK.out _ _ ?_ (fun hHeld=>?_)
       ·try dsimp only
        first|exact .inl rfl|exact .inr rfl
       clear hK K;refine hP ?_;refine wpAnyH_done (by kernel_rfl) ?_ _
       go_wp2
       exact⟨⟨j+1,by omega,by go_num,zaa (by rw[za NX];exact za SD),CD⟩,by simp[intOf];omega⟩
      exact AllReadyH.nil
     exact AllReadyH.nil
    refine AllReadyH.cons rfl (fun K hK=>?_) ?_
    ·go_simp
     refine hK.out _ _ ?_ (fun hHeld=>?_)
     ·try dsimp only
      first|exact .inl rfl|exact .inr rfl
     clear hK K;refine hP ?_;refine wpAnyH_ready (rs:=[3]) (by kernel_rfl) (by simp) ?_;refine AllReadyH.cons rfl (fun K hK=>?_) ?_
     ·go_simp
      refine hK.out _ _ ?_ (fun hHeld=>?_)
      ·try dsimp only
       first|exact .inl rfl|exact .inr rfl
      clear hK K;refine hP ?_;refine wpAnyH_ready (rs:=[7]) (by kernel_rfl) (by simp) ?_;refine AllReadyH.cons rfl (fun K hK=>?_) ?_
      ·go_simp
       refine hK.out _ _ ?_ (fun hHeld=>?_)
       ·try dsimp only
        first|exact .inl rfl|exact .inr rfl
       clear hK K;refine hP ?_;refine wpAnyH_done (by kernel_rfl) ?_ _
       go_wp2
       exact⟨⟨j+1,by omega,by go_num,zaa (by rw[za NX];exact za SD),CD⟩,by simp[intOf];omega⟩
      exact AllReadyH.nil
     exact AllReadyH.nil
    exact AllReadyH.nil
   exact AllReadyH.nil
  ·as_aux_lemma =>
   obtain rfl:j=lq.length:=by omega
   rw[za TP] at SY;have y1:¬ (lq.length:Int)<(lq.length:Int):=by omega
   have z1:=(za CX _ (za BY)).2.1;clear LP NP TP
   go_wp2_with fail
   clear z1 y1;go_loopw [37] (fun i wr=>∃ j:Nat,j≤rs.length∧i=.int .i64 (j:Int)∧Hid (StAt wr h ⟨ver,zb4 qnm lq,zb4 rpl (rs.take j),[]⟩)∧Hid (Below V0.heap.size V0 wr)) (fun i _=>rs.length - (intOf i).toNat)
   case atStart=>exact⟨0,by omega,rfl,SY,BY⟩
   case round =>
    clear SY BY BWw;obtain⟨j,hj,rfl,SY,BY⟩:=hrel;have BWw:=zaa (show Below B w wr from(za bX).trans ((za BY).mono (by have:=(za bX).size;omega)));by_cases hjm:j<rs.length
    ·as_aux_lemma =>
     have y0:(0:Int)≤(j:Int):=by omega
     have y1:(j:Int)<(rs.length:Int):=by omega
     obtain⟨g,rfl,q0,q1,q2⟩:=za LR wr (za BWw) j hjm;have QZ:=zaa ((za LL).rz _ (List.getElem_mem hjm));have NX:=zaa (za NR j hjm);have TL:=zaa (show(zb4 rpl (rs.take j)).length≤1000 from Nat.le_trans (zkf rpl _) (by rw[List.length_take];omega));generalize rs[j]=q at *;obtain⟨rh,rp,rl⟩:=q;dsimp only at q0 q1 q2 QZ;have bA:=zaa (show Below wr.heap.size wr (wr.alloc (.cells #[.string rh,.string rp,.string rl] 56)) from(Below.refl _ _).alloc (Nat.le_refl _) _);have XA:=zaa (zad wr (.cells #[.string rh,.string rp,.string rl] 56))
     go_wp2_with fail
     clear q0 q1 q2;generalize wr.alloc (.cells #[.string rh,.string rp,.string rl] 56)=V at *;generalize hD:wr.heap.size=D at *;have DV:=zaa (show D<V.heap.size from(Array.getElem?_eq_some_iff.1 (za XA)).1);have F:=zaa (show Below V.heap.size V V.drew from(Below.refl _ _).drew);have SB:=zaa (show ∀ W:World,Below V.heap.size V W→W.cell? ⟨h.S,2,none⟩=some (.map (some h.R))∧W.cell? ⟨D,0,none⟩=some (.string rh)∧W.cell? ⟨D,1,none⟩=some (.string rp)∧W.cell? ⟨D,2,none⟩=some (.string rl) from fun W hb=>⟨((za SY).later (show Below wr.heap.size wr W by rw[hD];exact(za bA).trans (hb.mono (by have:=za DV;omega)))).cell.2.2.1,zab (zac hb (za XA)) 0 _ rfl,zab (zac hb (za XA)) 1 _ rfl,zab (zac hb (za XA)) 2 _ rfl⟩);refine wp_region_held_drew (S:=fun w'=>w'.cell? ⟨h.S,2,none⟩=some (.map (some h.R))∧w'.cell? ⟨D,0,none⟩=some (.string rh)∧w'.cell? ⟨D,1,none⟩=some (.string rp)∧w'.cell? ⟨D,2,none⟩=some (.string rl)) (by kernel_rfl) ?_ (fun hHeld=>?_)
     ·try dsimp only
      first|exact za KC|exact za SB _ (za F)
     refine hT 0 ?_;refine hT 1 ?_;refine hT 2 ?_;refine hT 3 ?_;refine hT 4 ?_;refine hT 6 ?_;refine wpAnyH_ready (rs:=[5]) (by kernel_rfl) (by simp) ?_;refine AllReadyH.cons rfl (fun K hK=>?_) ?_
     ·go_simp
      go_at_call 103
      refine(zas _ ⟨rh,rp,rl⟩).mono ?_;rintro e U6 ⟨rfl,hb⟩;have F:=zaa ((za F).trans (hb.mono (za F).size));clear hb
      go_wp2_with fail
      refine hK.out _ _ ?_ (fun hHeld=>?_)
      ·try dsimp only
       first|exact za KC|exact za SB _ (za F)
      clear hK K;refine hP ?_;refine wpAnyH_ready (rs:=[7]) (by kernel_rfl) (by simp) ?_;refine AllReadyH.cons rfl (fun K hK=>?_) ?_
      ·have b6:=zaa (show Below wr.heap.size wr U6 by rw[hD];exact(za bA).trans ((za F).mono (by have:=za DV;omega)));obtain⟨W3,hput,sd,cd⟩:=((za SY).later (za b6)).putR ⟨rh,rp,rl⟩ (by simp only[maxLen];have:=za QZ;omega) (za TL);simp only at hput
       have KC:=zaa (show W3.cell? ⟨h.S,2,none⟩=some (.map (some h.R))∧W3.cell? ⟨D,0,none⟩=some (.string rh)∧W3.cell? ⟨D,1,none⟩=some (.string rp)∧W3.cell? ⟨D,2,none⟩=some (.string rl) by
        obtain⟨t1,t2,t3,t4⟩:=(za SY).lts;obtain⟨q1,q2,q3,q4⟩:=za SB _ (za F);have hk:W3.heap[D]? = U6.heap[D]?:=cd.block D (by have:=(za F).size;have:=za DV;omega) (by omega) (by omega) (by omega) (by omega)
        exact⟨sd.cell.2.2.1,(World.cell?_of_block hk).trans q2,(World.cell?_of_block hk).trans q3,(World.cell?_of_block hk).trans q4⟩)
       have SD:=zaa sd;have CD:=zaa ((za BY).trans (((za b6).mono (za BY).size).trans (cd.toB0 (za NW) (Nat.le_trans (za BY).size (za b6).size))));clear sd cd;go_simp
       clear hput;refine hK.out _ _ ?_ (fun hHeld=>?_)
       ·try dsimp only
        first|exact za KC|exact za SB _ (za F)
       clear hK K;refine hP ?_;refine wpAnyH_done (by kernel_rfl) ?_ _
       go_wp2
       exact⟨⟨j+1,by omega,by go_num,zaa (by rw[za NX];exact za SD),CD⟩,by simp[intOf];omega⟩
      exact AllReadyH.nil
     exact AllReadyH.nil
    ·as_aux_lemma =>
     obtain rfl:j=rs.length:=by omega
     rw[za TR] at SY;have y1:¬ (rs.length:Int)<(rs.length:Int):=by omega
     have z1:=(za CX _ (za BY)).2.2.2;clear LR NR TR
     go_wp2_with fail
     clear z1 y1;go_loopw [52] (fun i wr=>∃ j:Nat,j≤cl.length∧i=.int .i64 (j:Int)∧Hid (StAt wr h ⟨ver,zb4 qnm lq,zb4 rpl rs,zb4 lid (cl.take j)⟩)∧Hid (Below V0.heap.size V0 wr)) (fun i _=>cl.length - (intOf i).toNat)
     case atStart=>exact⟨0,by omega,rfl,SY,BY⟩
     case round =>
      clear SY BY BWw;obtain⟨j,hj,rfl,SY,BY⟩:=hrel;have BWw:=zaa (show Below B w wr from(za bX).trans ((za BY).mono (by have:=(za bX).size;omega)));by_cases hjm:j<cl.length
      ·as_aux_lemma =>
       have y0:(0:Int)≤(j:Int):=by omega
       have y1:(j:Int)<(cl.length:Int):=by omega
       obtain⟨g,rfl,q0,q1,q2,q3⟩:=za LC wr (za BWw) j hjm;have QZ:=zaa ((za LL).cz _ (List.getElem_mem hjm));have NX:=zaa (za NC j hjm);have TL:=zaa (show(zb4 lid (cl.take j)).length≤1000 from Nat.le_trans (zkf lid _) (by rw[List.length_take];omega));generalize cl[j]=q at *;obtain⟨ci,cs,ce,cv⟩:=q;dsimp only at q0 q1 q2 q3 QZ;have bA:=zaa (show Below wr.heap.size wr (wr.alloc (.cells #[.int .i64 ci,.int .i64 cs,.int .i64 ce,.int .i64 cv] 156)) from(Below.refl _ _).alloc (Nat.le_refl _) _);have XA:=zaa (zad wr (.cells #[.int .i64 ci,.int .i64 cs,.int .i64 ce,.int .i64 cv] 156))
       go_wp2_with fail
       clear q0 q1 q2 q3;generalize wr.alloc (.cells #[.int .i64 ci,.int .i64 cs,.int .i64 ce,.int .i64 cv] 156)=V at *;have bD:=zaa (show Below wr.heap.size wr V.drew from(za bA).drew);have bE:=zaa (show Below V.heap.size V V.drew from(Below.refl _ _).drew);obtain⟨W3,hput,sd,cd⟩:=((za SY).later (za bD)).putC ⟨ci,cs,ce,cv⟩ (za QZ) (za TL);have SD:=zaa sd;have CD:=zaa ((za BY).trans (((za bD).mono (za BY).size).trans (cd.toB0 (za NW) (Nat.le_trans (za BY).size (za bD).size))));simp only at hput;have s3:=((za SY).later (za bD)).cell.2.2.2;have s4:=zab (zac (za bE) (za XA)) 0 _ rfl;have s5:=zab (zac (za bE) (za XA)) 1 _ rfl;have s6:=zab (zac (za bE) (za XA)) 2 _ rfl;have s7:=zab (zac (za bE) (za XA)) 3 _ rfl;clear sd cd;refine wp_region_held_drew (S:=fun w'=>w'=V.drew∨w'=W3) (by kernel_rfl) ?_ (fun hHeld=>?_)
       ·try dsimp only
        first|exact .inl rfl|exact .inr rfl
       refine hT 0 ?_;refine hT 1 ?_;refine hT 2 ?_;refine hT 4 ?_;refine hT 6 ?_;refine wpAnyH_ready (rs:=[3,5,7]) (by kernel_rfl) (by simp) ?_;refine AllReadyH.cons rfl (fun K hK=>?_) ?_
       ·go_simp
        refine hK.out _ _ ?_ (fun hHeld=>?_)
        ·try dsimp only
         first|exact .inl rfl|exact .inr rfl
        clear hK K;refine hP ?_;refine wpAnyH_ready (rs:=[5,7]) (by kernel_rfl) (by simp) ?_;refine AllReadyH.cons rfl (fun K hK=>?_) ?_
        ·go_simp
         refine hK.out _ _ ?_ (fun hHeld=>?_)
         ·try dsimp only
          first|exact .inl rfl|exact .inr rfl
         clear hK K;refine hP ?_;refine wpAnyH_ready (rs:=[7]) (by kernel_rfl) (by simp) ?_;refine AllReadyH.cons rfl (fun K hK=>?_) ?_
         ·go_simp
          refine hK.out _ _ ?_ (fun hHeld=>?_)
          ·try dsimp only
           first|exact .inl rfl|exact .inr rfl
          clear hK K;refine hP ?_;refine wpAnyH_ready (rs:=[8]) (by kernel_rfl) (by simp) ?_;refine AllReadyH.cons rfl (fun K hK=>?_) ?_
          ·go_simp
           refine hK.out _ _ ?_ (fun hHeld=>?_)
           ·try dsimp only
            first|exact .inl rfl|exact .inr rfl
           clear hK K;refine hP ?_;refine wpAnyH_done (by kernel_rfl) ?_ _
           go_wp2
           exact⟨⟨j+1,by omega,by go_num,zaa (by rw[za NX];exact za SD),CD⟩,by simp[intOf];omega⟩
          exact AllReadyH.nil
         exact AllReadyH.nil
        refine AllReadyH.cons rfl (fun K hK=>?_) ?_
        ·go_simp
         refine hK.out _ _ ?_ (fun hHeld=>?_)
         ·try dsimp only
          first|exact .inl rfl|exact .inr rfl
         clear hK K;refine hP ?_;refine wpAnyH_ready (rs:=[5]) (by kernel_rfl) (by simp) ?_;refine AllReadyH.cons rfl (fun K hK=>?_) ?_
         ·go_simp
          refine hK.out _ _ ?_ (fun hHeld=>?_)
          ·try dsimp only
           first|exact .inl rfl|exact .inr rfl
          clear hK K;refine hP ?_;refine wpAnyH_ready (rs:=[8]) (by kernel_rfl) (by simp) ?_;refine AllReadyH.cons rfl (fun K hK=>?_) ?_
          ·go_simp
           refine hK.out _ _ ?_ (fun hHeld=>?_)
           ·try dsimp only
            first|exact .inl rfl|exact .inr rfl
           clear hK K;refine hP ?_;refine wpAnyH_done (by kernel_rfl) ?_ _
           go_wp2
           exact⟨⟨j+1,by omega,by go_num,zaa (by rw[za NX];exact za SD),CD⟩,by simp[intOf];omega⟩
          exact AllReadyH.nil
         exact AllReadyH.nil
        exact AllReadyH.nil
       refine AllReadyH.cons rfl (fun K hK=>?_) ?_
       ·go_simp
        refine hK.out _ _ ?_ (fun hHeld=>?_)
        ·try dsimp only
         first|exact .inl rfl|exact .inr rfl
        clear hK K;refine hP ?_;refine wpAnyH_ready (rs:=[3,7]) (by kernel_rfl) (by simp) ?_;refine AllReadyH.cons rfl (fun K hK=>?_) ?_
        ·go_simp
         refine hK.out _ _ ?_ (fun hHeld=>?_)
         ·try dsimp only
          first|exact .inl rfl|exact .inr rfl
         clear hK K;refine hP ?_;refine wpAnyH_ready (rs:=[7]) (by kernel_rfl) (by simp) ?_;refine AllReadyH.cons rfl (fun K hK=>?_) ?_
         ·go_simp
          refine hK.out _ _ ?_ (fun hHeld=>?_)
          ·try dsimp only
           first|exact .inl rfl|exact .inr rfl
          clear hK K;refine hP ?_;refine wpAnyH_ready (rs:=[8]) (by kernel_rfl) (by simp) ?_;refine AllReadyH.cons rfl (fun K hK=>?_) ?_
          ·go_simp
           refine hK.out _ _ ?_ (fun hHeld=>?_)
           ·try dsimp only
            first|exact .inl rfl|exact .inr rfl
           clear hK K;refine hP ?_;refine wpAnyH_done (by kernel_rfl) ?_ _
           go_wp2
           exact⟨⟨j+1,by omega,by go_num,zaa (by rw[za NX];exact za SD),CD⟩,by simp[intOf];omega⟩
          exact AllReadyH.nil
         exact AllReadyH.nil
        refine AllReadyH.cons rfl (fun K hK=>?_) ?_
        ·go_simp
         refine hK.out _ _ ?_ (fun hHeld=>?_)
         ·try dsimp only
          first|exact .inl rfl|exact .inr rfl
         clear hK K;refine hP ?_;refine wpAnyH_ready (rs:=[3]) (by kernel_rfl) (by simp) ?_;refine AllReadyH.cons rfl (fun K hK=>?_) ?_
         ·go_simp
          refine hK.out _ _ ?_ (fun hHeld=>?_)
          ·try dsimp only
           first|exact .inl rfl|exact .inr rfl
          clear hK K;refine hP ?_;refine wpAnyH_ready (rs:=[8]) (by kernel_rfl) (by simp) ?_;refine AllReadyH.cons rfl (fun K hK=>?_) ?_
          ·go_simp
           refine hK.out _ _ ?_ (fun hHeld=>?_)
           ·try dsimp only
            first|exact .inl rfl|exact .inr rfl
           clear hK K;refine hP ?_;refine wpAnyH_done (by kernel_rfl) ?_ _
           go_wp2
           exact⟨⟨j+1,by omega,by go_num,zaa (by rw[za NX];exact za SD),CD⟩,by simp[intOf];omega⟩
          exact AllReadyH.nil
         exact AllReadyH.nil
        exact AllReadyH.nil
       refine AllReadyH.cons rfl (fun K hK=>?_) ?_
       ·go_simp
        refine hK.out _ _ ?_ (fun hHeld=>?_)
        ·try dsimp only
         first|exact .inl rfl|exact .inr rfl
        clear hK K;refine hP ?_;refine wpAnyH_ready (rs:=[3,5]) (by kernel_rfl) (by simp) ?_;refine AllReadyH.cons rfl (fun K hK=>?_) ?_
        ·go_simp
         refine hK.out _ _ ?_ (fun hHeld=>?_)
         ·try dsimp only
          first|exact .inl rfl|exact .inr rfl
         clear hK K;refine hP ?_;refine wpAnyH_ready (rs:=[5]) (by kernel_rfl) (by simp) ?_;refine AllReadyH.cons rfl (fun K hK=>?_) ?_
         ·go_simp
          refine hK.out _ _ ?_ (fun hHeld=>?_)
          ·try dsimp only
           first|exact .inl rfl|exact .inr rfl
          clear hK K;refine hP ?_;refine wpAnyH_ready (rs:=[8]) (by kernel_rfl) (by simp) ?_;refine AllReadyH.cons rfl (fun K hK=>?_) ?_
          ·go_simp
           refine hK.out _ _ ?_ (fun hHeld=>?_)
           ·try dsimp only
            first|exact .inl rfl|exact .inr rfl
           clear hK K;refine hP ?_;refine wpAnyH_done (by kernel_rfl) ?_ _
           go_wp2
           exact⟨⟨j+1,by omega,by go_num,zaa (by rw[za NX];exact za SD),CD⟩,by simp[intOf];omega⟩
          exact AllReadyH.nil
         exact AllReadyH.nil
        refine AllReadyH.cons rfl (fun K hK=>?_) ?_
        ·go_simp
         refine hK.out _ _ ?_ (fun hHeld=>?_)
         ·try dsimp only
          first|exact .inl rfl|exact .inr rfl
         clear hK K;refine hP ?_;refine wpAnyH_ready (rs:=[3]) (by kernel_rfl) (by simp) ?_;refine AllReadyH.cons rfl (fun K hK=>?_) ?_
         ·go_simp
          refine hK.out _ _ ?_ (fun hHeld=>?_)
          ·try dsimp only
           first|exact .inl rfl|exact .inr rfl
          clear hK K;refine hP ?_;refine wpAnyH_ready (rs:=[8]) (by kernel_rfl) (by simp) ?_;refine AllReadyH.cons rfl (fun K hK=>?_) ?_
          ·go_simp
           refine hK.out _ _ ?_ (fun hHeld=>?_)
           ·try dsimp only
            first|exact .inl rfl|exact .inr rfl
           clear hK K;refine hP ?_;refine wpAnyH_done (by kernel_rfl) ?_ _
           go_wp2
           exact⟨⟨j+1,by omega,by go_num,zaa (by rw[za NX];exact za SD),CD⟩,by simp[intOf];omega⟩
          exact AllReadyH.nil
         exact AllReadyH.nil
        exact AllReadyH.nil
       exact AllReadyH.nil
      ·as_aux_lemma =>
       obtain rfl:j=cl.length:=by omega
       rw[za TC] at SY;have y1:¬ (cl.length:Int)<(cl.length:Int):=by omega
       have FF:=zaa (za FIN _ (za SY) (za BY));clear LC NC TC
       go_wp2
       go_ret
       exact za FF
end Go.Proofs.YtjcjleaicjhpeaaGreatDoor
