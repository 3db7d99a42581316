/- Conf: the document's right. -/
import Derived.Test.YtjcjleaicjhpeaaGreatDoorB30
import Derived.Test.YtjcjleaicjhpeaaGreatDoorB21
import Derived.Test.YtjcjleaicjhpeaaGreatDoorB31
import Derived.Test.YtjcjleaicjhpeaaGreatDoorB27
import Derived.Deep.CutRange
import Derived.Deep.CutBlock
import Derived.Deep.RegionHeld3
import Derived.Deep.QuietTactic
import Derived.BigQuiet
set_option linter.unusedVariables false
set_option maxRecDepth 20000
set_option maxHeartbeats 16000000
namespace Go.Proofs.YtjcjleaicjhpeaaGreatDoor
open Go.ChangeShapes Go.WideShapes Go.ChangeAt Go.RowKit
section
variable {κ α:Type} [Kord κ] {kf:α→κ} {p:α→Bool} {l:List α}
theorem zix:∀ (l:List κ) (a b:κ),zat (l++[a,b])=(zat (l++[a])&&decide (Kord.lt a b))
 |[],a,b=>by simp[zat]
 |[c],a,b=>by simp[zat]
 |c::d::l,a,b=>by
  show(decide (Kord.lt c d)&&zat ((d::l)++[a,b]))=((decide (Kord.lt c d)&&zat ((d::l)++[a]))&&decide (Kord.lt a b))
  rw[zix (d::l) a b,Bool.and_assoc]
def okT (kf:α→κ) (p:α→Bool) (l:List α) (j:Nat):Bool:=zat ((l.take j).map kf)&&(l.take j).all p
theorem zkh:okT kf p l 0=true:=by simp[okT,zat]
theorem znd (h:0<l.length):okT kf p l (0+1)=p l[0]:=by
 cases l with
 |nil=>cases h
 |cons x t=>simp[okT,zat]
theorem zkg (i:Nat) (h:i+1<l.length):okT kf p l (i+1+1)=(okT kf p l (i+1)&&(p l[i+1]&&decide (Kord.lt (kf l[i]) (kf l[i+1])))):=by
 have e1:l.take (i+1)=l.take i++[l[i]]:=List.take_succ_eq_append_getElem (by omega);have e2:l.take (i+1+1)=l.take i++[l[i],l[i+1]]:=by rw[List.take_succ_eq_append_getElem h,e1,List.append_assoc];rfl
 unfold okT;rw[e2,e1,List.map_append,List.map_append];simp only[List.map_cons,List.map_nil,zix,List.all_append,List.all_cons,List.all_nil,Bool.and_true];generalize zat ((l.take i).map kf++[kf l[i]])=A;generalize (l.take i).all p=B;generalize p l[i]=C;generalize p l[i+1]=D;generalize decide (Kord.lt (kf l[i]) (kf l[i+1]))=E;cases A <;> cases B <;> cases C <;> cases D <;> cases E <;> rfl
theorem znc:okT kf p l l.length=(zat (l.map kf)&&l.all p):=by unfold okT;rw[List.take_length]
theorem zcp {j:Nat} (h:okT kf p l j=false):(zat (l.map kf)&&l.all p)=false:=by
 cases hh:(zat (l.map kf)&&l.all p) with
 |false=>rfl
 |true =>
  exfalso
  rw[Bool.and_eq_true] at hh;have:okT kf p l j=true:=by
   unfold okT;rw[Bool.and_eq_true];exact⟨zkm _ (by rw[List.map_take];exact(zg8 _ hh.1).sublist (List.take_sublist ..)),List.all_eq_true.2 (fun x hx=>List.all_eq_true.1 hh.2 x (List.mem_of_mem_take hx))⟩
  rw[this] at h;cases h
end
def zhi (y:Sm):Bool:=(zat (y.ps.map qnm)&&y.ps.all (fun q=>zbe q.po))&&((zat (y.rs.map rpl)&&y.rs.all (zaz y))&&((zat (y.cl.map lid)&&y.cl.all (zb3 y.ver))&&decide (((zav y.cf).length:Int)≤12000)))
theorem ztt (ts:List Tgt) (h:ts.length≤16):(rtN ts=0∧(ts.all (fun t=>zcf t.1)&&zdk ts)=true)∨(∃ m:Nat,rtN ts=m∧m≠0∧(ts.all (fun t=>zcf t.1)&&zdk ts)=false):=by
 unfold rtN;have e:zt2 ts=ts.all (fun t=>zcf t.1):=rfl;rw[e];cases ts.all (fun t=>zcf t.1) <;> cases zdk ts <;> simp <;> omega
theorem znj {w:World} {r:Nat} {k:RfH} {y:Sm} (t:RtAt w r k y) (hb:SmB y) :
  Calls Tryz.prog 64 #[.pointer (some ⟨r,0,none⟩)] w fun e w'=>e=.returned (.bool (zhi y))∧Below w.heap.size w w':=by
 obtain⟨ver,ps,rs,cl⟩:=y;obtain⟨ra,rc,pa,pc,la,lc⟩:=k;have n1:=hb.pn;have n2:=hb.rn;have n3:=hb.cn;dsimp only at n1 n2 n3;have KC:=zaa (show ∀ W:World,Below w.heap.size w W→W.cell? ⟨r,0,none⟩=some (.int .i64 ver)∧W.cell? ⟨r,1,none⟩=some (.slice ra rs.length rc)∧W.cell? ⟨r,2,none⟩=some (.slice pa ps.length pc)∧W.cell? ⟨r,3,none⟩=some (.slice la cl.length lc) from fun W hw=>⟨zab (t.later hw).hd 0 _ rfl,zab (t.later hw).hd 1 _ rfl,zab (t.later hw).hd 2 _ rfl,zab (t.later hw).hd 3 _ rfl⟩)
 have LP:=zaa (show ∀ W:World,Below w.heap.size w W→∀ j (hj:j<ps.length),∃ g,pa=some ⟨g,0,none⟩∧W.cell? ⟨g,j*2,none⟩=some (.string ps[j].po.nm)∧W.cell? ⟨g,j*2+1,none⟩=some (.slice ps[j].ta ps[j].po.ts.length ps[j].tc) from fun W hw j hj=>by
  obtain⟨g,h1,_,h2,h3⟩:=(t.later hw).pw.cell j (by simpa using hj);simp only[List.getElem_map,Pq.pr] at h2 h3
  exact⟨g,h1,h2,h3⟩)
 have LR:=zaa (show ∀ W:World,Below w.heap.size w W→∀ j (hj:j<rs.length),∃ g,ra=some ⟨g,0,none⟩∧W.cell? ⟨g,j*3,none⟩=some (.string rs[j].h)∧W.cell? ⟨g,j*3+1,none⟩=some (.string rs[j].p)∧W.cell? ⟨g,j*3+2,none⟩=some (.string rs[j].l) from fun W hw j hj=>by
  obtain⟨g,h1,_,h2⟩:=(t.later hw).rw_.cell j hj
  exact⟨g,h1,h2⟩)
 have LC:=zaa (show ∀ W:World,Below w.heap.size w W→∀ j (hj:j<cl.length),∃ g,la=some ⟨g,0,none⟩∧W.cell? ⟨g,j*4,none⟩=some (.int .i64 cl[j].id)∧W.cell? ⟨g,j*4+1,none⟩=some (.int .i64 cl[j].seq)∧W.cell? ⟨g,j*4+2,none⟩=some (.int .i64 cl[j].e)∧W.cell? ⟨g,j*4+3,none⟩=some (.int .i64 cl[j].ver) from fun W hw j hj=>by
  obtain⟨g,h1,_,h2⟩:=(t.later hw).lw.cell j hj
  exact⟨g,h1,h2⟩)
 have TT:=zaa (show ∀ W:World,Below w.heap.size w W→∀ q∈ps,TgsAt W q.ta q.po.ts from fun W hw q hq=>((t.later hw).dt q hq).1);have PZ:=zaa (show ∀ q∈ps,q.po.nm.size≤128∧q.po.ts.length≤16∧∀ t∈q.po.ts,t.1.size≤128 from hb.ps);have RZ:=zaa (show ∀ q∈rs,q.h.size≤128∧q.p.size≤128∧q.l.size≤128 from hb.rs);have CFG:=zaa (fun (W:World) (hw:Below w.heap.size w W)=>zpr (W:=W) (t.later hw).rw_ (t.later hw).pw (fun p hp=>(t.later hw).dt p hp) (ver:=ver) (by have:=hb.vr;dsimp only at this;omega) hb.ok.t rs.length ps.length rfl rfl);have EQ:=zaa (show zhi ⟨ver,ps,rs,cl⟩=((zat (ps.map qnm)&&ps.all (fun q:Pq=>zbe q.po))&&((zat (rs.map rpl)&&rs.all (zaz ⟨ver,ps,rs,cl⟩))&&((zat (cl.map lid)&&cl.all (zb3 ver))&&decide (((zav ⟨ver,rs,ps.map Pq.po⟩).length:Int)≤12000)))) from rfl);generalize zhi ⟨ver,ps,rs,cl⟩=R at *;generalize zav ⟨ver,rs,ps.map Pq.po⟩=CB at *;clear t hb;go_enter Tryz.func64,Tryz.ntmps64
 go_wp2_with fail
 go_loopw [3] (fun i wr=>∃ j:Nat,j≤ps.length∧i=.int .i64 (j:Int)∧Hid (okT qnm (fun q:Pq=>zbe q.po) ps j=true)∧Hid (Below w.heap.size w wr)) (fun i _=>ps.length - (intOf i).toNat)
 case atStart=>exact⟨0,by omega,rfl,zaa zkh,Below.refl _ _⟩
 case round =>
  obtain⟨j,hj,rfl,OK,BW⟩:=hrel;have c2:=(za KC wr (za BW)).2.2.1;by_cases hjm:j<ps.length
  ·as_aux_lemma =>
   have y0:(0:Int)≤(j:Int):=by omega
   have y1:(j:Int)<(ps.length:Int):=by omega
   obtain⟨g,rfl,q0,q1⟩:=za LP wr (za BW) j hjm;have TQ:=zaa (fun W hw=>za TT W hw _ (List.getElem_mem hjm));have ZQ:=zaa (za PZ _ (List.getElem_mem hjm));have O1:=zaa (fun (hz:j=0)=>show okT qnm (fun q:Pq=>zbe q.po) ps (j+1)=zbe (ps[j]'hjm).po by subst hz;exact znd hjm);have O2:=zaa (fun (i:Nat) (hi:j=i+1)=>show ∃ (hi':i<ps.length),okT qnm (fun q:Pq=>zbe q.po) ps (j+1)=(okT qnm (fun q:Pq=>zbe q.po) ps j&&(zbe (ps[j]'hjm).po&&decide (Kord.lt (qnm (ps[i]'hi')) (qnm (ps[j]'hjm))))) by subst hi;exact⟨by omega,zkg i hjm⟩);generalize ps[j]=q at *;obtain⟨⟨qn,qt⟩,qa,qc⟩:=q;dsimp only at q0 q1 TQ ZQ O1;have bA:=zaa (show Below wr.heap.size wr (wr.alloc (.cells #[.string qn,.slice qa qt.length qc] 54)) from(Below.refl _ _).alloc (Nat.le_refl _) _);have XA:=zaa (zad wr (.cells #[.string qn,.slice qa qt.length qc] 54))
   go_wp2_with fail
   clear q0 q1 c2;generalize hV:wr.alloc (.cells #[.string qn,.slice qa qt.length qc] 54)=V at *;clear hV;generalize hD:wr.heap.size=D at *;have DV:=zaa (show D<V.heap.size from(Array.getElem?_eq_some_iff.1 (za XA)).1);have F:=zaa (show Below V.heap.size V V.drew from(Below.refl _ _).drew);have BX:=zaa (fun (W:World) (hw:Below V.heap.size V W)=>show Below w.heap.size w W from(za BW).trans (((za bA).mono (by have:=(za BW).size;omega)).trans (hw.mono (by have:=za DV;have:=(za BW).size;omega))));have BV:=zaa (za BX _ (za F));have CX:=zaa (show ∀ W:World,Below V.heap.size V W→W.cell? ⟨D,0,none⟩=some (.string qn)∧W.cell? ⟨D,1,none⟩=some (.slice qa qt.length qc)∧W.cell? ⟨r,2,none⟩=some (.slice (some ⟨g,0,none⟩) ps.length pc) from fun W hw=>⟨zab (zac hw (za XA)) 0 _ rfl,zab (zac hw (za XA)) 1 _ rfl,(za KC W (za BX W hw)).2.2.1⟩);have TG:=zaa (fun (W:World) (hw:Below V.heap.size V W)=>za TQ W (za BX W hw));have NZ:=zaa (show qn.size≤maxLen by have:=(za ZQ).1;simp only[maxLen];omega);have TL:=zaa (show qt.length≤maxLen by have:=(za ZQ).2.1;simp only[maxLen];omega);have TZ:=zaa (show ∀ t∈qt,t.1.size≤140737488355328 from fun t ht=>by have:=(za ZQ).2.2 t ht;omega);have PO:=zaa (show zbe ⟨qn,qt⟩=(zdy qn&&(qt.all (fun t=>zcf t.1)&&zdk qt)) from rfl);have RV:=ztt qt (za ZQ).2.1;have JZ:=zaa (show j=0∨∃ i,j=i+1 by cases j with|zero=>exact .inl rfl|succ i=>exact .inr ⟨i,rfl⟩);cases hn:zdy qn with
   |false=>as_aux_lemma =>
    have bad:okT qnm (fun q:Pq=>zbe q.po) ps (j+1)=false:=by
     rcases za JZ with hz|⟨i,hi⟩
     ·rw[za O1 hz,za PO,hn];rfl
     ·obtain⟨_,e⟩:=za O2 i hi;rw[e,za PO,hn];simp
    have hr:rtN qt=rtN qt:=rfl;clear RV;refine wp_region_held_drew (S:=fun W=>W.cell? ⟨D,0,none⟩=some (.string qn)∧W.cell? ⟨D,1,none⟩=some (.slice qa qt.length qc)∧W.cell? ⟨r,2,none⟩=some (.slice (some ⟨g,0,none⟩) ps.length pc)) (by kernel_rfl) ?_ (fun hHeld=>?_)
    ·try dsimp only
     exact za CX _ (za F)
    refine hT 0 ?_;refine hT 1 ?_;refine hO 2 (fun K hK=>?_);go_simp
    first
     |(go_at_call 123
       refine(za0 qn (za NZ) _).mono ?_;rintro e U1 ⟨rfl,rfl⟩
       rw[hn])
     |(go_at_call 124
       refine(zbi (za TG _ (za F)) qt.length qc rfl (za TL) (za TZ):Calls _ _ _ _ _).mono ?_;rintro e U2 ⟨rfl,rfl⟩
       rw[hr])
    go_wp2_with fail
    refine hK.out _ _ ?_ (fun hHeld=>?_)
    ·try dsimp only
     exact za CX _ (za F)
    clear hK K;refine hP ?_;refine hT 3 ?_;refine hT 4 ?_;refine hN 5 ?_;refine hN 6 ?_;refine zbr 7 (by kernel_rfl) rfl (by rfl) (by assumption) ?_;refine hP ?_;refine hN 8 ?_;refine hT 9 ?_;refine hT 10 ?_;refine hN 11 ?_;refine hN 12 ?_;refine hN 13 ?_;refine hN 14 ?_;refine hN 15 ?_;refine hN 16 ?_;refine hN 17 ?_;refine hN 18 ?_;refine hN 19 ?_;refine hN 20 ?_;refine hN 21 ?_;refine hN 22 ?_;refine hN 23 ?_;refine hN 24 ?_;refine hN 25 ?_;refine hN 26 ?_;refine hN 27 ?_;refine hT 28 ?_;refine wpAnyH_done (by kernel_rfl) ?_ _;have RB:=zaa (show R=false by rw[za EQ,zcp (bad)];simp);clear hn
    go_wp2
    go_ret
    rw[za RB];exact⟨rfl,za BV⟩
   |true =>
    rcases RV with⟨hr,ha⟩|⟨m,hr,hm,ha⟩
    ·by_cases hz:j=0
     ·as_aux_lemma =>
      have g0:¬ (0:Int)<(j:Int):=by omega
      have good:=zaa (show okT qnm (fun q:Pq=>zbe q.po) ps (j+1)=true by rw[za O1 hz,za PO,hn,ha];rfl);refine wp_region_held_drew (S:=fun W=>W.cell? ⟨D,0,none⟩=some (.string qn)∧W.cell? ⟨D,1,none⟩=some (.slice qa qt.length qc)∧W.cell? ⟨r,2,none⟩=some (.slice (some ⟨g,0,none⟩) ps.length pc)) (by kernel_rfl) ?_ (fun hHeld=>?_)
      ·try dsimp only
       exact za CX _ (za F)
      refine hT 0 ?_;refine hT 1 ?_;refine hO 2 (fun K hK=>?_);go_simp
      first
       |(go_at_call 123
         refine(za0 qn (za NZ) _).mono ?_;rintro e U1 ⟨rfl,rfl⟩
         rw[hn])
       |(go_at_call 124
         refine(zbi (za TG _ (za F)) qt.length qc rfl (za TL) (za TZ):Calls _ _ _ _ _).mono ?_;rintro e U2 ⟨rfl,rfl⟩
         rw[hr])
      go_wp2_with fail
      refine hK.out _ _ ?_ (fun hHeld=>?_)
      ·try dsimp only
       exact za CX _ (za F)
      clear hK K;refine hP ?_;refine hT 3 ?_;refine hT 4 ?_;refine hT 5 ?_;refine hT 6 ?_;refine hO 7 (fun K hK=>?_);go_simp
      first
       |(go_at_call 123
         refine(za0 qn (za NZ) _).mono ?_;rintro e U1 ⟨rfl,rfl⟩
         rw[hn])
       |(go_at_call 124
         refine(zbi (za TG _ (za F)) qt.length qc rfl (za TL) (za TZ):Calls _ _ _ _ _).mono ?_;rintro e U2 ⟨rfl,rfl⟩
         rw[hr])
      go_wp2_with fail
      refine hK.out _ _ ?_ (fun hHeld=>?_)
      ·try dsimp only
       exact za CX _ (za F)
      clear hK K;refine hP ?_;refine hT 8 ?_;refine hT 9 ?_;refine hT 10 ?_;refine hT 11 ?_;refine hT 12 ?_;refine hT 13 ?_;refine hN 14 ?_;refine hN 15 ?_;refine hN 16 ?_;refine hN 17 ?_;refine hN 18 ?_;refine hN 19 ?_;refine hN 20 ?_;refine hN 21 ?_;refine hN 22 ?_;refine hN 23 ?_;refine hN 24 ?_;refine hN 25 ?_;refine hN 26 ?_;refine hT 27 ?_;refine hT 28 ?_;refine wpAnyH_done (by kernel_rfl) ?_ _;clear hn
      go_wp2
      exact⟨⟨j+1,by omega,by go_num,good,BV⟩,by simp[intOf];omega⟩
     ·obtain⟨i,hi⟩:=(za JZ).resolve_left hz;have g0:(0:Int)<(j:Int):=by omega
      obtain⟨hi',e⟩:=za O2 i hi;have E:=zaa e;obtain⟨g',hg',o0,_⟩:=za LP wr (za BW) i hi';have hg2:g'=g:=by simpa using hg'.symm
      subst hg2
      have OC:=zaa (show ∀ W:World,Below w.heap.size w W→W.cell? ⟨g',i*2,none⟩=some (.string (ps[i]'hi').po.nm) from fun W hw=>by
       obtain⟨g2,h1,h2,_⟩:=za LP W hw i hi';have:g2=g':=by simpa using h1.symm
       subst this
       exact h2)
      clear o0 e;generalize ps[i]'hi'=oq at *;obtain⟨⟨on,ot⟩,oa,oc⟩:=oq;dsimp only[qnm] at OC E;have CY:=zaa (show ∀ W:World,Below V.heap.size V W→W.cell? ⟨D,0,none⟩=some (.string qn)∧W.cell? ⟨D,1,none⟩=some (.slice qa qt.length qc)∧W.cell? ⟨r,2,none⟩=some (.slice (some ⟨g',0,none⟩) ps.length pc)∧W.cell? ⟨g',i*2,none⟩=some (.string on) from fun W hw=>⟨(za CX W hw).1,(za CX W hw).2.1,(za CX W hw).2.2,za OC W (za BX W hw)⟩);have hw:IntKind.i64.wrap ((j:Int) - 1)=(i:Int):=by rw[IntKind.wrap_i64];omega
      have hw2:IntKind.i64.wrap (i:Int)=(i:Int):=by rw[IntKind.wrap_i64];omega
      have i0:(0:Int)≤(i:Int):=by omega
      have i1:(i:Int)<(ps.length:Int):=by omega
      have hl:=zqs on qn;by_cases hlt:Kord.lt on qn
      ·as_aux_lemma =>
       rw[decide_eq_true hlt] at hl;have good:=zaa (show okT qnm (fun q:Pq=>zbe q.po) ps (j+1)=true by rw[za E,za OK,za PO,hn,ha];simp[hlt]);clear hlt E;refine wp_region_held_drew (S:=fun W=>W.cell? ⟨D,0,none⟩=some (.string qn)∧W.cell? ⟨D,1,none⟩=some (.slice qa qt.length qc)∧W.cell? ⟨r,2,none⟩=some (.slice (some ⟨g',0,none⟩) ps.length pc)∧W.cell? ⟨g',i*2,none⟩=some (.string on)) (by kernel_rfl) ?_ (fun hHeld=>?_)
       ·try dsimp only
        exact za CY _ (za F)
       refine hT 0 ?_;refine hT 1 ?_;refine hO 2 (fun K hK=>?_);go_simp
       first
        |(go_at_call 123
          refine(za0 qn (za NZ) _).mono ?_;rintro e U1 ⟨rfl,rfl⟩
          rw[hn])
        |(go_at_call 124
          refine(zbi (za TG _ (za F)) qt.length qc rfl (za TL) (za TZ):Calls _ _ _ _ _).mono ?_;rintro e U2 ⟨rfl,rfl⟩
          rw[hr])
       go_wp2_with fail
       refine hK.out _ _ ?_ (fun hHeld=>?_)
       ·try dsimp only
        exact za CY _ (za F)
       clear hK K;refine hP ?_;refine hT 3 ?_;refine hT 4 ?_;refine hT 5 ?_;refine hT 6 ?_;refine hO 7 (fun K hK=>?_);go_simp
       first
        |(go_at_call 123
          refine(za0 qn (za NZ) _).mono ?_;rintro e U1 ⟨rfl,rfl⟩
          rw[hn])
        |(go_at_call 124
          refine(zbi (za TG _ (za F)) qt.length qc rfl (za TL) (za TZ):Calls _ _ _ _ _).mono ?_;rintro e U2 ⟨rfl,rfl⟩
          rw[hr])
       go_wp2_with fail
       refine hK.out _ _ ?_ (fun hHeld=>?_)
       ·try dsimp only
        exact za CY _ (za F)
       clear hK K;refine hP ?_;refine hT 8 ?_;refine hT 9 ?_;refine hT 10 ?_;refine hT 11 ?_;refine hT 12 ?_;refine hT 13 ?_;refine hT 14 ?_;refine hT 15 ?_;refine hT 16 ?_;refine hT 17 ?_;refine hT 18 ?_;refine hT 19 ?_;refine hT 20 ?_;refine hT 21 ?_;refine hT 22 ?_;refine hT 23 ?_;refine hT 24 ?_;refine hT 25 ?_;refine hT 26 ?_;refine hT 27 ?_;refine hT 28 ?_;refine wpAnyH_done (by kernel_rfl) ?_ _;clear hn
       go_wp2
       exact⟨⟨j+1,by omega,by go_num,good,BV⟩,by simp[intOf];omega⟩
      ·as_aux_lemma =>
       rw[decide_eq_false hlt] at hl;have bad:okT qnm (fun q:Pq=>zbe q.po) ps (j+1)=false:=by rw[za E];simp[hlt]
       clear hlt E;refine wp_region_held_drew (S:=fun W=>W.cell? ⟨D,0,none⟩=some (.string qn)∧W.cell? ⟨D,1,none⟩=some (.slice qa qt.length qc)∧W.cell? ⟨r,2,none⟩=some (.slice (some ⟨g',0,none⟩) ps.length pc)∧W.cell? ⟨g',i*2,none⟩=some (.string on)) (by kernel_rfl) ?_ (fun hHeld=>?_)
       ·try dsimp only
        exact za CY _ (za F)
       refine hT 0 ?_;refine hT 1 ?_;refine hO 2 (fun K hK=>?_);go_simp
       first
        |(go_at_call 123
          refine(za0 qn (za NZ) _).mono ?_;rintro e U1 ⟨rfl,rfl⟩
          rw[hn])
        |(go_at_call 124
          refine(zbi (za TG _ (za F)) qt.length qc rfl (za TL) (za TZ):Calls _ _ _ _ _).mono ?_;rintro e U2 ⟨rfl,rfl⟩
          rw[hr])
       go_wp2_with fail
       refine hK.out _ _ ?_ (fun hHeld=>?_)
       ·try dsimp only
        exact za CY _ (za F)
       clear hK K;refine hP ?_;refine hT 3 ?_;refine hT 4 ?_;refine hT 5 ?_;refine hT 6 ?_;refine hO 7 (fun K hK=>?_);go_simp
       first
        |(go_at_call 123
          refine(za0 qn (za NZ) _).mono ?_;rintro e U1 ⟨rfl,rfl⟩
          rw[hn])
        |(go_at_call 124
          refine(zbi (za TG _ (za F)) qt.length qc rfl (za TL) (za TZ):Calls _ _ _ _ _).mono ?_;rintro e U2 ⟨rfl,rfl⟩
          rw[hr])
       go_wp2_with fail
       refine hK.out _ _ ?_ (fun hHeld=>?_)
       ·try dsimp only
        exact za CY _ (za F)
       clear hK K;refine hP ?_;refine hT 8 ?_;refine hT 9 ?_;refine hT 10 ?_;refine hT 11 ?_;refine hT 12 ?_;refine hT 13 ?_;refine hT 14 ?_;refine hT 15 ?_;refine hT 16 ?_;refine hT 17 ?_;refine hT 18 ?_;refine hT 19 ?_;refine hT 20 ?_;refine hT 21 ?_;refine hT 22 ?_;refine hT 23 ?_;refine hT 24 ?_;refine hT 25 ?_;refine hT 26 ?_;refine hT 27 ?_;refine hT 28 ?_;refine wpAnyH_done (by kernel_rfl) ?_ _;have RB:=zaa (show R=false by rw[za EQ,zcp (bad)];simp);clear hn
       go_wp2
       go_ret
       rw[za RB];exact⟨rfl,za BV⟩
    ·as_aux_lemma =>
     have m1:¬ ((m:Nat):Int)=0:=by omega
     have m2:(((m:Nat):Int)==0)=false:=by simpa using hm
     have m3:(((m:Nat):Int) != 0)=true:=by simpa using hm
     have m4:(m==0)=false:=by simpa using hm
     have m5:decide (((m:Nat):Int)=0)=false:=by simpa using hm
     have m6:decide (m=0)=false:=by simpa using hm
     have bad:okT qnm (fun q:Pq=>zbe q.po) ps (j+1)=false:=by
      rcases za JZ with hz|⟨i,hi⟩
      ·rw[za O1 hz,za PO,ha];simp
      ·obtain⟨_,e⟩:=za O2 i hi;rw[e,za PO,ha];simp
     refine wp_region_held_drew (S:=fun W=>W.cell? ⟨D,0,none⟩=some (.string qn)∧W.cell? ⟨D,1,none⟩=some (.slice qa qt.length qc)∧W.cell? ⟨r,2,none⟩=some (.slice (some ⟨g,0,none⟩) ps.length pc)) (by kernel_rfl) ?_ (fun hHeld=>?_)
     ·try dsimp only
      exact za CX _ (za F)
     refine hT 0 ?_;refine hT 1 ?_;refine hO 2 (fun K hK=>?_);go_simp
     first
      |(go_at_call 123
        refine(za0 qn (za NZ) _).mono ?_;rintro e U1 ⟨rfl,rfl⟩
        rw[hn])
      |(go_at_call 124
        refine(zbi (za TG _ (za F)) qt.length qc rfl (za TL) (za TZ):Calls _ _ _ _ _).mono ?_;rintro e U2 ⟨rfl,rfl⟩
        rw[hr])
     go_wp2_with fail
     refine hK.out _ _ ?_ (fun hHeld=>?_)
     ·try dsimp only
      exact za CX _ (za F)
     clear hK K;refine hP ?_;refine hT 3 ?_;refine hT 4 ?_;refine hT 5 ?_;refine hT 6 ?_;refine hO 7 (fun K hK=>?_);go_simp
     first
      |(go_at_call 123
        refine(za0 qn (za NZ) _).mono ?_;rintro e U1 ⟨rfl,rfl⟩
        rw[hn])
      |(go_at_call 124
        refine(zbi (za TG _ (za F)) qt.length qc rfl (za TL) (za TZ):Calls _ _ _ _ _).mono ?_;rintro e U2 ⟨rfl,rfl⟩
        rw[hr])
     go_wp2_with fail
     refine hK.out _ _ ?_ (fun hHeld=>?_)
     ·try dsimp only
      exact za CX _ (za F)
     clear hK K;refine hP ?_;refine hT 8 ?_;refine hT 9 ?_;refine hT 10 ?_;refine hN 11 ?_;refine hN 12 ?_;refine hN 13 ?_;refine hN 14 ?_;refine hN 15 ?_;refine hN 16 ?_;refine hN 17 ?_;refine hN 18 ?_;refine hN 19 ?_;refine hN 20 ?_;refine hN 21 ?_;refine hN 22 ?_;refine hN 23 ?_;refine hN 24 ?_;refine hN 25 ?_;refine hN 26 ?_;refine hN 27 ?_;refine hT 28 ?_;refine wpAnyH_done (by kernel_rfl) ?_ _;have RB:=zaa (show R=false by rw[za EQ,zcp (bad)];simp);clear hn
     go_wp2
     go_ret
     rw[za RB];exact⟨rfl,za BV⟩
  ·as_aux_lemma =>
   obtain rfl:j=ps.length:=by omega
   rw[znc] at OK;have E2:=zaa (show R=((zat (rs.map rpl)&&rs.all (zaz ⟨ver,ps,rs,cl⟩))&&((zat (cl.map lid)&&cl.all (zb3 ver))&&decide ((CB.length:Int)≤12000))) by rw[za EQ,za OK];rfl);have y1:¬ (ps.length:Int)<(ps.length:Int):=by omega
   clear EQ OK
   go_wp2_with fail
   clear c2 y1;go_loopw [5,7,8] (fun i _ _ wr=>∃ j:Nat,j≤rs.length∧i=.int .i64 (j:Int)∧Hid (okT rpl (zaz ⟨ver,ps,rs,cl⟩) rs j=true)∧Hid (Below w.heap.size w wr)) (fun i _ _ _=>rs.length - (intOf i).toNat)
   case atStart=>exact⟨0,by omega,rfl,zaa zkh,BW⟩
   case round =>
    clear BW;obtain⟨j,hj,rfl,OK,BW⟩:=hrel;have c2:=(za KC wr (za BW)).2.1;by_cases hjm:j<rs.length
    ·as_aux_lemma =>
     have y0:(0:Int)≤(j:Int):=by omega
     have y1:(j:Int)<(rs.length:Int):=by omega
     obtain⟨g,rfl,q0,q1,q2⟩:=za LR wr (za BW) j hjm;have ZQ:=zaa (za RZ _ (List.getElem_mem hjm));have O1:=zaa (fun (hz:j=0)=>show okT rpl (zaz ⟨ver,ps,rs,cl⟩) rs (j+1)=zaz ⟨ver,ps,rs,cl⟩ (rs[j]'hjm) by subst hz;exact znd hjm);have O2:=zaa (fun (i:Nat) (hi:j=i+1)=>show ∃ (hi':i<rs.length),okT rpl (zaz ⟨ver,ps,rs,cl⟩) rs (j+1)=(okT rpl (zaz ⟨ver,ps,rs,cl⟩) rs j&&(zaz ⟨ver,ps,rs,cl⟩ (rs[j]'hjm)&&decide (Kord.lt (rpl (rs[i]'hi')) (rpl (rs[j]'hjm))))) by subst hi;exact⟨by omega,zkg i hjm⟩);generalize rs[j]=q at *;obtain⟨qh,qp,ql⟩:=q;dsimp only at q0 q1 q2 ZQ;have bA:=zaa (show Below wr.heap.size wr (wr.alloc (.cells #[.string qh,.string qp,.string ql] 56)) from(Below.refl _ _).alloc (Nat.le_refl _) _);have XA:=zaa (zad wr (.cells #[.string qh,.string qp,.string ql] 56));have NH:=zaa (show qh.size≤maxLen by have:=(za ZQ).1;simp only[maxLen];omega);have NP:=zaa (show qp.size≤maxLen by have:=(za ZQ).2.1;simp only[maxLen];omega);have PO:=zaa (show zaz ⟨ver,ps,rs,cl⟩ ⟨qh,qp,ql⟩=(zbw qh&&(zc5 qp&&(ps.any (fun q=>decide (qnm q=ql))))) from by unfold zaz;rw[zim]);have JZ:=zaa (show j=0∨∃ i,j=i+1 by cases j with|zero=>exact .inl rfl|succ i=>exact .inr ⟨i,rfl⟩);have BA:=zaa ((za BW).trans ((za bA).mono (za BW).size))
     go_wp2_with fail
     clear q0 q1 q2 c2;generalize hV:wr.alloc (.cells #[.string qh,.string qp,.string ql] 56)=V at *;clear hV;generalize hD:wr.heap.size=D at *;go_loopw [7,8] (fun th kv wr=>∃ u:Nat,u≤ps.length∧kv=.int .i64 (u:Int)∧th=.bool ((ps.take u).any (fun q=>decide (qnm q=ql)))∧Hid (Below V.heap.size V wr)) (fun _ kv _=>ps.length - (intOf kv).toNat)
     case atStart=>exact⟨0,by omega,rfl,by simp,zaa (Below.refl _ _)⟩
     case round =>
      obtain⟨u,hu,rfl,rfl,F⟩:=hrel;have DV:=zaa (show D<V.heap.size from(Array.getElem?_eq_some_iff.1 (za XA)).1);have BX:=zaa (fun (W:World) (hw:Below V.heap.size V W)=>show Below w.heap.size w W from(za BA).trans (hw.mono (za BA).size));have d2:=(za KC wr (za BX _ (za F))).2.2.1;by_cases hum:u<ps.length
      ·as_aux_lemma =>
       have v0:(0:Int)≤(u:Int):=by omega
       have v1:(u:Int)<(ps.length:Int):=by omega
       obtain⟨g2,rfl,o0,_⟩:=za LP wr (za BX _ (za F)) u hum;have TK:=zaa (show(ps.take (u+1)).any (fun q=>decide (qnm q=ql))=((ps.take u).any (fun q=>decide (qnm q=ql))||decide ((ps[u]'hum).po.nm=ql)) by rw[List.take_succ_eq_append_getElem hum,List.any_append,List.any_cons,List.any_nil,Bool.or_false];rfl);have F:=zaa (za F).drew
       have OC:=zaa (show ∀ W:World,Below w.heap.size w W→W.cell? ⟨g2,u*2,none⟩=some (.string (ps[u]'hum).po.nm) from fun W hw=>by
        obtain⟨g3,h1,h2,_⟩:=za LP W hw u hum;have:g3=g2:=by simpa using h1.symm
        subst this
        exact h2)
       clear o0;generalize ps[u]'hum=oq at *;obtain⟨⟨on,ot⟩,oa,oc⟩:=oq;dsimp only at OC TK;have CX:=zaa (show ∀ W:World,Below V.heap.size V W→W.cell? ⟨r,2,none⟩=some (.slice (some ⟨g2,0,none⟩) ps.length pc)∧W.cell? ⟨D,2,none⟩=some (.string ql)∧W.cell? ⟨g2,u*2,none⟩=some (.string on) from fun W hw=>⟨(za KC W (za BX W hw)).2.2.1,zab (zac hw (za XA)) 2 _ rfl,za OC W (za BX W hw)⟩);have sm:=zrh on ql;generalize (ps.take u).any (fun q=>decide (qnm q=ql))=th at *;cases th with
       |true=>as_aux_lemma =>
        go_wp2_with fail
        refine wp_region_held_drew (S:=fun W=>W.cell? ⟨r,2,none⟩=some (.slice (some ⟨g2,0,none⟩) ps.length pc)∧W.cell? ⟨D,2,none⟩=some (.string ql)∧W.cell? ⟨g2,u*2,none⟩=some (.string on)) (by kernel_rfl) ?_ (fun hHeld=>?_)
        ·try dsimp only
         exact za CX _ (za F)
        refine hT 0 ?_;refine hT 1 ?_;refine hN 2 ?_;refine hN 3 ?_;refine hN 4 ?_;refine hN 5 ?_;refine hN 6 ?_;refine hN 7 ?_;refine hN 8 ?_;refine hN 9 ?_;refine hN 10 ?_;refine hN 11 ?_;refine hN 12 ?_;refine hN 13 ?_;refine hT 14 ?_;refine hT 15 ?_;refine wpAnyH_done (by kernel_rfl) ?_ _
        go_wp2
        exact⟨⟨u+1,by omega,by go_num,by rw[za TK];rfl,F⟩,by simp[intOf];omega⟩
       |false=>as_aux_lemma =>
        generalize decide (on=ql)=bq at *
        go_wp2_with fail
        refine wp_region_held_drew (S:=fun W=>W.cell? ⟨r,2,none⟩=some (.slice (some ⟨g2,0,none⟩) ps.length pc)∧W.cell? ⟨D,2,none⟩=some (.string ql)∧W.cell? ⟨g2,u*2,none⟩=some (.string on)) (by kernel_rfl) ?_ (fun hHeld=>?_)
        ·try dsimp only
         exact za CX _ (za F)
        refine hT 0 ?_;refine hT 1 ?_;refine hT 2 ?_;refine hT 3 ?_;refine hT 4 ?_;refine hT 5 ?_;refine hT 6 ?_;refine hT 7 ?_;refine hT 8 ?_;refine hT 9 ?_;refine hT 10 ?_;refine hT 11 ?_;refine hT 12 ?_;refine hT 13 ?_;refine hT 14 ?_;refine hT 15 ?_;refine wpAnyH_done (by kernel_rfl) ?_ _
        go_wp2
        exact⟨⟨u+1,by omega,by go_num,by rw[za TK];rfl,F⟩,by simp[intOf];omega⟩
      ·as_aux_lemma =>
       have v1:¬ (u:Int)<(ps.length:Int):=by omega
       obtain rfl:u=ps.length:=by omega
       rw[List.take_length] at *;have F:=zaa (za F).drew;have BV:=zaa (za BX _ (za F));have CX:=zaa (show ∀ W:World,Below V.heap.size V W→W.cell? ⟨D,0,none⟩=some (.string qh)∧W.cell? ⟨D,1,none⟩=some (.string qp)∧W.cell? ⟨D,2,none⟩=some (.string ql)∧W.cell? ⟨r,1,none⟩=some (.slice (some ⟨g,0,none⟩) rs.length rc) from fun W hw=>⟨zab (zac hw (za XA)) 0 _ rfl,zab (zac hw (za XA)) 1 _ rfl,zab (zac hw (za XA)) 2 _ rfl,(za KC W (za BX W hw)).2.1⟩);generalize (ps.any (fun q=>decide (qnm q=ql)))=th at *;cases ht:th with
       |false=>as_aux_lemma =>
        subst ht;have bad:okT rpl (zaz ⟨ver,ps,rs,cl⟩) rs (j+1)=false:=by
         rcases za JZ with hz|⟨i,hi⟩
         ·rw[za O1 hz,za PO,Bool.and_false,Bool.and_false]
          all_goals simp
         ·obtain⟨_,e⟩:=za O2 i hi;rw[e,za PO,Bool.and_false,Bool.and_false]
          all_goals simp
        have RB:=zaa (show R=false by rw[za E2,zcp bad];simp);clear bad
        go_wp2_with fail
        refine wp_region_held_drew (S:=fun W=>W.cell? ⟨D,0,none⟩=some (.string qh)∧W.cell? ⟨D,1,none⟩=some (.string qp)∧W.cell? ⟨D,2,none⟩=some (.string ql)∧W.cell? ⟨r,1,none⟩=some (.slice (some ⟨g,0,none⟩) rs.length rc)) (by kernel_rfl) ?_ (fun hHeld=>?_)
        ·try dsimp only
         exact za CX _ (za F)
        refine hT 0 ?_;refine hT 1 ?_;refine hT 2 ?_;refine hN 3 ?_;refine hN 4 ?_;refine zbr 5 (by kernel_rfl) rfl (by rfl) (by assumption) ?_;refine hP ?_;refine hN 6 ?_;refine hT 7 ?_;refine hT 8 ?_;refine hN 9 ?_;refine hN 10 ?_;refine zbr 11 (by kernel_rfl) rfl (by rfl) (by assumption) ?_;refine hP ?_;refine hN 12 ?_;refine hT 13 ?_;refine hT 14 ?_;refine hN 15 ?_;refine hN 16 ?_;refine hN 17 ?_;refine hN 18 ?_;refine hN 19 ?_;refine hN 20 ?_;refine hN 21 ?_;refine hN 22 ?_;refine hN 23 ?_;refine hN 24 ?_;refine hN 25 ?_;refine hN 26 ?_;refine hN 27 ?_;refine zbr 28 (by kernel_rfl) rfl (by rfl) (by assumption) ?_;refine hP ?_;refine hN 29 ?_;refine hN 30 ?_;refine hT 31 ?_;refine wpAnyH_done (by kernel_rfl) ?_ _
        go_wp2
        go_ret
        rw[za RB];exact⟨rfl,za BV⟩
       |true =>
        subst ht;cases hh:zbw qh with
        |false=>as_aux_lemma =>
         have bad:okT rpl (zaz ⟨ver,ps,rs,cl⟩) rs (j+1)=false:=by
          rcases za JZ with hz|⟨i,hi⟩
          ·rw[za O1 hz,za PO,hh]
           all_goals simp
          ·obtain⟨_,e⟩:=za O2 i hi;rw[e,za PO,hh]
           all_goals simp
         have RB:=zaa (show R=false by rw[za E2,zcp bad];simp);clear bad
         go_wp2_with fail
         refine wp_region_held_drew (S:=fun W=>W.cell? ⟨D,0,none⟩=some (.string qh)∧W.cell? ⟨D,1,none⟩=some (.string qp)∧W.cell? ⟨D,2,none⟩=some (.string ql)∧W.cell? ⟨r,1,none⟩=some (.slice (some ⟨g,0,none⟩) rs.length rc)) (by kernel_rfl) ?_ (fun hHeld=>?_)
         ·try dsimp only
          exact za CX _ (za F)
         refine hT 0 ?_;refine hT 1 ?_;refine hT 2 ?_;refine hT 3 ?_;refine hT 4 ?_;refine hO 5 (fun K hK=>?_);go_simp
         first
          |(go_at_call 24
            refine(za8 qh (za NH) _).mono ?_;rintro e U1 ⟨rfl,rfl⟩
            rw[hh])
          |(go_at_call 25
            refine(za1 qp (za NP) _).mono ?_;rintro e U2 ⟨rfl,rfl⟩
            rw[hpp])
          |(go_at_call 125
            refine(zbg ⟨oh,op,ol⟩ ⟨qh,qp,ql⟩ _).mono ?_;rintro e U3 ⟨rfl,u3⟩;rw[hl];have F:=zaa ((za F).trans (u3.mono (za F).size));have BV:=zaa ((za BV).trans (u3.mono (za BV).size))
            clear u3)
         go_wp2_with fail
         refine hK.out _ _ ?_ (fun hHeld=>?_)
         ·try dsimp only
          exact za CX _ (za F)
         clear hK K;refine hP ?_;refine hT 6 ?_;refine hT 7 ?_;refine hT 8 ?_;refine hN 9 ?_;refine hN 10 ?_;refine zbr 11 (by kernel_rfl) rfl (by rfl) (by assumption) ?_;refine hP ?_;refine hN 12 ?_;refine hT 13 ?_;refine hT 14 ?_;refine hN 15 ?_;refine hN 16 ?_;refine hN 17 ?_;refine hN 18 ?_;refine hN 19 ?_;refine hN 20 ?_;refine hN 21 ?_;refine hN 22 ?_;refine hN 23 ?_;refine hN 24 ?_;refine hN 25 ?_;refine hN 26 ?_;refine hN 27 ?_;refine zbr 28 (by kernel_rfl) rfl (by rfl) (by assumption) ?_;refine hP ?_;refine hN 29 ?_;refine hN 30 ?_;refine hT 31 ?_;refine wpAnyH_done (by kernel_rfl) ?_ _
         go_wp2
         go_ret
         rw[za RB];exact⟨rfl,za BV⟩
        |true =>
         cases hpp:zc5 qp with
         |false=>as_aux_lemma =>
          have bad:okT rpl (zaz ⟨ver,ps,rs,cl⟩) rs (j+1)=false:=by
           rcases za JZ with hz|⟨i,hi⟩
           ·rw[za O1 hz,za PO,hpp]
            all_goals simp
           ·obtain⟨_,e⟩:=za O2 i hi;rw[e,za PO,hpp]
            all_goals simp
          have RB:=zaa (show R=false by rw[za E2,zcp bad];simp);clear bad
          go_wp2_with fail
          refine wp_region_held_drew (S:=fun W=>W.cell? ⟨D,0,none⟩=some (.string qh)∧W.cell? ⟨D,1,none⟩=some (.string qp)∧W.cell? ⟨D,2,none⟩=some (.string ql)∧W.cell? ⟨r,1,none⟩=some (.slice (some ⟨g,0,none⟩) rs.length rc)) (by kernel_rfl) ?_ (fun hHeld=>?_)
          ·try dsimp only
           exact za CX _ (za F)
          refine hT 0 ?_;refine hT 1 ?_;refine hT 2 ?_;refine hT 3 ?_;refine hT 4 ?_;refine hO 5 (fun K hK=>?_);go_simp
          first
           |(go_at_call 24
             refine(za8 qh (za NH) _).mono ?_;rintro e U1 ⟨rfl,rfl⟩
             rw[hh])
           |(go_at_call 25
             refine(za1 qp (za NP) _).mono ?_;rintro e U2 ⟨rfl,rfl⟩
             rw[hpp])
           |(go_at_call 125
             refine(zbg ⟨oh,op,ol⟩ ⟨qh,qp,ql⟩ _).mono ?_;rintro e U3 ⟨rfl,u3⟩;rw[hl];have F:=zaa ((za F).trans (u3.mono (za F).size));have BV:=zaa ((za BV).trans (u3.mono (za BV).size))
             clear u3)
          go_wp2_with fail
          refine hK.out _ _ ?_ (fun hHeld=>?_)
          ·try dsimp only
           exact za CX _ (za F)
          clear hK K;refine hP ?_;refine hT 6 ?_;refine hT 7 ?_;refine hT 8 ?_;refine hT 9 ?_;refine hT 10 ?_;refine hO 11 (fun K hK=>?_);go_simp
          first
           |(go_at_call 24
             refine(za8 qh (za NH) _).mono ?_;rintro e U1 ⟨rfl,rfl⟩
             rw[hh])
           |(go_at_call 25
             refine(za1 qp (za NP) _).mono ?_;rintro e U2 ⟨rfl,rfl⟩
             rw[hpp])
           |(go_at_call 125
             refine(zbg ⟨oh,op,ol⟩ ⟨qh,qp,ql⟩ _).mono ?_;rintro e U3 ⟨rfl,u3⟩;rw[hl];have F:=zaa ((za F).trans (u3.mono (za F).size));have BV:=zaa ((za BV).trans (u3.mono (za BV).size))
             clear u3)
          go_wp2_with fail
          refine hK.out _ _ ?_ (fun hHeld=>?_)
          ·try dsimp only
           exact za CX _ (za F)
          clear hK K;refine hP ?_;refine hT 12 ?_;refine hT 13 ?_;refine hT 14 ?_;refine hN 15 ?_;refine hN 16 ?_;refine hN 17 ?_;refine hN 18 ?_;refine hN 19 ?_;refine hN 20 ?_;refine hN 21 ?_;refine hN 22 ?_;refine hN 23 ?_;refine hN 24 ?_;refine hN 25 ?_;refine hN 26 ?_;refine hN 27 ?_;refine zbr 28 (by kernel_rfl) rfl (by rfl) (by assumption) ?_;refine hP ?_;refine hN 29 ?_;refine hN 30 ?_;refine hT 31 ?_;refine wpAnyH_done (by kernel_rfl) ?_ _
          go_wp2
          go_ret
          rw[za RB];exact⟨rfl,za BV⟩
         |true =>
          by_cases hz:j=0
          ·as_aux_lemma =>
           have g0:¬ (0:Int)<(j:Int):=by omega
           have good:=zaa (show okT rpl (zaz ⟨ver,ps,rs,cl⟩) rs (j+1)=true by rw[za O1 hz,za PO,hh,hpp];rfl)
           go_wp2_with fail
           refine wp_region_held_drew (S:=fun W=>W.cell? ⟨D,0,none⟩=some (.string qh)∧W.cell? ⟨D,1,none⟩=some (.string qp)∧W.cell? ⟨D,2,none⟩=some (.string ql)∧W.cell? ⟨r,1,none⟩=some (.slice (some ⟨g,0,none⟩) rs.length rc)) (by kernel_rfl) ?_ (fun hHeld=>?_)
           ·try dsimp only
            exact za CX _ (za F)
           refine hT 0 ?_;refine hT 1 ?_;refine hT 2 ?_;refine hT 3 ?_;refine hT 4 ?_;refine hO 5 (fun K hK=>?_);go_simp
           first
            |(go_at_call 24
              refine(za8 qh (za NH) _).mono ?_;rintro e U1 ⟨rfl,rfl⟩
              rw[hh])
            |(go_at_call 25
              refine(za1 qp (za NP) _).mono ?_;rintro e U2 ⟨rfl,rfl⟩
              rw[hpp])
            |(go_at_call 125
              refine(zbg ⟨oh,op,ol⟩ ⟨qh,qp,ql⟩ _).mono ?_;rintro e U3 ⟨rfl,u3⟩;rw[hl];have F:=zaa ((za F).trans (u3.mono (za F).size));have BV:=zaa ((za BV).trans (u3.mono (za BV).size))
              clear u3)
           go_wp2_with fail
           refine hK.out _ _ ?_ (fun hHeld=>?_)
           ·try dsimp only
            exact za CX _ (za F)
           clear hK K;refine hP ?_;refine hT 6 ?_;refine hT 7 ?_;refine hT 8 ?_;refine hT 9 ?_;refine hT 10 ?_;refine hO 11 (fun K hK=>?_);go_simp
           first
            |(go_at_call 24
              refine(za8 qh (za NH) _).mono ?_;rintro e U1 ⟨rfl,rfl⟩
              rw[hh])
            |(go_at_call 25
              refine(za1 qp (za NP) _).mono ?_;rintro e U2 ⟨rfl,rfl⟩
              rw[hpp])
            |(go_at_call 125
              refine(zbg ⟨oh,op,ol⟩ ⟨qh,qp,ql⟩ _).mono ?_;rintro e U3 ⟨rfl,u3⟩;rw[hl];have F:=zaa ((za F).trans (u3.mono (za F).size));have BV:=zaa ((za BV).trans (u3.mono (za BV).size))
              clear u3)
           go_wp2_with fail
           refine hK.out _ _ ?_ (fun hHeld=>?_)
           ·try dsimp only
            exact za CX _ (za F)
           clear hK K;refine hP ?_;refine hT 12 ?_;refine hT 13 ?_;refine hT 14 ?_;refine hT 15 ?_;refine hT 16 ?_;refine hT 17 ?_;refine hN 18 ?_;refine hN 19 ?_;refine hN 20 ?_;refine hN 21 ?_;refine hN 22 ?_;refine hN 23 ?_;refine hN 24 ?_;refine hN 25 ?_;refine hN 26 ?_;refine hN 27 ?_;refine zbr 28 (by kernel_rfl) rfl (by rfl) (by assumption) ?_;refine hP ?_;refine hN 29 ?_;refine hT 30 ?_;refine hT 31 ?_;refine wpAnyH_done (by kernel_rfl) ?_ _
           go_wp2
           exact⟨⟨j+1,by omega,by go_num,good,BV⟩,by simp[intOf];omega⟩
          ·obtain⟨i,hi⟩:=(za JZ).resolve_left hz;have g0:(0:Int)<(j:Int):=by omega
           obtain⟨hi',e⟩:=za O2 i hi;have E:=zaa e
           have OC:=zaa (show ∀ W:World,Below w.heap.size w W→W.cell? ⟨g,i*3,none⟩=some (.string (rs[i]'hi').h)∧W.cell? ⟨g,i*3+1,none⟩=some (.string (rs[i]'hi').p)∧W.cell? ⟨g,i*3+2,none⟩=some (.string (rs[i]'hi').l) from fun W hw=>by
            obtain⟨g2,h1,h2⟩:=za LR W hw i hi';have:g2=g:=by simpa using h1.symm
            subst this
            exact h2)
           clear e;generalize rs[i]'hi'=oq at *;obtain⟨oh,op,ol⟩:=oq;dsimp only[rpl] at OC E;have CY:=zaa (show ∀ W:World,Below V.heap.size V W→W.cell? ⟨D,0,none⟩=some (.string qh)∧W.cell? ⟨D,1,none⟩=some (.string qp)∧W.cell? ⟨D,2,none⟩=some (.string ql)∧W.cell? ⟨r,1,none⟩=some (.slice (some ⟨g,0,none⟩) rs.length rc)∧W.cell? ⟨g,i*3,none⟩=some (.string oh)∧W.cell? ⟨g,i*3+1,none⟩=some (.string op)∧W.cell? ⟨g,i*3+2,none⟩=some (.string ol) from fun W hw=>⟨(za CX W hw).1,(za CX W hw).2.1,(za CX W hw).2.2.1,(za CX W hw).2.2.2,za OC W (za BX W hw)⟩);have hw:IntKind.i64.wrap ((j:Int) - 1)=(i:Int):=by rw[IntKind.wrap_i64];omega
           have hw2:IntKind.i64.wrap (i:Int)=(i:Int):=by rw[IntKind.wrap_i64];omega
           have i0:(0:Int)≤(i:Int):=by omega
           have i1:(i:Int)<(rs.length:Int):=by omega
           cases hl:ltR ⟨oh,op,ol⟩ ⟨qh,qp,ql⟩ with
           |true=>as_aux_lemma =>
            have good:=zaa (show okT rpl (zaz ⟨ver,ps,rs,cl⟩) rs (j+1)=true by rw[za E,za OK,za PO,hh,hpp];have h8:decide (Kord.lt (oh,op) (qh,qp))=true:=hl;simp[of_decide_eq_true h8])
            go_wp2_with fail
            refine wp_region_held_drew (S:=fun W=>W.cell? ⟨D,0,none⟩=some (.string qh)∧W.cell? ⟨D,1,none⟩=some (.string qp)∧W.cell? ⟨D,2,none⟩=some (.string ql)∧W.cell? ⟨r,1,none⟩=some (.slice (some ⟨g,0,none⟩) rs.length rc)∧W.cell? ⟨g,i*3,none⟩=some (.string oh)∧W.cell? ⟨g,i*3+1,none⟩=some (.string op)∧W.cell? ⟨g,i*3+2,none⟩=some (.string ol)) (by kernel_rfl) ?_ (fun hHeld=>?_)
            ·try dsimp only
             exact za CY _ (za F)
            refine hT 0 ?_;refine hT 1 ?_;refine hT 2 ?_;refine hT 3 ?_;refine hT 4 ?_;refine hO 5 (fun K hK=>?_);go_simp
            first
             |(go_at_call 24
               refine(za8 qh (za NH) _).mono ?_;rintro e U1 ⟨rfl,rfl⟩
               rw[hh])
             |(go_at_call 25
               refine(za1 qp (za NP) _).mono ?_;rintro e U2 ⟨rfl,rfl⟩
               rw[hpp])
             |(go_at_call 125
               refine(zbg ⟨oh,op,ol⟩ ⟨qh,qp,ql⟩ _).mono ?_;rintro e U3 ⟨rfl,u3⟩;rw[hl];have F:=zaa ((za F).trans (u3.mono (za F).size));have BV:=zaa ((za BV).trans (u3.mono (za BV).size))
               clear u3)
            go_wp2_with fail
            refine hK.out _ _ ?_ (fun hHeld=>?_)
            ·try dsimp only
             exact za CY _ (za F)
            clear hK K;refine hP ?_;refine hT 6 ?_;refine hT 7 ?_;refine hT 8 ?_;refine hT 9 ?_;refine hT 10 ?_;refine hO 11 (fun K hK=>?_);go_simp
            first
             |(go_at_call 24
               refine(za8 qh (za NH) _).mono ?_;rintro e U1 ⟨rfl,rfl⟩
               rw[hh])
             |(go_at_call 25
               refine(za1 qp (za NP) _).mono ?_;rintro e U2 ⟨rfl,rfl⟩
               rw[hpp])
             |(go_at_call 125
               refine(zbg ⟨oh,op,ol⟩ ⟨qh,qp,ql⟩ _).mono ?_;rintro e U3 ⟨rfl,u3⟩;rw[hl];have F:=zaa ((za F).trans (u3.mono (za F).size));have BV:=zaa ((za BV).trans (u3.mono (za BV).size))
               clear u3)
            go_wp2_with fail
            refine hK.out _ _ ?_ (fun hHeld=>?_)
            ·try dsimp only
             exact za CY _ (za F)
            clear hK K;refine hP ?_;refine hT 12 ?_;refine hT 13 ?_;refine hT 14 ?_;refine hT 15 ?_;refine hT 16 ?_;refine hT 17 ?_;refine hT 18 ?_;refine hT 19 ?_;refine hT 20 ?_;refine hT 21 ?_;refine hT 22 ?_;refine hT 23 ?_;refine hT 24 ?_;refine hT 25 ?_;refine hT 26 ?_;refine hT 27 ?_;refine hO 28 (fun K hK=>?_);go_simp
            first
             |(go_at_call 24
               refine(za8 qh (za NH) _).mono ?_;rintro e U1 ⟨rfl,rfl⟩
               rw[hh])
             |(go_at_call 25
               refine(za1 qp (za NP) _).mono ?_;rintro e U2 ⟨rfl,rfl⟩
               rw[hpp])
             |(go_at_call 125
               refine(zbg ⟨oh,op,ol⟩ ⟨qh,qp,ql⟩ _).mono ?_;rintro e U3 ⟨rfl,u3⟩;rw[hl];have F:=zaa ((za F).trans (u3.mono (za F).size));have BV:=zaa ((za BV).trans (u3.mono (za BV).size))
               clear u3)
            go_wp2_with fail
            refine hK.out _ _ ?_ (fun hHeld=>?_)
            ·try dsimp only
             exact za CY _ (za F)
            clear hK K;refine hP ?_;refine hT 29 ?_;refine hT 30 ?_;refine hT 31 ?_;refine wpAnyH_done (by kernel_rfl) ?_ _
            go_wp2
            exact⟨⟨j+1,by omega,by go_num,good,BV⟩,by simp[intOf];omega⟩
           |false=>as_aux_lemma =>
            have bad:okT rpl (zaz ⟨ver,ps,rs,cl⟩) rs (j+1)=false:=by
             have h8:decide (Kord.lt (oh,op) (qh,qp))=false:=hl;rw[za E];simp[of_decide_eq_false h8]
            have RB:=zaa (show R=false by rw[za E2,zcp bad];simp);clear bad
            go_wp2_with fail
            refine wp_region_held_drew (S:=fun W=>W.cell? ⟨D,0,none⟩=some (.string qh)∧W.cell? ⟨D,1,none⟩=some (.string qp)∧W.cell? ⟨D,2,none⟩=some (.string ql)∧W.cell? ⟨r,1,none⟩=some (.slice (some ⟨g,0,none⟩) rs.length rc)∧W.cell? ⟨g,i*3,none⟩=some (.string oh)∧W.cell? ⟨g,i*3+1,none⟩=some (.string op)∧W.cell? ⟨g,i*3+2,none⟩=some (.string ol)) (by kernel_rfl) ?_ (fun hHeld=>?_)
            ·try dsimp only
             exact za CY _ (za F)
            refine hT 0 ?_;refine hT 1 ?_;refine hT 2 ?_;refine hT 3 ?_;refine hT 4 ?_;refine hO 5 (fun K hK=>?_);go_simp
            first
             |(go_at_call 24
               refine(za8 qh (za NH) _).mono ?_;rintro e U1 ⟨rfl,rfl⟩
               rw[hh])
             |(go_at_call 25
               refine(za1 qp (za NP) _).mono ?_;rintro e U2 ⟨rfl,rfl⟩
               rw[hpp])
             |(go_at_call 125
               refine(zbg ⟨oh,op,ol⟩ ⟨qh,qp,ql⟩ _).mono ?_;rintro e U3 ⟨rfl,u3⟩;rw[hl];have F:=zaa ((za F).trans (u3.mono (za F).size));have BV:=zaa ((za BV).trans (u3.mono (za BV).size))
               clear u3)
            go_wp2_with fail
            refine hK.out _ _ ?_ (fun hHeld=>?_)
            ·try dsimp only
             exact za CY _ (za F)
            clear hK K;refine hP ?_;refine hT 6 ?_;refine hT 7 ?_;refine hT 8 ?_;refine hT 9 ?_;refine hT 10 ?_;refine hO 11 (fun K hK=>?_);go_simp
            first
             |(go_at_call 24
               refine(za8 qh (za NH) _).mono ?_;rintro e U1 ⟨rfl,rfl⟩
               rw[hh])
             |(go_at_call 25
               refine(za1 qp (za NP) _).mono ?_;rintro e U2 ⟨rfl,rfl⟩
               rw[hpp])
             |(go_at_call 125
               refine(zbg ⟨oh,op,ol⟩ ⟨qh,qp,ql⟩ _).mono ?_;rintro e U3 ⟨rfl,u3⟩;rw[hl];have F:=zaa ((za F).trans (u3.mono (za F).size));have BV:=zaa ((za BV).trans (u3.mono (za BV).size))
               clear u3)
            go_wp2_with fail
            refine hK.out _ _ ?_ (fun hHeld=>?_)
            ·try dsimp only
             exact za CY _ (za F)
            clear hK K;refine hP ?_;refine hT 12 ?_;refine hT 13 ?_;refine hT 14 ?_;refine hT 15 ?_;refine hT 16 ?_;refine hT 17 ?_;refine hT 18 ?_;refine hT 19 ?_;refine hT 20 ?_;refine hT 21 ?_;refine hT 22 ?_;refine hT 23 ?_;refine hT 24 ?_;refine hT 25 ?_;refine hT 26 ?_;refine hT 27 ?_;refine hO 28 (fun K hK=>?_);go_simp
            first
             |(go_at_call 24
               refine(za8 qh (za NH) _).mono ?_;rintro e U1 ⟨rfl,rfl⟩
               rw[hh])
             |(go_at_call 25
               refine(za1 qp (za NP) _).mono ?_;rintro e U2 ⟨rfl,rfl⟩
               rw[hpp])
             |(go_at_call 125
               refine(zbg ⟨oh,op,ol⟩ ⟨qh,qp,ql⟩ _).mono ?_;rintro e U3 ⟨rfl,u3⟩;rw[hl];have F:=zaa ((za F).trans (u3.mono (za F).size));have BV:=zaa ((za BV).trans (u3.mono (za BV).size))
               clear u3)
            go_wp2_with fail
            refine hK.out _ _ ?_ (fun hHeld=>?_)
            ·try dsimp only
             exact za CY _ (za F)
            clear hK K;refine hP ?_;refine hT 29 ?_;refine hT 30 ?_;refine hT 31 ?_;refine wpAnyH_done (by kernel_rfl) ?_ _
            go_wp2
            go_ret
            rw[za RB];exact⟨rfl,za BV⟩
    ·as_aux_lemma =>
     obtain rfl:j=rs.length:=by omega
     rw[znc] at OK;have E3:=zaa (show R=((zat (cl.map lid)&&cl.all (zb3 ver))&&decide ((CB.length:Int)≤12000)) by rw[za E2,za OK];rfl);have y1:¬ (rs.length:Int)<(rs.length:Int):=by omega
     have e3:=(za KC wr (za BW)).2.2.2;clear E2 OK
     go_wp2_with fail
     clear c2 y1 e3;go_loopw [9,11,12] (fun i _ _ wr=>∃ j:Nat,j≤cl.length∧i=.int .i64 (j:Int)∧Hid (okT lid (zb3 ver) cl j=true)∧Hid (Below w.heap.size w wr)) (fun i _ _ _=>cl.length - (intOf i).toNat)
     case atStart=>exact⟨0,by omega,rfl,zaa zkh,BW⟩
     case round =>
      clear BW;obtain⟨j,hj,rfl,OK,BW⟩:=hrel;have c2:=(za KC wr (za BW)).2.2.2;by_cases hjm:j<cl.length
      ·as_aux_lemma =>
       have y0:(0:Int)≤(j:Int):=by omega
       have y1:(j:Int)<(cl.length:Int):=by omega
       obtain⟨g,rfl,q0,q1,q2,q3⟩:=za LC wr (za BW) j hjm;have O1:=zaa (fun (hz:j=0)=>show okT lid (zb3 ver) cl (j+1)=zb3 ver (cl[j]'hjm) by subst hz;exact znd hjm);have O2:=zaa (fun (i:Nat) (hi:j=i+1)=>show ∃ (hi':i<cl.length),okT lid (zb3 ver) cl (j+1)=(okT lid (zb3 ver) cl j&&(zb3 ver (cl[j]'hjm)&&decide (Kord.lt (lid (cl[i]'hi')) (lid (cl[j]'hjm))))) by subst hi;exact⟨by omega,zkg i hjm⟩);generalize cl[j]=q at *;obtain⟨ci,cs,ce,cv⟩:=q;dsimp only at q0 q1 q2 q3;have bA:=zaa (show Below wr.heap.size wr (wr.alloc (.cells #[.int .i64 ci,.int .i64 cs,.int .i64 ce,.int .i64 cv] 123)) from(Below.refl _ _).alloc (Nat.le_refl _) _);have XA:=zaa (zad wr (.cells #[.int .i64 ci,.int .i64 cs,.int .i64 ce,.int .i64 cv] 123));have PO:=zaa (show zb3 ver ⟨ci,cs,ce,cv⟩=(decide (1≤ci∧ci≤32)&&(decide (0<cs)&&(zha ce&&decide (cv≤ver)))) from rfl);have JZ:=zaa (show j=0∨∃ i,j=i+1 by cases j with|zero=>exact .inl rfl|succ i=>exact .inr ⟨i,rfl⟩);have BA:=zaa ((za BW).trans ((za bA).mono (za BW).size));have a2:=zab (za XA) 2 _ rfl
       go_upto_region 23 with fail
       clear q0 q1 q2 q3 c2 a2;generalize hV:wr.alloc (.cells #[.int .i64 ci,.int .i64 cs,.int .i64 ce,.int .i64 cv] 123)=V at *;clear hV;generalize hD:wr.heap.size=D at *;have F:=zaa (show Below V.heap.size V V.drew from(Below.refl _ _).drew);have BX:=zaa (fun (W:World) (hw:Below V.heap.size V W)=>show Below w.heap.size w W from(za BA).trans (hw.mono (za BA).size));have BV:=zaa (za BX _ (za F));have CX:=zaa (show ∀ W:World,Below V.heap.size V W→W.cell? ⟨D,0,none⟩=some (.int .i64 ci)∧W.cell? ⟨D,1,none⟩=some (.int .i64 cs)∧W.cell? ⟨D,2,none⟩=some (.int .i64 ce)∧W.cell? ⟨D,3,none⟩=some (.int .i64 cv)∧W.cell? ⟨r,0,none⟩=some (.int .i64 ver)∧W.cell? ⟨r,3,none⟩=some (.slice (some ⟨g,0,none⟩) cl.length lc) from fun W hw=>⟨zab (zac hw (za XA)) 0 _ rfl,zab (zac hw (za XA)) 1 _ rfl,zab (zac hw (za XA)) 2 _ rfl,zab (zac hw (za XA)) 3 _ rfl,(za KC W (za BX W hw)).1,(za KC W (za BX W hw)).2.2.2⟩)
       go_cut [12] from 135 to 217 (fun v wc=>v=.bool (zha ce)∧wc=V)
       case first =>
        by_cases h0:ce=0
        ·subst h0
         go_wp2_with fail
         go_meet
         case rel=>exact⟨rfl,rfl⟩
        have b0:(ce==0)=false:=by simpa using h0
        by_cases h6:ce=6
        ·subst h6
         go_wp2_with fail
         go_meet
         case rel=>exact⟨rfl,rfl⟩
        have b6:(ce==6)=false:=by simpa using h6
        by_cases h8:ce=8
        ·subst h8
         go_wp2_with fail
         go_meet
         case rel=>exact⟨rfl,rfl⟩
        have b8:(ce==8)=false:=by simpa using h8
        by_cases h12:ce=12
        ·subst h12
         go_wp2_with fail
         go_meet
         case rel=>exact⟨rfl,rfl⟩
        have b12:(ce==12)=false:=by simpa using h12
        by_cases h13:ce=13
        ·subst h13
         go_wp2_with fail
         go_meet
         case rel=>exact⟨rfl,rfl⟩
        have b13:(ce==13)=false:=by simpa using h13
        have FE:zha ce=false:=by simp[zha,h0,h6,h8,h12,h13]
        go_wp2_with fail
        go_meet
        case rel=>exact⟨by rw[FE],rfl⟩
       case rest =>
        obtain⟨rfl,rfl⟩:=hcut;by_cases h1:ci<1
        ·as_aux_lemma =>
         have g1:decide (1≤ci∧ci≤32)=false:=decide_eq_false (by omega);have bad:okT lid (zb3 ver) cl (j+1)=false:=by
          rcases za JZ with hz|⟨i,hi⟩
          ·rw[za O1 hz,za PO,g1]
           all_goals simp
          ·obtain⟨_,e⟩:=za O2 i hi;rw[e,za PO,g1]
           all_goals simp
         have RB:=zaa (show R=false by rw[za E3,zcp bad];simp);clear bad;obtain⟨x0,x1,x2,x3,x4,x5⟩:=za CX _ (Below.refl _ _)
         go_wp2_with fail
         go_quiet (fail)
         have BV:=zaa (za BX _ (_root_.Go.below_drewN (Below.refl wc.heap.size wc) nq));clear x0 x1 x2 x3 x4 x5;generalize wc.drewN nq=W9 at *
         go_wp2
         go_ret
         rw[za RB];exact⟨rfl,za BV⟩
        ·have k1:decide (ci<1)=false:=decide_eq_false h1;by_cases h2:32<ci
         ·as_aux_lemma =>
          have g1:decide (1≤ci∧ci≤32)=false:=decide_eq_false (by omega);have bad:okT lid (zb3 ver) cl (j+1)=false:=by
           rcases za JZ with hz|⟨i,hi⟩
           ·rw[za O1 hz,za PO,g1]
            all_goals simp
           ·obtain⟨_,e⟩:=za O2 i hi;rw[e,za PO,g1]
            all_goals simp
          have RB:=zaa (show R=false by rw[za E3,zcp bad];simp);clear bad;obtain⟨x0,x1,x2,x3,x4,x5⟩:=za CX _ (Below.refl _ _)
          go_wp2_with fail
          go_quiet (fail)
          have BV:=zaa (za BX _ (_root_.Go.below_drewN (Below.refl wc.heap.size wc) nq));clear x0 x1 x2 x3 x4 x5;generalize wc.drewN nq=W9 at *
          go_wp2
          go_ret
          rw[za RB];exact⟨rfl,za BV⟩
         ·have g1:decide (1≤ci∧ci≤32)=true:=decide_eq_true (by omega);have k2:decide (32<ci)=false:=decide_eq_false h2;by_cases h3:cs<1
          ·as_aux_lemma =>
           have g2:decide (0<cs)=false:=decide_eq_false (by omega);have bad:okT lid (zb3 ver) cl (j+1)=false:=by
            rcases za JZ with hz|⟨i,hi⟩
            ·rw[za O1 hz,za PO,g2,Bool.false_and,Bool.and_false]
             all_goals simp
            ·obtain⟨_,e⟩:=za O2 i hi;rw[e,za PO,g2,Bool.false_and,Bool.and_false]
             all_goals simp
           have RB:=zaa (show R=false by rw[za E3,zcp bad];simp);clear bad;obtain⟨x0,x1,x2,x3,x4,x5⟩:=za CX _ (Below.refl _ _)
           go_wp2_with fail
           go_quiet (fail)
           have BV:=zaa (za BX _ (_root_.Go.below_drewN (Below.refl wc.heap.size wc) nq));clear x0 x1 x2 x3 x4 x5;generalize wc.drewN nq=W9 at *
           go_wp2
           go_ret
           rw[za RB];exact⟨rfl,za BV⟩
          ·have g2:decide (0<cs)=true:=decide_eq_true (by omega);have k3:decide (cs<1)=false:=decide_eq_false h3;cases ht:zha ce with
           |false=>as_aux_lemma =>
            have bad:okT lid (zb3 ver) cl (j+1)=false:=by
             rcases za JZ with hz|⟨i,hi⟩
             ·rw[za O1 hz,za PO,ht,Bool.false_and,Bool.and_false,Bool.and_false]
              all_goals simp
             ·obtain⟨_,e⟩:=za O2 i hi;rw[e,za PO,ht,Bool.false_and,Bool.and_false,Bool.and_false]
              all_goals simp
            have RB:=zaa (show R=false by rw[za E3,zcp bad];simp);clear bad;obtain⟨x0,x1,x2,x3,x4,x5⟩:=za CX _ (Below.refl _ _)
            go_wp2_with fail
            go_quiet (fail)
            have BV:=zaa (za BX _ (_root_.Go.below_drewN (Below.refl wc.heap.size wc) nq));clear x0 x1 x2 x3 x4 x5;generalize wc.drewN nq=W9 at *
            go_wp2
            go_ret
            rw[za RB];exact⟨rfl,za BV⟩
           |true =>
            by_cases h5:ver<cv
            ·as_aux_lemma =>
             have g5:decide (cv≤ver)=false:=decide_eq_false (by omega);have bad:okT lid (zb3 ver) cl (j+1)=false:=by
              rcases za JZ with hz|⟨i,hi⟩
              ·rw[za O1 hz,za PO,g5,Bool.and_false,Bool.and_false,Bool.and_false]
               all_goals simp
              ·obtain⟨_,e⟩:=za O2 i hi;rw[e,za PO,g5,Bool.and_false,Bool.and_false,Bool.and_false]
               all_goals simp
             have RB:=zaa (show R=false by rw[za E3,zcp bad];simp);clear bad;obtain⟨x0,x1,x2,x3,x4,x5⟩:=za CX _ (Below.refl _ _)
             go_wp2_with fail
             go_quiet (fail)
             have BV:=zaa (za BX _ (_root_.Go.below_drewN (Below.refl wc.heap.size wc) nq));clear x0 x1 x2 x3 x4 x5;generalize wc.drewN nq=W9 at *
             go_wp2
             go_ret
             rw[za RB];exact⟨rfl,za BV⟩
            ·have g5:decide (cv≤ver)=true:=decide_eq_true (by omega);have k5:decide (ver<cv)=false:=decide_eq_false h5;have hok:=zaa (show zb3 ver ⟨ci,cs,ce,cv⟩=true by rw[za PO,g1,g2,ht,g5];rfl);by_cases hz:j=0
             ·as_aux_lemma =>
              have g0:¬ (0:Int)<(j:Int):=by omega
              have k6:decide ((0:Int)<(j:Int))=false:=decide_eq_false g0;have good:=zaa (show okT lid (zb3 ver) cl (j+1)=true by rw[za O1 hz];exact za hok);obtain⟨x0,x1,x2,x3,x4,x5⟩:=za CX _ (Below.refl _ _)
              go_wp2_with fail
              go_quiet (fail)
              have BV:=zaa (za BX _ (_root_.Go.below_drewN (Below.refl wc.heap.size wc) nq));clear x0 x1 x2 x3 x4 x5;generalize wc.drewN nq=W9 at *
              go_wp2
              exact⟨⟨j+1,by omega,by go_num,good,BV⟩,by simp[intOf];omega⟩
             ·obtain⟨i,hi⟩:=(za JZ).resolve_left hz;have g0:(0:Int)<(j:Int):=by omega
              obtain⟨hi',e⟩:=za O2 i hi;have E:=zaa e
              have OC:=zaa (show ∀ W:World,Below w.heap.size w W→W.cell? ⟨g,i*4,none⟩=some (.int .i64 (cl[i]'hi').id) from fun W hw=>by
               obtain⟨g2,h1,h2,_⟩:=za LC W hw i hi';have:g2=g:=by simpa using h1.symm
               subst this
               exact h2)
              clear e;generalize cl[i]'hi'=oq at *;obtain⟨oi,os,oe,ov⟩:=oq;dsimp only[lid] at OC E;have CY:=zaa (show ∀ W:World,Below wc.heap.size wc W→(W.cell? ⟨D,0,none⟩=some (.int .i64 ci)∧W.cell? ⟨D,1,none⟩=some (.int .i64 cs)∧W.cell? ⟨D,2,none⟩=some (.int .i64 ce)∧W.cell? ⟨D,3,none⟩=some (.int .i64 cv)∧W.cell? ⟨r,0,none⟩=some (.int .i64 ver)∧W.cell? ⟨r,3,none⟩=some (.slice (some ⟨g,0,none⟩) cl.length lc))∧W.cell? ⟨g,i*4,none⟩=some (.int .i64 oi) from fun W hw=>⟨za CX W hw,za OC W (za BX W hw)⟩);have hw:IntKind.i64.wrap ((j:Int) - 1)=(i:Int):=by rw[IntKind.wrap_i64];omega
              have hw2:IntKind.i64.wrap (i:Int)=(i:Int):=by rw[IntKind.wrap_i64];omega
              have i0:(0:Int)≤(i:Int):=by omega
              have i1:(i:Int)<(cl.length:Int):=by omega
              by_cases hl:oi<ci
              ·as_aux_lemma =>
               have hl2:¬ ci≤oi:=by omega
               have k7:decide (ci≤oi)=false:=decide_eq_false hl2;have good:=zaa (show okT lid (zb3 ver) cl (j+1)=true by rw[za E,za OK,za hok];have h8:Kord.lt oi ci:=hl;simp[h8]);clear hl;obtain⟨⟨x0,x1,x2,x3,x4,x5⟩,x6⟩:=za CY _ (Below.refl _ _)
               go_wp2_with fail
               go_quiet (fail)
               have BV:=zaa (za BX _ (_root_.Go.below_drewN (Below.refl wc.heap.size wc) nq));clear x0 x1 x2 x3 x4 x5 x6;generalize wc.drewN nq=W9 at *
               go_wp2
               exact⟨⟨j+1,by omega,by go_num,good,BV⟩,by simp[intOf];omega⟩
              ·as_aux_lemma =>
               have hl2:ci≤oi:=by omega
               have bad:okT lid (zb3 ver) cl (j+1)=false:=by
                rw[za E];have h8:¬ Kord.lt oi ci:=hl;simp[h8]
               have RB:=zaa (show R=false by rw[za E3,zcp bad];simp);clear bad hl;obtain⟨⟨x0,x1,x2,x3,x4,x5⟩,x6⟩:=za CY _ (Below.refl _ _)
               go_wp2_with fail
               go_quiet (fail)
               have BV:=zaa (za BX _ (_root_.Go.below_drewN (Below.refl wc.heap.size wc) nq));clear x0 x1 x2 x3 x4 x5 x6;generalize wc.drewN nq=W9 at *
               go_wp2
               go_ret
               rw[za RB];exact⟨rfl,za BV⟩
      ·as_aux_lemma =>
       obtain rfl:j=cl.length:=by omega
       rw[znc] at OK;have E4:=zaa (show R=decide ((CB.length:Int)≤12000) by rw[za E3,za OK];rfl);have y1:¬ (cl.length:Int)<(cl.length:Int):=by omega
       have k0:=(za KC wr (za BW)).1;have k1:=(za KC wr (za BW)).2.1;have k2:=(za KC wr (za BW)).2.2.1;have CF:=zaa (za CFG wr (za BW));clear E3 OK CFG
       go_wp2_with fail
       refine(za CF).mono ?_;rintro e U ⟨sp,n',c',rfl,hn',u⟩;have BU:=zaa ((za BW).trans (u.mono (za BW).size));subst hn';clear u k0 k1 k2 c2 CF
       go_wp2
       go_ret
       rw[za E4];exact⟨rfl,za BU⟩
end Go.Proofs.YtjcjleaicjhpeaaGreatDoor
