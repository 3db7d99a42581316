/- Conf: the document's Put. -/
import Derived.Test.YtjcjleaicjhpeaaGreatDoorB29
import Derived.Test.YtjcjleaicjhpeaaGreatDoorB28
import Derived.Test.YtjcjleaicjhpeaaGreatDoorB01
import Derived.Test.YtjcjleaicjhpeaaGreatDoorB22
import Derived.Laws.StructEq
set_option linter.unusedVariables false
set_option maxRecDepth 20000
set_option maxHeartbeats 16000000
namespace Go.Proofs.YtjcjleaicjhpeaaGreatDoor
section
open Go.ChangeShapes Go.WideShapes Go.ChangeAt Go.RowKit
theorem zi7 {w:World} {r:Nat} {k:RfH} {y:Sm} {n:Nat} (t:RtAt w r k y) (hs:Smi n y) (hj:n≤900) (hl:SmL y) (hv:y.ver≤1099511627776) :
  Calls Tryz.prog 34 #[.pointer (some ⟨r,0,none⟩)] w fun e w'=>∃ sp n c,e=.returned (.slice sp n c)∧Hid ((zhj y).length=n)∧OwnB w.heap.size w' sp c (zhj y)∧Below w.heap.size w w':=by
 have hv0:=hl.vr;have hcn:=hs.cn;obtain⟨v,hvv⟩:∃ v:Nat,y.ver=v:=⟨y.ver.toNat,by omega⟩
 have HL:=zaa (show ∀ j,((y.cl.take j).flatMap lsB).length≤24*j from fun j=>zm9 hl.cl hv j);have HV:=zaa hv;have CF:=zaa (t.cf hs hj);have ST:=zaa (hs.ok hj).t;have CL:=zaa (zgq y.cf (hs.ok hj).t);have LV:=zaa (zan v (by omega));have EP:=zaa (show zhj y=zap v++zaq y.cf++zap y.cl.length++y.cl.flatMap lsB by unfold zhj;rw[hvv];simp only[List.append_assoc,Int.toNat_natCast]);have HD:=zaa (show w.heap[r]? = some (.cells #[.int .i64 (v:Int),.slice k.ra y.rs.length k.rc,.slice k.pa y.ps.length k.pc,.slice k.la y.cl.length k.lc] 119 (0,0)) from by have:=t.hd;unfold zib at this;rwa [hvv] at this);have RL:=zaa t.lw;have LI:=zaa hl.cl;obtain⟨ver,ps,rs,cl⟩:=y;obtain⟨ra,rc,pa,pc,la,lc⟩:=k;dsimp only at *;subst hvv;have EC:=zaa (show zb4 (Sm.cf ⟨(v:Int),ps,rs,cl⟩) ⟨ra,rc,pa,pc⟩=.agg #[.int .i64 (v:Int),.slice ra rs.length rc,.slice pa ps.length pc] from by simp[zb4,Sm.cf]);generalize zhj ⟨(v:Int),ps,rs,cl⟩=PS at *;generalize Sm.cf ⟨(v:Int),ps,rs,cl⟩=cf at *;generalize hcl:cl.length=m at *;have HM:=zaa hcl;generalize hrn:rs.length=nr at *;generalize hpn:ps.length=np at *;clear t hs hl hv hcl hrn hpn;have KR:=zaa (show ∀ W:World,Below w.heap.size w W→W.cell? ⟨r,0,none⟩=some (.int .i64 (v:Int))∧W.cell? ⟨r,1,none⟩=some (.slice ra nr rc)∧W.cell? ⟨r,2,none⟩=some (.slice pa np pc)∧W.cell? ⟨r,3,none⟩=some (.slice la m lc) from fun W hb=>⟨zab (zac hb (za HD)) 0 _ rfl,zab (zac hb (za HD)) 1 _ rfl,zab (zac hb (za HD)) 2 _ rfl,zab (zac hb (za HD)) 3 _ rfl⟩)
 have D1:=zaa (show Below w.heap.size w w.drew from(Below.refl _ _).drew);have C1:=zaa (zax w.heap.size (w:=w.drew) (sp:=none) (n0:=0) (c:=0) (l:=[]) rfl (OwnB.ofNil _ _) v (by have:=za HV;omega) (by decide) (za D1).size);unfold zfa at C1;rw[List.nil_append] at C1;have KB:=zaa (za KR _ (za D1));go_enter Tryz.func34,Tryz.ntmps34
 go_wp2_with fail
 refine wp_region_held_drew (S:=fun W=>W.cell? ⟨r,0,none⟩=some (.int .i64 (v:Int))∧W.cell? ⟨r,1,none⟩=some (.slice ra nr rc)∧W.cell? ⟨r,2,none⟩=some (.slice pa np pc)∧W.cell? ⟨r,3,none⟩=some (.slice la m lc)) (by kernel_rfl) ?_ (fun hHeld=>?_)
 ·try dsimp only
  first|exact za K4|exact za K3|exact za K2|exact za KB
 refine hT 0 ?_;refine hT 1 ?_;refine hT 2 ?_;refine hT 3 ?_;refine hT 4 ?_;refine hT 6 ?_;refine hT 7 ?_;refine hT 8 ?_;refine hT 9 ?_;refine hT 11 ?_;refine hT 12 ?_;refine hT 13 ?_;refine hT 14 ?_;refine hT 15 ?_;refine hO 5 (fun K hK=>?_);go_simp
 first
  |(have hV:U2=U2:=rfl
    clear hV;go_at_call 72
    refine(za C3).mono ?_;rintro e U3 ⟨q3,m3,c3,rfl,hn3,ho3,hg3⟩;have HU3:=zaa (zaj (Nat.le_refl _) (za HO2) hg3 (za HU2).size (za HU2));have K4:=zaa (za KR _ (za HU3));have HO3:=zaa ho3
    clear ho3 hg3)
  |(go_at_call 73
    refine(za C2).mono ?_;rintro e U2 ⟨q2,m2,c2,rfl,hn2,ho2,hg2⟩;have HU2:=zaa (zaj (Nat.le_refl _) (za HO1) hg2 (za HU1).size (za HU1));have K3:=zaa (za KR _ (za HU2));have HO2:=zaa ho2;have C3:=zaa (zax w.heap.size (za hn2) (za HO2) m (by omega) (by have h1:=za CL;have h2:=za LV;rw[List.length_append];omega) (za HU2).size);unfold zfa at C3
    clear ho2 hg2)
  |(go_at_call 72
    refine(za C1).mono ?_;rintro e U1 ⟨q1,m1,c1,rfl,hn1,ho1,hg1⟩;have HU1:=zaa (zaj (Nat.le_refl _) (OwnB.ofNil _ _) hg1 (za D1).size (za D1));have K2:=zaa (za KR _ (za HU1));have HO1:=zaa ho1;have C2:=zaa (zcg w.heap.size (za CF) (za ST) (za HU1) (Nat.le_refl _) (za hn1) (za HO1) (by have h2:=za LV;omega) (za HU1).size);rw[za EC] at C2
    clear ho1 hg1)
 go_wp2_with fail
 refine hK.out _ _ ?_ (fun hHeld=>?_)
 ·try dsimp only
  first|exact za K4|exact za K3|exact za K2|exact za KB
 clear hK K;refine hP ?_;refine hO 10 (fun K hK=>?_);go_simp
 first
  |(have hV:U2=U2:=rfl
    clear hV;go_at_call 72
    refine(za C3).mono ?_;rintro e U3 ⟨q3,m3,c3,rfl,hn3,ho3,hg3⟩;have HU3:=zaa (zaj (Nat.le_refl _) (za HO2) hg3 (za HU2).size (za HU2));have K4:=zaa (za KR _ (za HU3));have HO3:=zaa ho3
    clear ho3 hg3)
  |(go_at_call 73
    refine(za C2).mono ?_;rintro e U2 ⟨q2,m2,c2,rfl,hn2,ho2,hg2⟩;have HU2:=zaa (zaj (Nat.le_refl _) (za HO1) hg2 (za HU1).size (za HU1));have K3:=zaa (za KR _ (za HU2));have HO2:=zaa ho2;have C3:=zaa (zax w.heap.size (za hn2) (za HO2) m (by omega) (by have h1:=za CL;have h2:=za LV;rw[List.length_append];omega) (za HU2).size);unfold zfa at C3
    clear ho2 hg2)
  |(go_at_call 72
    refine(za C1).mono ?_;rintro e U1 ⟨q1,m1,c1,rfl,hn1,ho1,hg1⟩;have HU1:=zaa (zaj (Nat.le_refl _) (OwnB.ofNil _ _) hg1 (za D1).size (za D1));have K2:=zaa (za KR _ (za HU1));have HO1:=zaa ho1;have C2:=zaa (zcg w.heap.size (za CF) (za ST) (za HU1) (Nat.le_refl _) (za hn1) (za HO1) (by have h2:=za LV;omega) (za HU1).size);rw[za EC] at C2
    clear ho1 hg1)
 go_wp2_with fail
 refine hK.out _ _ ?_ (fun hHeld=>?_)
 ·try dsimp only
  first|exact za K4|exact za K3|exact za K2|exact za KB
 clear hK K;refine hP ?_;refine hO 16 (fun K hK=>?_);go_simp
 first
  |(have hV:U2=U2:=rfl
    clear hV;go_at_call 72
    refine(za C3).mono ?_;rintro e U3 ⟨q3,m3,c3,rfl,hn3,ho3,hg3⟩;have HU3:=zaa (zaj (Nat.le_refl _) (za HO2) hg3 (za HU2).size (za HU2));have K4:=zaa (za KR _ (za HU3));have HO3:=zaa ho3
    clear ho3 hg3)
  |(go_at_call 73
    refine(za C2).mono ?_;rintro e U2 ⟨q2,m2,c2,rfl,hn2,ho2,hg2⟩;have HU2:=zaa (zaj (Nat.le_refl _) (za HO1) hg2 (za HU1).size (za HU1));have K3:=zaa (za KR _ (za HU2));have HO2:=zaa ho2;have C3:=zaa (zax w.heap.size (za hn2) (za HO2) m (by omega) (by have h1:=za CL;have h2:=za LV;rw[List.length_append];omega) (za HU2).size);unfold zfa at C3
    clear ho2 hg2)
  |(go_at_call 72
    refine(za C1).mono ?_;rintro e U1 ⟨q1,m1,c1,rfl,hn1,ho1,hg1⟩;have HU1:=zaa (zaj (Nat.le_refl _) (OwnB.ofNil _ _) hg1 (za D1).size (za D1));have K2:=zaa (za KR _ (za HU1));have HO1:=zaa ho1;have C2:=zaa (zcg w.heap.size (za CF) (za ST) (za HU1) (Nat.le_refl _) (za hn1) (za HO1) (by have h2:=za LV;omega) (za HU1).size);rw[za EC] at C2
    clear ho1 hg1)
 go_wp2_with fail
 refine hK.out _ _ ?_ (fun hHeld=>?_)
 ·try dsimp only
  first|exact za K4|exact za K3|exact za K2|exact za KB
 clear hK K;refine hP ?_;refine hT 17 ?_;refine wpAnyH_done (by kernel_rfl) ?_ _;clear C1 C2 C3 KB K2 K3 K4 hHeld D1 HO1 HO2 HU1 HU2 hn1 hn2;have LL:=zaa (show(zap v++zaq cf++zap m).length≤110000000012 by have h1:=za LV;have h2:=za CL;have h3:=zan m (by omega);simp only[List.length_append];omega)
 go_wp2_with fail
 go_loopw [3,4] (fun b i wr=>∃ (j:Nat) (s:Option Addr) (n' c':Nat),j≤m∧b=.slice s n' c'∧i=.int .i64 (j:Int)∧Hid ((zap v++zaq cf++zap m++(cl.take j).flatMap lsB).length=n')∧Hid (OwnB w.heap.size wr s c' (zap v++zaq cf++zap m++(cl.take j).flatMap lsB))∧Hid (Below w.heap.size w wr)) (fun _ i _=>m - (intOf i).toNat)
 case atStart=>exact⟨0,q3,m3,c3,by omega,rfl,rfl,zaa (by simpa using za hn3),zaa (by simpa using za HO3),HU3⟩
 case round =>
  obtain⟨j,s,n',c',hj,rfl,rfl,hn,HO,HB⟩:=hrel;have e3:=(za KR _ (za HB)).2.2.2;by_cases hjm:j<m
  ·as_aux_lemma =>
   have y0:(0:Int)≤(j:Int):=by omega
   have y1:(j:Int)<(m:Int):=by omega
   have hjl:j<cl.length:=by rw[za HM];exact hjm
   obtain⟨g,rfl,hg1,q0,q1,q2,q3⟩:=(za RL).cell j hjl;have FT:=zaa (show zap v++zaq cf++zap m++(cl.take (j+1)).flatMap lsB=zap v++zaq cf++zap m++(cl.take j).flatMap lsB++lsB cl[j] by rw[zby lsB cl j hjl];simp only[List.append_assoc]);have LJ:=zaa (show(zap v++zaq cf++zap m++(cl.take j).flatMap lsB).length≤110000100000 by have h1:=za LL;have h2:=za HL j;rw[List.length_append];omega);have hok:=za LI _ (List.getElem_mem hjl);generalize cl[j]=x at *;have hvb:=za HV;have o1:=hok.id;have o2:=hok.sq;have o3:=hok.er.le;have o4:=hok.vr;obtain⟨x1,x2,x3,x4⟩:=x;dsimp only at *;obtain⟨z1,rfl⟩:∃ z:Nat,x1=z:=⟨x1.toNat,by omega⟩
   obtain⟨z2,rfl⟩:∃ z:Nat,x2=z:=⟨x2.toNat,by omega⟩
   obtain⟨z3,rfl⟩:∃ z:Nat,x3=z:=⟨x3.toNat,by omega⟩
   obtain⟨z4,rfl⟩:∃ z:Nat,x4=z:=⟨x4.toNat,by omega⟩
   have KQ:=zaa (show ∀ W:World,Below w.heap.size w W→W.cell? ⟨g,j*4,none⟩=some (.int .i64 (z1:Int))∧W.cell? ⟨g,j*4+1,none⟩=some (.int .i64 (z2:Int))∧W.cell? ⟨g,j*4+2,none⟩=some (.int .i64 (z3:Int))∧W.cell? ⟨g,j*4+3,none⟩=some (.int .i64 (z4:Int)) from fun W hb=>⟨cell_later hb q0,cell_later hb q1,cell_later hb q2,cell_later hb q3⟩);have EL:=zaa (show lsB ⟨(z1:Int),(z2:Int),(z3:Int),(z4:Int)⟩=zap z1++(zap z2++(zap z3++zap z4)) from rfl);have N1:=zaa (zan z1 (by omega));have N2:=zaa (zan z2 (by omega));have N3:=zaa (zan z3 (by omega));generalize zap v++zaq cf++zap m++(cl.take j).flatMap lsB=A at *;clear q0 q1 q2 q3 hok
   go_wp2_with fail
   clear e3;have D1:=zaa ((za HB).drew);have OD:=zaa ((za HO).later (show Below wr.heap.size wr wr.drew from(Below.refl _ _).drew));have C1:=zaa (zax w.heap.size (za hn) (za OD) z1 (by omega) (by have h1:=za LJ;omega) (za D1).size);unfold zfa at C1;have KF:=zaa (show ∀ W:World,Below w.heap.size w W→W.cell? ⟨r,3,none⟩=some (.slice (some ⟨g,0,none⟩) m lc)∧W.cell? ⟨g,j*4,none⟩=some (.int .i64 (z1:Int))∧W.cell? ⟨g,j*4+1,none⟩=some (.int .i64 (z2:Int)) from fun W hb=>⟨(za KR W hb).2.2.2,(za KQ W hb).1,(za KQ W hb).2.1⟩);have KB:=zaa (za KF _ (za D1));refine wp_region_held_drew (S:=fun W=>W.cell? ⟨r,3,none⟩=some (.slice (some ⟨g,0,none⟩) m lc)∧W.cell? ⟨g,j*4,none⟩=some (.int .i64 (z1:Int))∧W.cell? ⟨g,j*4+1,none⟩=some (.int .i64 (z2:Int))) (by kernel_rfl) ?_ (fun hHeld=>?_)
   ·try dsimp only
    first|exact za K3|exact za K2|exact za KB
   refine hT 0 ?_;refine hT 1 ?_;refine hT 2 ?_;refine hT 3 ?_;refine hT 4 ?_;refine hT 5 ?_;refine hT 6 ?_;refine hT 7 ?_;refine hT 8 ?_;refine hT 10 ?_;refine hT 11 ?_;refine hT 12 ?_;refine hT 13 ?_;refine hT 14 ?_;refine hT 15 ?_;refine hT 16 ?_;refine hT 17 ?_;refine hO 9 (fun K hK=>?_);go_simp
   first
    |(have hV:U1=U1:=rfl
      clear hV;go_at_call 72
      refine(za C2).mono ?_;rintro e U2 ⟨q2,m2,c2,rfl,hn2,ho2,hg2⟩;have HU2:=zaa (zaj (Nat.le_refl _) (za HO1) hg2 (za HU1).size (za HU1));have K3:=zaa (za KF _ (za HU2));have HO2:=zaa ho2
      clear ho2 hg2)
    |(go_at_call 72
      refine(za C1).mono ?_;rintro e U1 ⟨q1,m1,c1,rfl,hn1,ho1,hg1⟩;have HU1:=zaa (zaj (Nat.le_refl _) (za OD) hg1 (za D1).size (za D1));have K2:=zaa (za KF _ (za HU1));have HO1:=zaa ho1;have C2:=zaa (zax w.heap.size (za hn1) (za HO1) z2 (by omega) (by have h1:=za LJ;have h2:=za N1;rw[List.length_append];omega) (za HU1).size);unfold zfa at C2
      clear ho1 hg1)
   go_wp2_with fail
   refine hK.out _ _ ?_ (fun hHeld=>?_)
   ·try dsimp only
    first|exact za K3|exact za K2|exact za KB
   clear hK K;refine hP ?_;refine hO 18 (fun K hK=>?_);go_simp
   first
    |(have hV:U1=U1:=rfl
      clear hV;go_at_call 72
      refine(za C2).mono ?_;rintro e U2 ⟨q2,m2,c2,rfl,hn2,ho2,hg2⟩;have HU2:=zaa (zaj (Nat.le_refl _) (za HO1) hg2 (za HU1).size (za HU1));have K3:=zaa (za KF _ (za HU2));have HO2:=zaa ho2
      clear ho2 hg2)
    |(go_at_call 72
      refine(za C1).mono ?_;rintro e U1 ⟨q1,m1,c1,rfl,hn1,ho1,hg1⟩;have HU1:=zaa (zaj (Nat.le_refl _) (za OD) hg1 (za D1).size (za D1));have K2:=zaa (za KF _ (za HU1));have HO1:=zaa ho1;have C2:=zaa (zax w.heap.size (za hn1) (za HO1) z2 (by omega) (by have h1:=za LJ;have h2:=za N1;rw[List.length_append];omega) (za HU1).size);unfold zfa at C2
      clear ho1 hg1)
   go_wp2_with fail
   refine hK.out _ _ ?_ (fun hHeld=>?_)
   ·try dsimp only
    first|exact za K3|exact za K2|exact za KB
   clear hK K;refine hP ?_;refine hT 19 ?_;refine wpAnyH_done (by kernel_rfl) ?_ _;clear C1 C2 KB K2 K3 hHeld KF HO1 HU1 hn1
   go_wp2_with fail
   have D1:=zaa ((za HU2).drew);have OD:=zaa ((za HO2).later (show Below U2.heap.size U2 U2.drew from(Below.refl _ _).drew));have C1:=zaa (zax w.heap.size (za hn2) (za OD) z3 (by omega) (by have h1:=za LJ;have h2:=za N1;have h3:=za N2;simp only[List.length_append];omega) (za D1).size);unfold zfa at C1;have KF:=zaa (show ∀ W:World,Below w.heap.size w W→W.cell? ⟨r,3,none⟩=some (.slice (some ⟨g,0,none⟩) m lc)∧W.cell? ⟨g,j*4+2,none⟩=some (.int .i64 (z3:Int))∧W.cell? ⟨g,j*4+3,none⟩=some (.int .i64 (z4:Int)) from fun W hb=>⟨(za KR W hb).2.2.2,(za KQ W hb).2.2.1,(za KQ W hb).2.2.2⟩);have KB:=zaa (za KF _ (za D1));refine wp_region_held_drew (S:=fun W=>W.cell? ⟨r,3,none⟩=some (.slice (some ⟨g,0,none⟩) m lc)∧W.cell? ⟨g,j*4+2,none⟩=some (.int .i64 (z3:Int))∧W.cell? ⟨g,j*4+3,none⟩=some (.int .i64 (z4:Int))) (by kernel_rfl) ?_ (fun hHeld=>?_)
   ·try dsimp only
    first|exact za K3|exact za K2|exact za KB
   refine hT 0 ?_;refine hT 1 ?_;refine hT 2 ?_;refine hT 3 ?_;refine hT 4 ?_;refine hT 5 ?_;refine hT 6 ?_;refine hT 7 ?_;refine hT 8 ?_;refine hT 9 ?_;refine hT 11 ?_;refine hT 12 ?_;refine hT 13 ?_;refine hT 14 ?_;refine hT 15 ?_;refine hT 16 ?_;refine hT 17 ?_;refine hT 18 ?_;refine hT 19 ?_;refine hO 10 (fun K hK=>?_);go_simp
   first
    |(have hV:U1=U1:=rfl
      clear hV;go_at_call 72
      refine(za C2).mono ?_;rintro e U4 ⟨q4,m4,c4,rfl,hn4,ho4,hg4⟩;have HU4:=zaa (zaj (Nat.le_refl _) (za HO1) hg4 (za HU1).size (za HU1));have K3:=zaa (za KF _ (za HU4));have HO4:=zaa ho4
      clear ho4 hg4)
    |(go_at_call 72
      refine(za C1).mono ?_;rintro e U1 ⟨q1,m1,c1,rfl,hn1,ho1,hg1⟩;have HU1:=zaa (zaj (Nat.le_refl _) (za OD) hg1 (za D1).size (za D1));have K2:=zaa (za KF _ (za HU1));have HO1:=zaa ho1;have C2:=zaa (zax w.heap.size (za hn1) (za HO1) z4 (by omega) (by have h1:=za LJ;have h2:=za N1;have h3:=za N2;have h4:=za N3;simp only[List.length_append];omega) (za HU1).size);unfold zfa at C2
      clear ho1 hg1)
   go_wp2_with fail
   refine hK.out _ _ ?_ (fun hHeld=>?_)
   ·try dsimp only
    first|exact za K3|exact za K2|exact za KB
   clear hK K;refine hP ?_;refine hO 20 (fun K hK=>?_);go_simp
   first
    |(have hV:U1=U1:=rfl
      clear hV;go_at_call 72
      refine(za C2).mono ?_;rintro e U4 ⟨q4,m4,c4,rfl,hn4,ho4,hg4⟩;have HU4:=zaa (zaj (Nat.le_refl _) (za HO1) hg4 (za HU1).size (za HU1));have K3:=zaa (za KF _ (za HU4));have HO4:=zaa ho4
      clear ho4 hg4)
    |(go_at_call 72
      refine(za C1).mono ?_;rintro e U1 ⟨q1,m1,c1,rfl,hn1,ho1,hg1⟩;have HU1:=zaa (zaj (Nat.le_refl _) (za OD) hg1 (za D1).size (za D1));have K2:=zaa (za KF _ (za HU1));have HO1:=zaa ho1;have C2:=zaa (zax w.heap.size (za hn1) (za HO1) z4 (by omega) (by have h1:=za LJ;have h2:=za N1;have h3:=za N2;have h4:=za N3;simp only[List.length_append];omega) (za HU1).size);unfold zfa at C2
      clear ho1 hg1)
   go_wp2_with fail
   refine hK.out _ _ ?_ (fun hHeld=>?_)
   ·try dsimp only
    first|exact za K3|exact za K2|exact za KB
   clear hK K;refine hP ?_;refine hT 21 ?_;refine wpAnyH_done (by kernel_rfl) ?_ _;clear C1 C2 KB K2 K3 hHeld KF;rw[show A++zap z1++zap z2++zap z3++zap z4=A++lsB ⟨(z1:Int),(z2:Int),(z3:Int),(z4:Int)⟩ by rw[za EL];simp only[List.append_assoc]] at hn4 HO4
   go_wp2
   exact⟨⟨j+1,q4,m4,c4,by omega,rfl,by go_num,zaa (by rw[za FT];exact za hn4),zaa (by rw[za FT];exact za HO4),HU4⟩,by simp[intOf];omega⟩
  ·as_aux_lemma =>
   have hjj:¬ (j:Int)<(m:Int):=by omega
   have E:=zaa (show zap v++zaq cf++zap m++(cl.take j).flatMap lsB=PS by rw[za EP,List.take_of_length_le (by rw[za HM];omega)]);rw[za E] at hn HO
   go_wp2
   go_ret
   exact⟨s,n',c',rfl,hn,za HO,za HB⟩
theorem zi3 {w:World} {h:StH} {x:Sm} (s:StAt w h x) (id:Int) (hid:-9223372036854775808≤id∧id≤9223372036854775807) :
  Calls Tryz.prog 17 #[.pointer (some ⟨h.S,0,none⟩),.int .i64 id] w fun e w'=>e=.returned (.tuple #[.int .i64 ((zau lid id x.cl).getD ⟨id,0,0,0⟩).seq,.agg #[.int .i64 ((zau lid id x.cl).getD ⟨id,0,0,0⟩).e,.int .i64 ((zau lid id x.cl).getD ⟨id,0,0,0⟩).ver]])∧Below w.heap.size w w':=by
 have LK:=zaa (fun (W:World) (hb:Below w.heap.size w W)=>znt (s.later hb) id hid);have b1:=zaa (show Below w.heap.size w (w.alloc (.cells #[.int .i64 0,.int .i64 0] 38)) from(Below.refl _ _).alloc (Nat.le_refl _) _);have X1:=zaa (zad w (.cells #[.int .i64 0,.int .i64 0] 38));have S1:=zaa (show(w.alloc (.cells #[.int .i64 0,.int .i64 0] 38)).heap.size=w.heap.size+1 by simp);have c3:=cell_later (za b1) s.cell.2.2.2;have lk:=za LK _ (za b1);generalize (zau lid id x.cl).getD ⟨id,0,0,0⟩=t at *;obtain⟨ti,tseq,te,tver⟩:=t;simp only[lsV] at LK lk;dsimp only;clear s;go_enter Tryz.func17,Tryz.ntmps17
 go_wp2_with fail
 have bZ:=zaa (show Below w.heap.size w ((w.alloc (.cells #[.int .i64 0,.int .i64 0] 38)).alloc (.cells #[.int .i64 tseq,.int .i64 te,.int .i64 tver] 74)) from(za b1).alloc (za b1).size _);have XR:=zaa (show((w.alloc (.cells #[.int .i64 0,.int .i64 0] 38)).alloc (.cells #[.int .i64 tseq,.int .i64 te,.int .i64 tver] 74)).heap[w.heap.size]? = some (.cells #[.int .i64 0,.int .i64 0] 38 (0,0)) by rw[Below.heap_alloc _ _ _ (by simp)];exact za X1);have XL:=zaa (show((w.alloc (.cells #[.int .i64 0,.int .i64 0] 38)).alloc (.cells #[.int .i64 tseq,.int .i64 te,.int .i64 tver] 74)).heap[w.heap.size+1]? = some (.cells #[.int .i64 tseq,.int .i64 te,.int .i64 tver] 74 (0,0)) by rw[← za S1];exact zad _ _);generalize (w.alloc (.cells #[.int .i64 0,.int .i64 0] 38)).alloc (.cells #[.int .i64 tseq,.int .i64 te,.int .i64 tver] 74)=V at *;clear c3 lk LK b1 X1 S1;have KS:=zaa (show V.drew.cell? ⟨w.heap.size+1,0,none⟩=some (.int .i64 tseq)∧V.drew.cell? ⟨w.heap.size+1,1,none⟩=some (.int .i64 te)∧V.drew.cell? ⟨w.heap.size+1,2,none⟩=some (.int .i64 tver) from⟨zab (za XL) 0 _ rfl,zab (za XL) 1 _ rfl,zab (za XL) 2 _ rfl⟩);refine wp_region_held_drew (S:=fun W=>W.cell? ⟨w.heap.size+1,0,none⟩=some (.int .i64 tseq)∧W.cell? ⟨w.heap.size+1,1,none⟩=some (.int .i64 te)∧W.cell? ⟨w.heap.size+1,2,none⟩=some (.int .i64 tver)) (by kernel_rfl) ?_ (fun hHeld=>?_)
 ·try dsimp only
  first|exact za KS|exact za KS2
 refine hT 0 ?_;refine hT 1 ?_;refine hT 2 ?_;refine hT 3 ?_;refine hT 4 ?_;refine wpAnyH_ready (rs:=[5]) (by kernel_rfl) (by simp) ?_;refine AllReadyH.cons rfl (fun K hK=>?_) ?_
 ·have z0:=zab (za XR) 0 (.int .i64 0) rfl;have z1:=zab (za XR) 1 (.int .i64 0) rfl;have f0:V.frozen? ⟨w.heap.size,0,none⟩=false:=by simp[World.frozen?,za XR]
  have f1:V.frozen? ⟨w.heap.size,1,none⟩=false:=by simp[World.frozen?,za XR]
  have A1:=zaa (show((V.setCell ⟨w.heap.size,0,none⟩ (.int .i64 te)).setCell ⟨w.heap.size,1,none⟩ (.int .i64 tver)).drew.heap[w.heap.size]? = some (.cells #[.int .i64 te,.int .i64 tver] 38 (0,0)) from zar (zar (za XR) 0 (.int .i64 te) #[.int .i64 te,.int .i64 0] rfl) 1 (.int .i64 tver) #[.int .i64 te,.int .i64 tver] rfl);have G1:=zaa (show V.grownBy ((V.setCell ⟨w.heap.size,0,none⟩ (.int .i64 te)).setCell ⟨w.heap.size,1,none⟩ (.int .i64 tver)).drew (some w.heap.size) from zaf (zai (zag V w.heap.size 0 (.int .i64 te)) (zag _ w.heap.size 1 (.int .i64 tver))) (Below.refl _ _).drew);have kl:=(za G1).block (w.heap.size+1) (Array.getElem?_eq_some_iff.1 (za XL)).1 (fun e=>by have:=Option.some.inj e;omega);have KS2:=zaa (show((V.setCell ⟨w.heap.size,0,none⟩ (.int .i64 te)).setCell ⟨w.heap.size,1,none⟩ (.int .i64 tver)).drew.cell? ⟨w.heap.size+1,0,none⟩=some (.int .i64 tseq)∧((V.setCell ⟨w.heap.size,0,none⟩ (.int .i64 te)).setCell ⟨w.heap.size,1,none⟩ (.int .i64 tver)).drew.cell? ⟨w.heap.size+1,1,none⟩=some (.int .i64 te)∧((V.setCell ⟨w.heap.size,0,none⟩ (.int .i64 te)).setCell ⟨w.heap.size,1,none⟩ (.int .i64 tver)).drew.cell? ⟨w.heap.size+1,2,none⟩=some (.int .i64 tver) from⟨(World.cell?_of_block kl).trans (za KS).1,(World.cell?_of_block kl).trans (za KS).2.1,(World.cell?_of_block kl).trans (za KS).2.2⟩);clear kl;go_simp
  clear z0 z1 f0 f1;refine hK.out _ _ ?_ (fun hHeld=>?_)
  ·try dsimp only
   first|exact za KS|exact za KS2
  clear hK K;refine hP ?_;refine wpAnyH_done (by kernel_rfl) ?_ _;generalize ((V.setCell ⟨w.heap.size,0,none⟩ (.int .i64 te)).setCell ⟨w.heap.size,1,none⟩ (.int .i64 tver)).drew=W9 at *;clear hHeld KS KS2
  go_wp2
  have g0:=zab (za A1) 0 (.int .i64 te) rfl;have g1:=zab (za A1) 1 (.int .i64 tver) rfl;refine bodyPost_ret (v:=.tuple #[.int .i64 tseq,.agg #[.int .i64 te,.int .i64 tver]]) (by simp[results,Tryz.results17,go_sem,g0,g1]) rfl ⟨rfl,(za bZ).grown (za G1) (za bZ).size (fun g e=>by have:=Option.some.inj e;omega)⟩
 exact AllReadyH.nil
theorem zoh (a b c d:Int) (w:World):(Op.equal 38 (.agg #[.int .i64 a,.int .i64 b]) (.agg #[.int .i64 c,.int .i64 d])).run Tryz.prog w=.ok (a==c&&b==d) w:=by
 have u3:=Tryz.underlying3;have u5:=Tryz.underlying35;have a3:=Tryz.isAgg3;have a5:=Tryz.isAgg35;have z3:=Tryz.sizeOf3;have z5:=Tryz.sizeOf35;have hS:Tryz.prog.underlying 38=some (.struct (Tryz.prog.fieldsOf 38)):=by kernel_rfl
 have hp:Tryz.prog.stoodInHeld 38=false:=by kernel_rfl
 have:(Op.equalIn 10000 38 (.agg #[.int .i64 a,.int .i64 b]) (.agg #[.int .i64 c,.int .i64 d])).run Tryz.prog w=.ok (a==c&&b==d) w:=by
  rw[show(10000:Nat)=9999+1 from rfl,run_equalIn_agg w 9999 38 _ _ hS hp];simp only[Program.fieldsOf,Tryz.underlying38];go_simp
  by_cases h1:a=c <;> by_cases h2:b=d <;> simp[h1,h2]
 exact this
theorem znx (a b:Int) (W:World):(binOp .neq 38 (.agg #[.int .i64 a,.int .i64 b]) (.agg #[.int .i64 a,.int .i64 b])).run Tryz.prog W=.ok (.bool false) W:=by
 simp[go_sem,binOp,zoh]
def zhr (w:World) (e:Ending) (w':World):Prop:=∃ h r z j,j≤150∧e=.returned (.tuple #[.pointer (some ⟨h.S,0,none⟩),.pointer (some ⟨r,0,none⟩),.bool true])∧Po8 j w.heap.size w' h z∧Ro8 j w.heap.size w' r z∧Below w.heap.size w w'
theorem zjx (a:Option Addr) (cc:Nat) (l:List CmdQ) (w:World) (hx:l.length≤maxLen) (hC:CmdsAt w a l) (hm:Mx w) :
  Calls Tryz.prog 12 #[.slice a l.length cc] w (zhr w):=by
 have MX:=zaa (fun (W:World) (hb:Below w.heap.size w W)=>hm.later hb);have HC:=zaa hC;have NC:=zaa (zhh w);have PE:=zaa (show ∀ e W,zhr w e W→zhr w e W from fun _ _ h=>h);simp only[maxLen] at hx;clear hC hm;go_enter Tryz.func12,Tryz.ntmps12
 go_wp2_with fail
 refine(za NC).mono ?_;rintro e V1 ⟨h,rfl,s1,b1,hS,hP,hR,hCC⟩;have PO:=zaa (show Po8 0 w.heap.size V1 h sm0 from⟨⟨sm0,s1,SmE.refl _,smI0,smi0,smL0⟩,hS,hP,hR,hCC⟩);have B1:=zaa b1;have RN:=zaa (zj0 V1);clear s1 b1 hS hP hR hCC NC
 go_wp2_with fail
 refine(za RN).mono ?_;rintro e V2 ⟨r,rfl,t2,b2,hr⟩;have PO2:=zaa ((za PO).later b2);have RO2:=zaa (show Ro8 0 w.heap.size V2 r sm0 from⟨⟨sm0,_,t2,SmE.refl _,smI0,smi0,smL0⟩,Nat.le_trans (za B1).size hr⟩);have B2:=zaa ((za B1).trans (b2.mono (za B1).size));clear t2 b2 hr RN PO B1
 go_wp2_with fail
 go_loopw [7] (fun i wr=>∃ (j:Nat) (z:Sm),j≤150∧i=.int .i64 (j:Int)∧Hid (Po8 j w.heap.size wr h z)∧Hid (Ro8 j w.heap.size wr r z)∧Hid (Below w.heap.size w wr)) (fun i _=>150 - (intOf i).toNat)
 case atStart=>exact⟨0,sm0,by omega,rfl,PO2,RO2,B2⟩
 case round =>
  obtain⟨j,z,hj,rfl,P,R,B⟩:=hrel;by_cases hjl:j<l.length
  ·by_cases hj1:j<150
   ·as_aux_lemma =>
    have y1:(j:Int)<(l.length:Int):=by omega
    have y2:(j:Int)<150:=by omega
    have y0:(0:Int)≤(j:Int):=by omega
    have hjj:j+1≤150:=by omega
    obtain⟨b,off,rfl,hcell⟩:=(za HC).cell j hjl;have ca:=zaa ((za HC).at_ _ (List.getElem_mem hjl));generalize l[j]=q at *;obtain⟨⟨act,cli,seq,exp,host,pre,pool,ts⟩,ta,tc⟩:=q;dsimp only at *;have hcw:∀ W:World,Below w.heap.size w W→W.cell? ⟨b,off+j*8,none⟩=some (.int .i64 act)∧W.cell? ⟨b,off+j*8+1,none⟩=some (.int .i64 cli)∧W.cell? ⟨b,off+j*8+2,none⟩=some (.int .i64 seq)∧W.cell? ⟨b,off+j*8+3,none⟩=some (.int .i64 exp)∧W.cell? ⟨b,off+j*8+4,none⟩=some (.string host)∧W.cell? ⟨b,off+j*8+5,none⟩=some (.string pre)∧W.cell? ⟨b,off+j*8+6,none⟩=some (.string pool)∧W.cell? ⟨b,off+j*8+7,none⟩=some (.slice ta ts.length tc):=fun W hb=>⟨cell_later hb (hcell 0 (by omega)),cell_later hb (hcell 1 (by omega)),cell_later hb (hcell 2 (by omega)),cell_later hb (hcell 3 (by omega)),cell_later hb (hcell 4 (by omega)),cell_later hb (hcell 5 (by omega)),cell_later hb (hcell 6 (by omega)),cell_later hb (hcell 7 (by omega))⟩
    have CE:=zaa hcw;have bD:=zaa ((za B).trans (show Below w.heap.size wr wr.drew from((Below.refl _ _).drew).mono (za B).size));have CW:=zaa ((za CE) _ (za bD));have SH:=zaa (fun W=>zga ⟨act,cli,seq,exp,host,pre,pool,ts⟩ ta tc W (za ca).tn.1 (za ca).th (za ca).tp (za ca).tl);have CT:=zaa (fun (W:World) (hb:Below w.heap.size w W)=>(za ca).later hb);have PD:=zaa (fun (W:World) (p:Po8 j w.heap.size W h z) (hb:Below w.heap.size w W)=>p.do (by omega) ⟨act,cli,seq,exp,host,pre,pool,ts⟩ ta tc (za CT W hb) (za MX W hb));have RD:=zaa (fun (W:World) (p:Ro8 j w.heap.size W r z) (hb:Below w.heap.size w W)=>p.do (by omega) ⟨act,cli,seq,exp,host,pre,pool,ts⟩ ta tc (za CT W hb));unfold zas at SH PD RD;dsimp only at SH PD RD;have PW:=zaa ((za P).later (show Below wr.heap.size wr wr.drew from(Below.refl _ _).drew));have RW:=zaa ((za R).later (show Below wr.heap.size wr wr.drew from(Below.refl _ _).drew));have BW:=bD;clear hcell hcw ca P R;by_cases hs:zho ⟨act,cli,seq,exp,host,pre,pool,ts⟩=true
    ·rw[hs] at SH;generalize doS ⟨act,cli,seq,exp,host,pre,pool,ts⟩ none 0 z=rr at *;obtain⟨⟨er,vr⟩,z'⟩:=rr;dsimp only at PD RD;have NE:=znx er vr;clear hs
     go_wp2_with fail
     refine wp_region_held_drew (S:=fun W=>W.cell? ⟨b,off+j*8,none⟩=some (.int .i64 act)∧W.cell? ⟨b,off+j*8+1,none⟩=some (.int .i64 cli)∧W.cell? ⟨b,off+j*8+2,none⟩=some (.int .i64 seq)∧W.cell? ⟨b,off+j*8+3,none⟩=some (.int .i64 exp)∧W.cell? ⟨b,off+j*8+4,none⟩=some (.string host)∧W.cell? ⟨b,off+j*8+5,none⟩=some (.string pre)∧W.cell? ⟨b,off+j*8+6,none⟩=some (.string pool)∧W.cell? ⟨b,off+j*8+7,none⟩=some (.slice ta ts.length tc)) (by kernel_rfl) ?_ (fun hHeld=>?_)
     ·try dsimp only
      exact za CW
     refine hT 0 ?_;refine hT 1 ?_;refine hT 2 ?_;refine hT 3 ?_;refine wpAnyH_ready (rs:=[4]) (by kernel_rfl) (by simp) ?_;refine AllReadyH.cons rfl (fun K hK=>?_) ?_
     ·go_simp
      go_at_call 15
      refine(za SH _).mono ?_;rintro e U1 ⟨rfl,u1⟩;have PW:=zaa ((za PW).later u1);have RW:=zaa ((za RW).later u1);have BW:=zaa ((za BW).trans (u1.mono (za BW).size));have CW:=zaa ((za CE) _ (za BW));clear u1
      go_wp2_with fail
      refine hK.out _ _ ?_ (fun hHeld=>?_)
      ·try dsimp only
       exact za CW
      clear hK K;refine hP ?_;refine hT 5 ?_;refine hT 6 ?_;refine hT 7 ?_;refine hT 8 ?_;refine hT 9 ?_;refine hT 10 ?_;refine hT 12 ?_;refine hT 13 ?_;refine hT 14 ?_;refine hT 15 ?_;refine hT 16 ?_;refine wpAnyH_ready (rs:=[11]) (by kernel_rfl) (by simp) ?_;refine AllReadyH.cons rfl (fun K hK=>?_) ?_
      ·go_simp
       go_at_call 18
       refine(za PD _ (za PW) (za BW)).mono ?_;rintro e U2 ⟨rfl,p2,u2,k2,_⟩;have PX:=zaa p2;have RW:=zaa (k2 _ _ _ _ (za RW));have BW:=zaa ((za BW).trans u2);have CW:=zaa ((za CE) _ (za BW));clear p2 u2 k2 PW;have PW:=PX;clear PX
       go_wp2_with fail
       refine hK.out _ _ ?_ (fun hHeld=>?_)
       ·try dsimp only
        exact za CW
       clear hK K;refine hP ?_;refine wpAnyH_ready (rs:=[17]) (by kernel_rfl) (by simp) ?_;refine AllReadyH.cons rfl (fun K hK=>?_) ?_
       ·go_simp
        go_at_call 30
        refine(za RD _ (za RW) (za BW)).mono ?_;rintro e U3 ⟨rfl,p3,u3,k3⟩;have RX:=zaa p3;have PW:=zaa (k3 _ _ _ _ (za PW));have BW:=zaa ((za BW).trans u3);have CW:=zaa ((za CE) _ (za BW));clear p3 u3 k3 RW;have RW:=RX;clear RX
        go_wp2_with fail
        refine hK.out _ _ ?_ (fun hHeld=>?_)
        ·try dsimp only
         exact za CW
        clear hK K;refine hP ?_;refine hT 18 ?_;refine hT 19 ?_;refine wpAnyH_done (by kernel_rfl) ?_ _
        go_wp2
        exact⟨⟨j+1,z',hjj,by go_num,PW,RW,BW⟩,by simp[intOf];omega⟩
       exact AllReadyH.nil
      exact AllReadyH.nil
     exact AllReadyH.nil
    ·have hs0:zho ⟨act,cli,seq,exp,host,pre,pool,ts⟩=false:=by simpa using hs
     rw[hs0] at SH;clear hs hs0
     go_wp2_with fail
     refine wp_region_held_drew (S:=fun W=>W.cell? ⟨b,off+j*8,none⟩=some (.int .i64 act)∧W.cell? ⟨b,off+j*8+1,none⟩=some (.int .i64 cli)∧W.cell? ⟨b,off+j*8+2,none⟩=some (.int .i64 seq)∧W.cell? ⟨b,off+j*8+3,none⟩=some (.int .i64 exp)∧W.cell? ⟨b,off+j*8+4,none⟩=some (.string host)∧W.cell? ⟨b,off+j*8+5,none⟩=some (.string pre)∧W.cell? ⟨b,off+j*8+6,none⟩=some (.string pool)∧W.cell? ⟨b,off+j*8+7,none⟩=some (.slice ta ts.length tc)) (by kernel_rfl) ?_ (fun hHeld=>?_)
     ·try dsimp only
      exact za CW
     refine hT 0 ?_;refine hT 1 ?_;refine hT 2 ?_;refine hT 3 ?_;refine hO 4 (fun K hK=>?_);go_simp
     first
      |(go_at_call 15
        refine(za SH _).mono ?_;rintro e U1 ⟨rfl,u1⟩;have PW:=zaa ((za PW).later u1);have RW:=zaa ((za RW).later u1);have BW:=zaa ((za BW).trans (u1.mono (za BW).size));have CW:=zaa ((za CE) _ (za BW))
        clear u1)
     go_wp2_with fail
     refine hK.out _ _ ?_ (fun hHeld=>?_)
     ·try dsimp only
      exact za CW
     clear hK K;refine hP ?_;refine hT 5 ?_;refine hN 6 ?_;refine hN 7 ?_;refine hN 8 ?_;refine hN 9 ?_;refine hN 10 ?_;refine hN 12 ?_;refine hN 13 ?_;refine hN 14 ?_;refine hN 15 ?_;refine hN 16 ?_;refine zfe 11 (by kernel_rfl) rfl (by rfl) (by assumption) ?_;refine hP ?_;refine zfe 17 (by kernel_rfl) rfl (by rfl) (by assumption) ?_;refine hP ?_;refine hN 18 ?_;refine hT 19 ?_;refine wpAnyH_done (by kernel_rfl) ?_ _
     go_wp2
     exact⟨⟨j+1,z,hjj,by go_num,zaa ((za PW).mono (Nat.le_succ j)),zaa ((za RW).mono (Nat.le_succ j)),BW⟩,by simp[intOf];omega⟩
   ·as_aux_lemma =>
    have y1:(j:Int)<(l.length:Int):=by omega
    have y2:¬ (j:Int)<150:=by omega
    go_wp2_with fail
    go_ret3
    exact za PE _ _ ⟨h,r,z,j,hj,rfl,za P,za R,za B⟩
  ·as_aux_lemma =>
   have y1:¬ (j:Int)<(l.length:Int):=by omega
   go_wp2_with fail
   go_ret3
   exact za PE _ _ ⟨h,r,z,j,hj,rfl,za P,za R,za B⟩
end
end Go.Proofs.YtjcjleaicjhpeaaGreatDoor
