/- Conf: the document's Put. -/
import Derived.Test.YtjcjleaicjhpeaaGreatDoorB31
import Derived.Test.YtjcjleaicjhpeaaGreatDoorB03
import Derived.Test.YtjcjleaicjhpeaaGreatDoorB24
import Derived.Laws.StructEq
import Derived.Test.YtjcjleaicjhpeaaGreatDoorB34
import Derived.Deep.CutBlock
import Derived.Deep.DeepCutAuto
import Derived.Test.YtjcjleaicjhpeaaGreatDoorB20
import Derived.Shelf.SlMaps.Clone
import Derived.Test.YtjcjleaicjhpeaaGreatDoorB06
set_option linter.unusedVariables false
set_option maxRecDepth 20000
set_option maxHeartbeats 16000000
namespace Go.Proofs.YtjcjleaicjhpeaaGreatDoor
section
open Go.ChangeShapes Go.WideShapes Go.ChangeAt Go.RowKit
theorem zlw {w:World} {r:Nat} {k:RfH} {y:Sm} (t:RtAt w r k y) (hs:SmB y) (hl:SmL y) (hv:y.ver≤1099511627776) :
  Calls Tryz.prog 34 #[.pointer (some ⟨r,0,none⟩)] w fun e w'=>∃ sp n c,e=.returned (.slice sp n c)∧Hid ((zjn y).length=n)∧OwnB w.heap.size w' sp c (zjn y)∧Below w.heap.size w w':=by
 have hv0:=hl.vr;have hcn:=hs.cn;obtain⟨v,hvv⟩:∃ v:Nat,y.ver=v:=⟨y.ver.toNat,by omega⟩
 have HL:=zaa (show ∀ j,((y.cl.take j).flatMap lsB).length≤24*j from fun j=>zsq hl.cl hv j);have HV:=zaa hv;have CF:=zaa (t.cfB hs);have ST:=zaa hs.ok.t;have CL:=zaa (zh8 y.cf hs.ok.t);have LV:=zaa (zap v (by omega));have EP:=zaa (show zjn y=zal v++zav y.cf++zal y.cl.length++y.cl.flatMap lsB by unfold zjn;rw[hvv];simp only[List.append_assoc,Int.toNat_natCast]);have HD:=zaa (show w.heap[r]? = some (.cells #[.int .i64 (v:Int),.slice k.ra y.rs.length k.rc,.slice k.pa y.ps.length k.pc,.slice k.la y.cl.length k.lc] 119 (0,0)) from by have:=t.hd;unfold ztr at this;rwa [hvv] at this);have RL:=zaa t.lw;have LI:=zaa hl.cl;obtain⟨ver,ps,rs,cl⟩:=y;obtain⟨ra,rc,pa,pc,la,lc⟩:=k;dsimp only at *;subst hvv;have EC:=zaa (show zcw (Sm.cf ⟨(v:Int),ps,rs,cl⟩) ⟨ra,rc,pa,pc⟩=.agg #[.int .i64 (v:Int),.slice ra rs.length rc,.slice pa ps.length pc] from by simp[zcw,Sm.cf]);generalize zjn ⟨(v:Int),ps,rs,cl⟩=PS at *;generalize Sm.cf ⟨(v:Int),ps,rs,cl⟩=cf at *;generalize hcl:cl.length=m at *;have HM:=zaa hcl;generalize hrn:rs.length=nr at *;generalize hpn:ps.length=np at *;clear t hs hl hv hcl hrn hpn;have KR:=zaa (show ∀ W:World,Below w.heap.size w W→W.cell? ⟨r,0,none⟩=some (.int .i64 (v:Int))∧W.cell? ⟨r,1,none⟩=some (.slice ra nr rc)∧W.cell? ⟨r,2,none⟩=some (.slice pa np pc)∧W.cell? ⟨r,3,none⟩=some (.slice la m lc) from fun W hb=>⟨zab (zac hb (za HD)) 0 _ rfl,zab (zac hb (za HD)) 1 _ rfl,zab (zac hb (za HD)) 2 _ rfl,zab (zac hb (za HD)) 3 _ rfl⟩)
 have D1:=zaa (show Below w.heap.size w w.drew from(Below.refl _ _).drew);have C1:=zaa (za2 w.heap.size (w:=w.drew) (sp:=none) (n0:=0) (c:=0) (l:=[]) rfl (OwnB.ofNil _ _) v (by have:=za HV;omega) (by decide) (za D1).size);unfold zf6 at C1;rw[List.nil_append] at C1;have KB:=zaa (za KR _ (za D1));go_enter Tryz.func34,Tryz.ntmps34
 go_wp2_with fail
 refine wp_region_held_drew (S:=fun W=>W.cell? ⟨r,0,none⟩=some (.int .i64 (v:Int))∧W.cell? ⟨r,1,none⟩=some (.slice ra nr rc)∧W.cell? ⟨r,2,none⟩=some (.slice pa np pc)∧W.cell? ⟨r,3,none⟩=some (.slice la m lc)) (by kernel_rfl) ?_ (fun hHeld=>?_)
 ·try dsimp only
  first|exact za K4|exact za K3|exact za K2|exact za KB
 refine hT 0 ?_;refine hT 1 ?_;refine hT 2 ?_;refine hT 3 ?_;refine hT 4 ?_;refine hT 6 ?_;refine hT 7 ?_;refine hT 8 ?_;refine hT 9 ?_;refine hT 11 ?_;refine hT 12 ?_;refine hT 13 ?_;refine hT 14 ?_;refine hT 15 ?_;refine hO 5 (fun K hK=>?_);go_simp
 first
  |(have hV:U2=U2:=rfl
    clear hV;go_at_call 72
    refine(za C3).mono ?_;rintro e U3 ⟨q3,m3,c3,rfl,hn3,ho3,hg3⟩;have HU3:=zaa (zai (Nat.le_refl _) (za HO2) hg3 (za HU2).size (za HU2));have K4:=zaa (za KR _ (za HU3));have HO3:=zaa ho3
    clear ho3 hg3)
  |(go_at_call 73
    refine(za C2).mono ?_;rintro e U2 ⟨q2,m2,c2,rfl,hn2,ho2,hg2⟩;have HU2:=zaa (zai (Nat.le_refl _) (za HO1) hg2 (za HU1).size (za HU1));have K3:=zaa (za KR _ (za HU2));have HO2:=zaa ho2;have C3:=zaa (za2 w.heap.size (za hn2) (za HO2) m (by omega) (by have h1:=za CL;have h2:=za LV;rw[List.length_append];omega) (za HU2).size);unfold zf6 at C3
    clear ho2 hg2)
  |(go_at_call 72
    refine(za C1).mono ?_;rintro e U1 ⟨q1,m1,c1,rfl,hn1,ho1,hg1⟩;have HU1:=zaa (zai (Nat.le_refl _) (OwnB.ofNil _ _) hg1 (za D1).size (za D1));have K2:=zaa (za KR _ (za HU1));have HO1:=zaa ho1;have C2:=zaa (zcu w.heap.size (za CF) (za ST) (za HU1) (Nat.le_refl _) (za hn1) (za HO1) (by have h2:=za LV;omega) (za HU1).size);rw[za EC] at C2
    clear ho1 hg1)
 go_wp2_with fail
 refine hK.out _ _ ?_ (fun hHeld=>?_)
 ·try dsimp only
  first|exact za K4|exact za K3|exact za K2|exact za KB
 clear hK K;refine hP ?_;refine hO 10 (fun K hK=>?_);go_simp
 first
  |(have hV:U2=U2:=rfl
    clear hV;go_at_call 72
    refine(za C3).mono ?_;rintro e U3 ⟨q3,m3,c3,rfl,hn3,ho3,hg3⟩;have HU3:=zaa (zai (Nat.le_refl _) (za HO2) hg3 (za HU2).size (za HU2));have K4:=zaa (za KR _ (za HU3));have HO3:=zaa ho3
    clear ho3 hg3)
  |(go_at_call 73
    refine(za C2).mono ?_;rintro e U2 ⟨q2,m2,c2,rfl,hn2,ho2,hg2⟩;have HU2:=zaa (zai (Nat.le_refl _) (za HO1) hg2 (za HU1).size (za HU1));have K3:=zaa (za KR _ (za HU2));have HO2:=zaa ho2;have C3:=zaa (za2 w.heap.size (za hn2) (za HO2) m (by omega) (by have h1:=za CL;have h2:=za LV;rw[List.length_append];omega) (za HU2).size);unfold zf6 at C3
    clear ho2 hg2)
  |(go_at_call 72
    refine(za C1).mono ?_;rintro e U1 ⟨q1,m1,c1,rfl,hn1,ho1,hg1⟩;have HU1:=zaa (zai (Nat.le_refl _) (OwnB.ofNil _ _) hg1 (za D1).size (za D1));have K2:=zaa (za KR _ (za HU1));have HO1:=zaa ho1;have C2:=zaa (zcu w.heap.size (za CF) (za ST) (za HU1) (Nat.le_refl _) (za hn1) (za HO1) (by have h2:=za LV;omega) (za HU1).size);rw[za EC] at C2
    clear ho1 hg1)
 go_wp2_with fail
 refine hK.out _ _ ?_ (fun hHeld=>?_)
 ·try dsimp only
  first|exact za K4|exact za K3|exact za K2|exact za KB
 clear hK K;refine hP ?_;refine hO 16 (fun K hK=>?_);go_simp
 first
  |(have hV:U2=U2:=rfl
    clear hV;go_at_call 72
    refine(za C3).mono ?_;rintro e U3 ⟨q3,m3,c3,rfl,hn3,ho3,hg3⟩;have HU3:=zaa (zai (Nat.le_refl _) (za HO2) hg3 (za HU2).size (za HU2));have K4:=zaa (za KR _ (za HU3));have HO3:=zaa ho3
    clear ho3 hg3)
  |(go_at_call 73
    refine(za C2).mono ?_;rintro e U2 ⟨q2,m2,c2,rfl,hn2,ho2,hg2⟩;have HU2:=zaa (zai (Nat.le_refl _) (za HO1) hg2 (za HU1).size (za HU1));have K3:=zaa (za KR _ (za HU2));have HO2:=zaa ho2;have C3:=zaa (za2 w.heap.size (za hn2) (za HO2) m (by omega) (by have h1:=za CL;have h2:=za LV;rw[List.length_append];omega) (za HU2).size);unfold zf6 at C3
    clear ho2 hg2)
  |(go_at_call 72
    refine(za C1).mono ?_;rintro e U1 ⟨q1,m1,c1,rfl,hn1,ho1,hg1⟩;have HU1:=zaa (zai (Nat.le_refl _) (OwnB.ofNil _ _) hg1 (za D1).size (za D1));have K2:=zaa (za KR _ (za HU1));have HO1:=zaa ho1;have C2:=zaa (zcu w.heap.size (za CF) (za ST) (za HU1) (Nat.le_refl _) (za hn1) (za HO1) (by have h2:=za LV;omega) (za HU1).size);rw[za EC] at C2
    clear ho1 hg1)
 go_wp2_with fail
 refine hK.out _ _ ?_ (fun hHeld=>?_)
 ·try dsimp only
  first|exact za K4|exact za K3|exact za K2|exact za KB
 clear hK K;refine hP ?_;refine hT 17 ?_;refine wpAnyH_done (by kernel_rfl) ?_ _;clear C1 C2 C3 KB K2 K3 K4 hHeld D1 HO1 HO2 HU1 HU2 hn1 hn2;have LL:=zaa (show(zal v++zav cf++zal m).length≤110000000012 by have h1:=za LV;have h2:=za CL;have h3:=zap m (by omega);simp only[List.length_append];omega)
 go_wp2_with fail
 go_loopw [3,4] (fun b i wr=>∃ (j:Nat) (s:Option Addr) (n' c':Nat),j≤m∧b=.slice s n' c'∧i=.int .i64 (j:Int)∧Hid ((zal v++zav cf++zal m++(cl.take j).flatMap lsB).length=n')∧Hid (OwnB w.heap.size wr s c' (zal v++zav cf++zal m++(cl.take j).flatMap lsB))∧Hid (Below w.heap.size w wr)) (fun _ i _=>m - (intOf i).toNat)
 case atStart=>exact⟨0,q3,m3,c3,by omega,rfl,rfl,zaa (by simpa using za hn3),zaa (by simpa using za HO3),HU3⟩
 case round =>
  obtain⟨j,s,n',c',hj,rfl,rfl,hn,HO,HB⟩:=hrel;have e3:=(za KR _ (za HB)).2.2.2;by_cases hjm:j<m
  ·as_aux_lemma =>
   have y0:(0:Int)≤(j:Int):=by omega
   have y1:(j:Int)<(m:Int):=by omega
   have hjl:j<cl.length:=by rw[za HM];exact hjm
   obtain⟨g,rfl,hg1,q0,q1,q2,q3⟩:=(za RL).cell j hjl;have FT:=zaa (show zal v++zav cf++zal m++(cl.take (j+1)).flatMap lsB=zal v++zav cf++zal m++(cl.take j).flatMap lsB++lsB cl[j] by rw[zb5 lsB cl j hjl];simp only[List.append_assoc]);have LJ:=zaa (show(zal v++zav cf++zal m++(cl.take j).flatMap lsB).length≤110000100000 by have h1:=za LL;have h2:=za HL j;rw[List.length_append];omega);have hok:=za LI _ (List.getElem_mem hjl);generalize cl[j]=x at *;have hvb:=za HV;have o1:=hok.id;have o2:=hok.sq;have o3:=hok.er.le;have o4:=hok.vr;obtain⟨x1,x2,x3,x4⟩:=x;dsimp only at *;obtain⟨z1,rfl⟩:∃ z:Nat,x1=z:=⟨x1.toNat,by omega⟩
   obtain⟨z2,rfl⟩:∃ z:Nat,x2=z:=⟨x2.toNat,by omega⟩
   obtain⟨z3,rfl⟩:∃ z:Nat,x3=z:=⟨x3.toNat,by omega⟩
   obtain⟨z4,rfl⟩:∃ z:Nat,x4=z:=⟨x4.toNat,by omega⟩
   have KQ:=zaa (show ∀ W:World,Below w.heap.size w W→W.cell? ⟨g,j*4,none⟩=some (.int .i64 (z1:Int))∧W.cell? ⟨g,j*4+1,none⟩=some (.int .i64 (z2:Int))∧W.cell? ⟨g,j*4+2,none⟩=some (.int .i64 (z3:Int))∧W.cell? ⟨g,j*4+3,none⟩=some (.int .i64 (z4:Int)) from fun W hb=>⟨cell_later hb q0,cell_later hb q1,cell_later hb q2,cell_later hb q3⟩);have EL:=zaa (show lsB ⟨(z1:Int),(z2:Int),(z3:Int),(z4:Int)⟩=zal z1++(zal z2++(zal z3++zal z4)) from rfl);have N1:=zaa (zap z1 (by omega));have N2:=zaa (zap z2 (by omega));have N3:=zaa (zap z3 (by omega));generalize zal v++zav cf++zal m++(cl.take j).flatMap lsB=A at *;clear q0 q1 q2 q3 hok
   go_wp2_with fail
   clear e3;have D1:=zaa ((za HB).drew);have OD:=zaa ((za HO).later (show Below wr.heap.size wr wr.drew from(Below.refl _ _).drew));have C1:=zaa (za2 w.heap.size (za hn) (za OD) z1 (by omega) (by have h1:=za LJ;omega) (za D1).size);unfold zf6 at C1;have KF:=zaa (show ∀ W:World,Below w.heap.size w W→W.cell? ⟨r,3,none⟩=some (.slice (some ⟨g,0,none⟩) m lc)∧W.cell? ⟨g,j*4,none⟩=some (.int .i64 (z1:Int))∧W.cell? ⟨g,j*4+1,none⟩=some (.int .i64 (z2:Int)) from fun W hb=>⟨(za KR W hb).2.2.2,(za KQ W hb).1,(za KQ W hb).2.1⟩);have KB:=zaa (za KF _ (za D1));refine wp_region_held_drew (S:=fun W=>W.cell? ⟨r,3,none⟩=some (.slice (some ⟨g,0,none⟩) m lc)∧W.cell? ⟨g,j*4,none⟩=some (.int .i64 (z1:Int))∧W.cell? ⟨g,j*4+1,none⟩=some (.int .i64 (z2:Int))) (by kernel_rfl) ?_ (fun hHeld=>?_)
   ·try dsimp only
    first|exact za K3|exact za K2|exact za KB
   refine hT 0 ?_;refine hT 1 ?_;refine hT 2 ?_;refine hT 3 ?_;refine hT 4 ?_;refine hT 5 ?_;refine hT 6 ?_;refine hT 7 ?_;refine hT 8 ?_;refine hT 10 ?_;refine hT 11 ?_;refine hT 12 ?_;refine hT 13 ?_;refine hT 14 ?_;refine hT 15 ?_;refine hT 16 ?_;refine hT 17 ?_;refine hO 9 (fun K hK=>?_);go_simp
   first
    |(have hV:U1=U1:=rfl
      clear hV;go_at_call 72
      refine(za C2).mono ?_;rintro e U2 ⟨q2,m2,c2,rfl,hn2,ho2,hg2⟩;have HU2:=zaa (zai (Nat.le_refl _) (za HO1) hg2 (za HU1).size (za HU1));have K3:=zaa (za KF _ (za HU2));have HO2:=zaa ho2
      clear ho2 hg2)
    |(go_at_call 72
      refine(za C1).mono ?_;rintro e U1 ⟨q1,m1,c1,rfl,hn1,ho1,hg1⟩;have HU1:=zaa (zai (Nat.le_refl _) (za OD) hg1 (za D1).size (za D1));have K2:=zaa (za KF _ (za HU1));have HO1:=zaa ho1;have C2:=zaa (za2 w.heap.size (za hn1) (za HO1) z2 (by omega) (by have h1:=za LJ;have h2:=za N1;rw[List.length_append];omega) (za HU1).size);unfold zf6 at C2
      clear ho1 hg1)
   go_wp2_with fail
   refine hK.out _ _ ?_ (fun hHeld=>?_)
   ·try dsimp only
    first|exact za K3|exact za K2|exact za KB
   clear hK K;refine hP ?_;refine hO 18 (fun K hK=>?_);go_simp
   first
    |(have hV:U1=U1:=rfl
      clear hV;go_at_call 72
      refine(za C2).mono ?_;rintro e U2 ⟨q2,m2,c2,rfl,hn2,ho2,hg2⟩;have HU2:=zaa (zai (Nat.le_refl _) (za HO1) hg2 (za HU1).size (za HU1));have K3:=zaa (za KF _ (za HU2));have HO2:=zaa ho2
      clear ho2 hg2)
    |(go_at_call 72
      refine(za C1).mono ?_;rintro e U1 ⟨q1,m1,c1,rfl,hn1,ho1,hg1⟩;have HU1:=zaa (zai (Nat.le_refl _) (za OD) hg1 (za D1).size (za D1));have K2:=zaa (za KF _ (za HU1));have HO1:=zaa ho1;have C2:=zaa (za2 w.heap.size (za hn1) (za HO1) z2 (by omega) (by have h1:=za LJ;have h2:=za N1;rw[List.length_append];omega) (za HU1).size);unfold zf6 at C2
      clear ho1 hg1)
   go_wp2_with fail
   refine hK.out _ _ ?_ (fun hHeld=>?_)
   ·try dsimp only
    first|exact za K3|exact za K2|exact za KB
   clear hK K;refine hP ?_;refine hT 19 ?_;refine wpAnyH_done (by kernel_rfl) ?_ _;clear C1 C2 KB K2 K3 hHeld KF HO1 HU1 hn1
   go_wp2_with fail
   have D1:=zaa ((za HU2).drew);have OD:=zaa ((za HO2).later (show Below U2.heap.size U2 U2.drew from(Below.refl _ _).drew));have C1:=zaa (za2 w.heap.size (za hn2) (za OD) z3 (by omega) (by have h1:=za LJ;have h2:=za N1;have h3:=za N2;simp only[List.length_append];omega) (za D1).size);unfold zf6 at C1;have KF:=zaa (show ∀ W:World,Below w.heap.size w W→W.cell? ⟨r,3,none⟩=some (.slice (some ⟨g,0,none⟩) m lc)∧W.cell? ⟨g,j*4+2,none⟩=some (.int .i64 (z3:Int))∧W.cell? ⟨g,j*4+3,none⟩=some (.int .i64 (z4:Int)) from fun W hb=>⟨(za KR W hb).2.2.2,(za KQ W hb).2.2.1,(za KQ W hb).2.2.2⟩);have KB:=zaa (za KF _ (za D1));refine wp_region_held_drew (S:=fun W=>W.cell? ⟨r,3,none⟩=some (.slice (some ⟨g,0,none⟩) m lc)∧W.cell? ⟨g,j*4+2,none⟩=some (.int .i64 (z3:Int))∧W.cell? ⟨g,j*4+3,none⟩=some (.int .i64 (z4:Int))) (by kernel_rfl) ?_ (fun hHeld=>?_)
   ·try dsimp only
    first|exact za K3|exact za K2|exact za KB
   refine hT 0 ?_;refine hT 1 ?_;refine hT 2 ?_;refine hT 3 ?_;refine hT 4 ?_;refine hT 5 ?_;refine hT 6 ?_;refine hT 7 ?_;refine hT 8 ?_;refine hT 9 ?_;refine hT 11 ?_;refine hT 12 ?_;refine hT 13 ?_;refine hT 14 ?_;refine hT 15 ?_;refine hT 16 ?_;refine hT 17 ?_;refine hT 18 ?_;refine hT 19 ?_;refine hO 10 (fun K hK=>?_);go_simp
   first
    |(have hV:U1=U1:=rfl
      clear hV;go_at_call 72
      refine(za C2).mono ?_;rintro e U4 ⟨q4,m4,c4,rfl,hn4,ho4,hg4⟩;have HU4:=zaa (zai (Nat.le_refl _) (za HO1) hg4 (za HU1).size (za HU1));have K3:=zaa (za KF _ (za HU4));have HO4:=zaa ho4
      clear ho4 hg4)
    |(go_at_call 72
      refine(za C1).mono ?_;rintro e U1 ⟨q1,m1,c1,rfl,hn1,ho1,hg1⟩;have HU1:=zaa (zai (Nat.le_refl _) (za OD) hg1 (za D1).size (za D1));have K2:=zaa (za KF _ (za HU1));have HO1:=zaa ho1;have C2:=zaa (za2 w.heap.size (za hn1) (za HO1) z4 (by omega) (by have h1:=za LJ;have h2:=za N1;have h3:=za N2;have h4:=za N3;simp only[List.length_append];omega) (za HU1).size);unfold zf6 at C2
      clear ho1 hg1)
   go_wp2_with fail
   refine hK.out _ _ ?_ (fun hHeld=>?_)
   ·try dsimp only
    first|exact za K3|exact za K2|exact za KB
   clear hK K;refine hP ?_;refine hO 20 (fun K hK=>?_);go_simp
   first
    |(have hV:U1=U1:=rfl
      clear hV;go_at_call 72
      refine(za C2).mono ?_;rintro e U4 ⟨q4,m4,c4,rfl,hn4,ho4,hg4⟩;have HU4:=zaa (zai (Nat.le_refl _) (za HO1) hg4 (za HU1).size (za HU1));have K3:=zaa (za KF _ (za HU4));have HO4:=zaa ho4
      clear ho4 hg4)
    |(go_at_call 72
      refine(za C1).mono ?_;rintro e U1 ⟨q1,m1,c1,rfl,hn1,ho1,hg1⟩;have HU1:=zaa (zai (Nat.le_refl _) (za OD) hg1 (za D1).size (za D1));have K2:=zaa (za KF _ (za HU1));have HO1:=zaa ho1;have C2:=zaa (za2 w.heap.size (za hn1) (za HO1) z4 (by omega) (by have h1:=za LJ;have h2:=za N1;have h3:=za N2;have h4:=za N3;simp only[List.length_append];omega) (za HU1).size);unfold zf6 at C2
      clear ho1 hg1)
   go_wp2_with fail
   refine hK.out _ _ ?_ (fun hHeld=>?_)
   ·try dsimp only
    first|exact za K3|exact za K2|exact za KB
   clear hK K;refine hP ?_;refine hT 21 ?_;refine wpAnyH_done (by kernel_rfl) ?_ _;clear C1 C2 KB K2 K3 hHeld KF;rw[show A++zal z1++zal z2++zal z3++zal z4=A++lsB ⟨(z1:Int),(z2:Int),(z3:Int),(z4:Int)⟩ by rw[za EL];simp only[List.append_assoc]] at hn4 HO4
   go_wp2
   exact⟨⟨j+1,q4,m4,c4,by omega,rfl,by go_num,zaa (by rw[za FT];exact za hn4),zaa (by rw[za FT];exact za HO4),HU4⟩,by simp[intOf];omega⟩
  ·as_aux_lemma =>
   have hjj:¬ (j:Int)<(m:Int):=by omega
   have E:=zaa (show zal v++zav cf++zal m++(cl.take j).flatMap lsB=PS by rw[za EP,List.take_of_length_le (by rw[za HM];omega)]);rw[za E] at hn HO
   go_wp2
   go_ret
   exact⟨s,n',c',rfl,hn,za HO,za HB⟩
theorem zls {w:World} {h:StH} {x:Sm} (s:StAt w h x) (id:Int) (hid:-9223372036854775808≤id∧id≤9223372036854775807) :
  Calls Tryz.prog 17 #[.pointer (some ⟨h.S,0,none⟩),.int .i64 id] w fun e w'=>e=.returned (.tuple #[.int .i64 ((za9 lid id x.cl).getD ⟨id,0,0,0⟩).seq,.agg #[.int .i64 ((za9 lid id x.cl).getD ⟨id,0,0,0⟩).e,.int .i64 ((za9 lid id x.cl).getD ⟨id,0,0,0⟩).ver]])∧Below w.heap.size w w':=by
 have LK:=zaa (fun (W:World) (hb:Below w.heap.size w W)=>ztk (s.later hb) id hid);have b1:=zaa (show Below w.heap.size w (w.alloc (.cells #[.int .i64 0,.int .i64 0] 38)) from(Below.refl _ _).alloc (Nat.le_refl _) _);have X1:=zaa (zad w (.cells #[.int .i64 0,.int .i64 0] 38));have S1:=zaa (show(w.alloc (.cells #[.int .i64 0,.int .i64 0] 38)).heap.size=w.heap.size+1 by simp);have c3:=cell_later (za b1) s.cell.2.2.2;have lk:=za LK _ (za b1);generalize (za9 lid id x.cl).getD ⟨id,0,0,0⟩=t at *;obtain⟨ti,tseq,te,tver⟩:=t;simp only[lsV] at LK lk;dsimp only;clear s;go_enter Tryz.func17,Tryz.ntmps17
 go_wp2_with fail
 have bZ:=zaa (show Below w.heap.size w ((w.alloc (.cells #[.int .i64 0,.int .i64 0] 38)).alloc (.cells #[.int .i64 tseq,.int .i64 te,.int .i64 tver] 74)) from(za b1).alloc (za b1).size _);have XR:=zaa (show((w.alloc (.cells #[.int .i64 0,.int .i64 0] 38)).alloc (.cells #[.int .i64 tseq,.int .i64 te,.int .i64 tver] 74)).heap[w.heap.size]? = some (.cells #[.int .i64 0,.int .i64 0] 38 (0,0)) by rw[Below.heap_alloc _ _ _ (by simp)];exact za X1);have XL:=zaa (show((w.alloc (.cells #[.int .i64 0,.int .i64 0] 38)).alloc (.cells #[.int .i64 tseq,.int .i64 te,.int .i64 tver] 74)).heap[w.heap.size+1]? = some (.cells #[.int .i64 tseq,.int .i64 te,.int .i64 tver] 74 (0,0)) by rw[← za S1];exact zad _ _);generalize (w.alloc (.cells #[.int .i64 0,.int .i64 0] 38)).alloc (.cells #[.int .i64 tseq,.int .i64 te,.int .i64 tver] 74)=V at *;clear c3 lk LK b1 X1 S1;have KS:=zaa (show V.drew.cell? ⟨w.heap.size+1,0,none⟩=some (.int .i64 tseq)∧V.drew.cell? ⟨w.heap.size+1,1,none⟩=some (.int .i64 te)∧V.drew.cell? ⟨w.heap.size+1,2,none⟩=some (.int .i64 tver) from⟨zab (za XL) 0 _ rfl,zab (za XL) 1 _ rfl,zab (za XL) 2 _ rfl⟩);refine wp_region_held_drew (S:=fun W=>W.cell? ⟨w.heap.size+1,0,none⟩=some (.int .i64 tseq)∧W.cell? ⟨w.heap.size+1,1,none⟩=some (.int .i64 te)∧W.cell? ⟨w.heap.size+1,2,none⟩=some (.int .i64 tver)) (by kernel_rfl) ?_ (fun hHeld=>?_)
 ·try dsimp only
  first|exact za KS|exact za KS2
 refine hT 0 ?_;refine hT 1 ?_;refine hT 2 ?_;refine hT 3 ?_;refine hT 4 ?_;refine wpAnyH_ready (rs:=[5]) (by kernel_rfl) (by simp) ?_;refine AllReadyH.cons rfl (fun K hK=>?_) ?_
 ·have z0:=zab (za XR) 0 (.int .i64 0) rfl;have z1:=zab (za XR) 1 (.int .i64 0) rfl;have f0:V.frozen? ⟨w.heap.size,0,none⟩=false:=by simp[World.frozen?,za XR]
  have f1:V.frozen? ⟨w.heap.size,1,none⟩=false:=by simp[World.frozen?,za XR]
  have A1:=zaa (show((V.setCell ⟨w.heap.size,0,none⟩ (.int .i64 te)).setCell ⟨w.heap.size,1,none⟩ (.int .i64 tver)).drew.heap[w.heap.size]? = some (.cells #[.int .i64 te,.int .i64 tver] 38 (0,0)) from zj0 (zj0 (za XR) 0 (.int .i64 te) #[.int .i64 te,.int .i64 0] rfl) 1 (.int .i64 tver) #[.int .i64 te,.int .i64 tver] rfl);have G1:=zaa (show V.grownBy ((V.setCell ⟨w.heap.size,0,none⟩ (.int .i64 te)).setCell ⟨w.heap.size,1,none⟩ (.int .i64 tver)).drew (some w.heap.size) from zag (zaq (zak V w.heap.size 0 (.int .i64 te)) (zak _ w.heap.size 1 (.int .i64 tver))) (Below.refl _ _).drew);have kl:=(za G1).block (w.heap.size+1) (Array.getElem?_eq_some_iff.1 (za XL)).1 (fun e=>by have:=Option.some.inj e;omega);have KS2:=zaa (show((V.setCell ⟨w.heap.size,0,none⟩ (.int .i64 te)).setCell ⟨w.heap.size,1,none⟩ (.int .i64 tver)).drew.cell? ⟨w.heap.size+1,0,none⟩=some (.int .i64 tseq)∧((V.setCell ⟨w.heap.size,0,none⟩ (.int .i64 te)).setCell ⟨w.heap.size,1,none⟩ (.int .i64 tver)).drew.cell? ⟨w.heap.size+1,1,none⟩=some (.int .i64 te)∧((V.setCell ⟨w.heap.size,0,none⟩ (.int .i64 te)).setCell ⟨w.heap.size,1,none⟩ (.int .i64 tver)).drew.cell? ⟨w.heap.size+1,2,none⟩=some (.int .i64 tver) from⟨(World.cell?_of_block kl).trans (za KS).1,(World.cell?_of_block kl).trans (za KS).2.1,(World.cell?_of_block kl).trans (za KS).2.2⟩);clear kl;go_simp
  clear z0 z1 f0 f1;refine hK.out _ _ ?_ (fun hHeld=>?_)
  ·try dsimp only
   first|exact za KS|exact za KS2
  clear hK K;refine hP ?_;refine wpAnyH_done (by kernel_rfl) ?_ _;generalize ((V.setCell ⟨w.heap.size,0,none⟩ (.int .i64 te)).setCell ⟨w.heap.size,1,none⟩ (.int .i64 tver)).drew=W9 at *;clear hHeld KS KS2
  go_wp2
  have g0:=zab (za A1) 0 (.int .i64 te) rfl;have g1:=zab (za A1) 1 (.int .i64 tver) rfl;refine bodyPost_ret (v:=.tuple #[.int .i64 tseq,.agg #[.int .i64 te,.int .i64 tver]]) (by simp[results,Tryz.results17,go_sem,g0,g1]) rfl ⟨rfl,(za bZ).grown (za G1) (za bZ).size (fun g e=>by have:=Option.some.inj e;omega)⟩
 exact AllReadyH.nil
theorem zud (a b c d:Int) (w:World):(Op.equal 38 (.agg #[.int .i64 a,.int .i64 b]) (.agg #[.int .i64 c,.int .i64 d])).run Tryz.prog w=.ok (a==c&&b==d) w:=by
 have u3:=Tryz.underlying3;have u5:=Tryz.underlying35;have a3:=Tryz.isAgg3;have a5:=Tryz.isAgg35;have z3:=Tryz.sizeOf3;have z5:=Tryz.sizeOf35;have hS:Tryz.prog.underlying 38=some (.struct (Tryz.prog.fieldsOf 38)):=by kernel_rfl
 have hp:Tryz.prog.stoodInHeld 38=false:=by kernel_rfl
 have:(Op.equalIn 10000 38 (.agg #[.int .i64 a,.int .i64 b]) (.agg #[.int .i64 c,.int .i64 d])).run Tryz.prog w=.ok (a==c&&b==d) w:=by
  rw[show(10000:Nat)=9999+1 from rfl,run_equalIn_agg w 9999 38 _ _ hS hp];simp only[Program.fieldsOf,Tryz.underlying38];go_simp
  by_cases h1:a=c <;> by_cases h2:b=d <;> simp[h1,h2]
 exact this
theorem neRes (a b:Int) (W:World):(binOp .neq 38 (.agg #[.int .i64 a,.int .i64 b]) (.agg #[.int .i64 a,.int .i64 b])).run Tryz.prog W=.ok (.bool false) W:=by
 simp[go_sem,binOp,zud]
def PoB (w:World) (h:StH) (z:Sm):Prop:=∃ x,StAt w h x∧SmE x z∧SmOk x∧SmL x∧x.ver≤1099511627776
def RoB (w:World) (r:Nat) (z:Sm):Prop:=∃ x k,RtAt w r k x∧SmE x z∧SmB x∧SmL x
theorem PoB.later {w w':World} {h:StH} {z:Sm} (p:PoB w h z) (hb:Below w.heap.size w w'):PoB w' h z:=by
 obtain⟨x,h1,h2⟩:=p;exact⟨x,h1.later hb,h2⟩
theorem RoB.later {w w':World} {r:Nat} {z:Sm} (p:RoB w r z) (hb:Below w.heap.size w w'):RoB w' r z:=by
 obtain⟨x,k,h1,h2⟩:=p;exact⟨x,k,h1.later hb,h2⟩
theorem PoB.conf {w:World} {h:StH} {z:Sm} (p:PoB w h z) :
  Calls Tryz.prog 19 #[.pointer (some ⟨h.S,0,none⟩)] w fun e w'=>∃ k,e=.returned (zcw z.cf k)∧CfAt w' z.cf k∧Below w.heap.size w w'∧(∃ l,OwnPq w.heap.size w' k.pa k.pc l∧l.map Pq.po=z.ps.map Pq.po)∧zer w.heap.size w' k.ra k.rc z.rs:=by
 obtain⟨x,h1,h2,h3,h4,h5⟩:=p;have:=zdn h1 h3;rw[h2.cf,h2.rs,h2.ps] at this;exact this
theorem PoB.put {w:World} {h:StH} {z:Sm} (p:PoB w h z) :
  Calls Tryz.prog 22 #[.pointer (some ⟨h.S,0,none⟩)] w fun e w'=>∃ sp n c,e=.returned (.slice sp n c)∧Hid ((zjn z).length=n)∧OwnB w.heap.size w' sp c (zjn z)∧Below w.heap.size w w':=by
 obtain⟨x,h1,h2,h3,h4,h5⟩:=p;have:=zng h1 h3 h4 h5;rw[h2.put] at this;exact this
theorem PoB.seen {w:World} {h:StH} {z:Sm} (p:PoB w h z) (id:Int) (hid:-9223372036854775808≤id∧id≤9223372036854775807) :
  Calls Tryz.prog 17 #[.pointer (some ⟨h.S,0,none⟩),.int .i64 id] w fun e w'=>e=.returned (.tuple #[.int .i64 ((za9 lid id z.cl).getD ⟨id,0,0,0⟩).seq,.agg #[.int .i64 ((za9 lid id z.cl).getD ⟨id,0,0,0⟩).e,.int .i64 ((za9 lid id z.cl).getD ⟨id,0,0,0⟩).ver]])∧Below w.heap.size w w':=by
 obtain⟨x,h1,h2,h3,h4,h5⟩:=p;have:=zls h1 id hid;rw[h2.cl] at this;exact this
theorem RoB.conf {w:World} {r:Nat} {z:Sm} (p:RoB w r z) :
  Calls Tryz.prog 33 #[.pointer (some ⟨r,0,none⟩)] w fun e w'=>∃ k,e=.returned (zcw z.cf k)∧CfAt w' z.cf k∧Below w.heap.size w w':=by
 obtain⟨x,k,h1,h2,h3,h4⟩:=p;have:=zlt h1 h3;rw[h2.cf] at this;exact this
theorem RoB.put {w:World} {r:Nat} {z:Sm} (p:RoB w r z) :
  Calls Tryz.prog 34 #[.pointer (some ⟨r,0,none⟩)] w fun e w'=>∃ sp n c,e=.returned (.slice sp n c)∧Hid ((zjn z).length=n)∧OwnB w.heap.size w' sp c (zjn z)∧Below w.heap.size w w':=by
 obtain⟨x,k,h1,h2,h3,h4⟩:=p;have:=zlw h1 h3 h4 h3.vr.2;rw[h2.put] at this;exact this
theorem RoB.seen {w:World} {r:Nat} {z:Sm} (p:RoB w r z) (id:Int) :
  Calls Tryz.prog 35 #[.pointer (some ⟨r,0,none⟩),.int .i64 id] w fun e w'=>e=.returned (.tuple #[.int .i64 ((za9 lid id z.cl).getD ⟨id,0,0,0⟩).seq,.agg #[.int .i64 ((za9 lid id z.cl).getD ⟨id,0,0,0⟩).e,.int .i64 ((za9 lid id z.cl).getD ⟨id,0,0,0⟩).ver]])∧Below w.heap.size w w':=by
 obtain⟨x,k,h1,h2,h3,h4⟩:=p;have:=zlx h1.lw rfl (by have:=h3.cn;omega) h1.hd id;rw[h2.cl] at this;exact this
theorem zl1 {w:World} {h:StH} {r:Nat} {z:Sm} (p:PoB w h z) (q:RoB w r z) :
  Calls Tryz.prog 14 #[.pointer (some ⟨h.S,0,none⟩),.pointer (some ⟨r,0,none⟩)] w fun e w'=>e=.returned (.bool true)∧Below w.heap.size w w':=by
 have FC:=zaa (fun (W:World) (hb:Below w.heap.size w W)=>(p.later hb).conf);have FP:=zaa (fun (W:World) (hb:Below w.heap.size w W)=>(p.later hb).put);have FS:=zaa (fun (W:World) (hb:Below w.heap.size w W) (k:Nat) (hk:k≤40)=>(p.later hb).seen ((k:Int) - 1) (by omega));have GC:=zaa (fun (W:World) (hb:Below w.heap.size w W)=>(q.later hb).conf);have GP:=zaa (fun (W:World) (hb:Below w.heap.size w W)=>(q.later hb).put);have GS:=zaa (fun (W:World) (hb:Below w.heap.size w W) (k:Nat)=>(q.later hb).seen ((k:Int) - 1));generalize z.cf=cf at *;generalize zjn z=PS at *;clear p q;have BD:=zaa (show Below w.heap.size w w.drew from(Below.refl _ _).drew);go_enter Tryz.func14,Tryz.ntmps14
 go_upto_block 0 with fail
 go_cut [24] (fun v wc=>v=.bool false∧Hid (Below w.heap.size w wc))
 case first =>
  go_wp2_with fail
  refine wp_region_held_drew (S:=fun W=>True) (by kernel_rfl) ?_ (fun hHeld=>?_)
  ·try dsimp only
   all_goals trivial
  refine hT 0 ?_;refine hT 2 ?_;refine wpAnyH_ready (rs:=[1]) (by kernel_rfl) (by simp) ?_;refine AllReadyH.cons rfl (fun K hK=>?_) ?_
  ·go_simp
   go_at_call 19
   refine(za FC _ (za BD)).mono ?_;rintro e U1 ⟨k1,rfl,cf1,u1,_,_⟩;have BD:=zaa ((za BD).trans (u1.mono (za BD).size));have CF1:=zaa cf1;clear u1 cf1
   go_wp2_with fail
   refine hK.out _ _ ?_ (fun hHeld=>?_)
   ·try dsimp only
    all_goals trivial
   clear hK K;refine hP ?_;refine wpAnyH_ready (rs:=[3]) (by kernel_rfl) (by simp) ?_;refine AllReadyH.cons rfl (fun K hK=>?_) ?_
   ·go_simp
    go_at_call 33
    refine(za GC _ (za BD)).mono ?_;rintro e U2 ⟨k2,rfl,cf2,u2⟩;have SC:=zaa (znt ((za CF1).later u2) cf2);have BD:=zaa ((za BD).trans (u2.mono (za BD).size));clear u2 cf2
    go_wp2_with fail
    refine hK.out _ _ ?_ (fun hHeld=>?_)
    ·try dsimp only
     all_goals trivial
    clear hK K;refine hP ?_;refine wpAnyH_ready (rs:=[4]) (by kernel_rfl) (by simp) ?_;refine AllReadyH.cons rfl (fun K hK=>?_) ?_
    ·go_simp
     go_at_call 21
     refine(za SC).mono ?_;rintro e U3 ⟨rfl,u3⟩;have BD:=zaa ((za BD).trans (u3.mono (za BD).size));clear u3
     go_wp2_with fail
     refine hK.out _ _ ?_ (fun hHeld=>?_)
     ·try dsimp only
      all_goals trivial
     clear hK K;refine hP ?_;refine hT 5 ?_;refine hT 6 ?_;refine hT 7 ?_;refine hT 10 ?_;refine wpAnyH_ready (rs:=[8]) (by kernel_rfl) (by simp) ?_;refine AllReadyH.cons rfl (fun K hK=>?_) ?_
     ·go_simp
      go_at_call 22
      refine(za FP _ (za BD)).mono ?_;rintro e U4 ⟨sp1,n1,c1,rfl,hn1,ho1,u4⟩;have BD:=zaa ((za BD).trans (u4.mono (za BD).size));have P1:=zaa ho1.bytes;clear u4 ho1
      go_wp2_with fail
      refine hK.out _ _ ?_ (fun hHeld=>?_)
      ·try dsimp only
       all_goals trivial
      clear hK K;refine hP ?_;refine wpAnyH_ready (rs:=[9,11]) (by kernel_rfl) (by simp) ?_;refine AllReadyH.cons rfl (fun K hK=>?_) ?_
      ·have s1:=za3 n1 c1 (za hn1) (za P1);go_simp
       clear s1;refine hK.out _ _ ?_ (fun hHeld=>?_)
       ·try dsimp only
        all_goals trivial
       clear hK K;refine hP ?_;refine wpAnyH_ready (rs:=[11]) (by kernel_rfl) (by simp) ?_;refine AllReadyH.cons rfl (fun K hK=>?_) ?_
       ·go_simp
        go_at_call 34
        refine(za GP _ (za BD)).mono ?_;rintro e U5 ⟨sp2,n2,c2,rfl,hn2,ho2,u5⟩;have BD:=zaa ((za BD).trans (u5.mono (za BD).size));have P1:=zaa ((za P1).later u5);have P2:=zaa ho2.bytes;clear u5 ho2
        go_wp2_with fail
        refine hK.out _ _ ?_ (fun hHeld=>?_)
        ·try dsimp only
         all_goals trivial
        clear hK K;refine hP ?_;refine wpAnyH_ready (rs:=[12]) (by kernel_rfl) (by simp) ?_;refine AllReadyH.cons rfl (fun K hK=>?_) ?_
        ·have s2:=za3 n2 c2 (za hn2) (za P2);go_simp
         clear s2;refine hK.out _ _ ?_ (fun hHeld=>?_)
         ·try dsimp only
          all_goals trivial
         clear hK K;refine hP ?_;refine hT 13 ?_;refine hT 14 ?_;refine wpAnyH_done (by kernel_rfl) ?_ _
         go_wp2_with fail
         go_meet
         case rel=>exact⟨rfl,BD⟩
        exact AllReadyH.nil
       exact AllReadyH.nil
      refine AllReadyH.cons rfl (fun K hK=>?_) ?_
      ·go_simp
       go_at_call 34
       refine(za GP _ (za BD)).mono ?_;rintro e U5 ⟨sp2,n2,c2,rfl,hn2,ho2,u5⟩;have BD:=zaa ((za BD).trans (u5.mono (za BD).size));have P1:=zaa ((za P1).later u5);have P2:=zaa ho2.bytes;clear u5 ho2
       go_wp2_with fail
       refine hK.out _ _ ?_ (fun hHeld=>?_)
       ·try dsimp only
        all_goals trivial
       clear hK K;refine hP ?_;refine wpAnyH_ready (rs:=[9,12]) (by kernel_rfl) (by simp) ?_;refine AllReadyH.cons rfl (fun K hK=>?_) ?_
       ·have s1:=za3 n1 c1 (za hn1) (za P1);go_simp
        clear s1;refine hK.out _ _ ?_ (fun hHeld=>?_)
        ·try dsimp only
         all_goals trivial
        clear hK K;refine hP ?_;refine wpAnyH_ready (rs:=[12]) (by kernel_rfl) (by simp) ?_;refine AllReadyH.cons rfl (fun K hK=>?_) ?_
        ·have s2:=za3 n2 c2 (za hn2) (za P2);go_simp
         clear s2;refine hK.out _ _ ?_ (fun hHeld=>?_)
         ·try dsimp only
          all_goals trivial
         clear hK K;refine hP ?_;refine hT 13 ?_;refine hT 14 ?_;refine wpAnyH_done (by kernel_rfl) ?_ _
         go_wp2_with fail
         go_meet
         case rel=>exact⟨rfl,BD⟩
        exact AllReadyH.nil
       refine AllReadyH.cons rfl (fun K hK=>?_) ?_
       ·have s2:=za3 n2 c2 (za hn2) (za P2);go_simp
        clear s2;refine hK.out _ _ ?_ (fun hHeld=>?_)
        ·try dsimp only
         all_goals trivial
        clear hK K;refine hP ?_;refine wpAnyH_ready (rs:=[9]) (by kernel_rfl) (by simp) ?_;refine AllReadyH.cons rfl (fun K hK=>?_) ?_
        ·have s1:=za3 n1 c1 (za hn1) (za P1);go_simp
         clear s1;refine hK.out _ _ ?_ (fun hHeld=>?_)
         ·try dsimp only
          all_goals trivial
         clear hK K;refine hP ?_;refine hT 13 ?_;refine hT 14 ?_;refine wpAnyH_done (by kernel_rfl) ?_ _
         go_wp2_with fail
         go_meet
         case rel=>exact⟨rfl,BD⟩
        exact AllReadyH.nil
       exact AllReadyH.nil
      exact AllReadyH.nil
     exact AllReadyH.nil
    exact AllReadyH.nil
   exact AllReadyH.nil
  exact AllReadyH.nil
 case rest =>
  obtain⟨rfl,BD⟩:=hcut
  go_wp2_with fail
  go_loopw [5,6,7,8,9] (fun k _ _ _ _ wr=>∃ t:Nat,t≤35∧k=.int .i64 ((t:Int) - 1)∧Hid (Below w.heap.size w wr)) (fun k _ _ _ _ _=>36 - ((intOf k)+1).toNat)
  case atStart=>exact⟨0,by omega,rfl,BD⟩
  case round =>
   obtain⟨t,ht,rfl,BB⟩:=hrel;by_cases htm:t<35
   ·as_aux_lemma =>
    have y1:(t:Int) - 1≤33:=by omega
    have C1:=zaa (za FS wr (za BB) t (by omega));have HG:=zaa (za GS);generalize hid:(za9 lid ((t:Int) - 1) z.cl).getD ⟨(t:Int) - 1,0,0,0⟩=tl at *;have HI:=zaa hid;clear hid;obtain⟨ti,tseq,te,tver⟩:=tl;dsimp only at C1
    go_wp2_with fail
    refine(za C1).mono ?_;rintro e U1 ⟨rfl,u1⟩;have b1:=zaa ((za BB).trans (u1.mono (za BB).size));have b2:=zaa (show Below U1.heap.size U1 (U1.alloc (.cells #[.int .i64 te,.int .i64 tver] 38)) from(Below.refl _ _).alloc (Nat.le_refl _) _);have X2:=zaa (zad U1 (.cells #[.int .i64 te,.int .i64 tver] 38));have b3:=zaa ((za b1).trans ((za b2).mono (za b1).size));have C2:=zaa (za HG _ (za b3) t);rw[za HI] at C2;dsimp only at C2;clear u1 C1
    go_wp2_with fail
    refine(za C2).mono ?_;rintro e U3 ⟨rfl,u3⟩;have b4:=zaa ((za b3).trans (u3.mono (za b3).size));have b5:=zaa (show Below U3.heap.size U3 (U3.alloc (.cells #[.int .i64 te,.int .i64 tver] 38)) from(Below.refl _ _).alloc (Nat.le_refl _) _);have X5:=zac (za b5) (zac u3 (za X2));have X4:=zad U3 (.cells #[.int .i64 te,.int .i64 tver] 38);have b6:=zaa ((za b4).trans ((za b5).mono (za b4).size));have e0:=zab X5 0 (.int .i64 te) rfl;have e1:=zab X5 1 (.int .i64 tver) rfl;have g0:=zab X4 0 (.int .i64 te) rfl;have g1:=zab X4 1 (.int .i64 tver) rfl;have NE:=neRes te tver;have hwr:IntKind.i64.wrap ((t:Int) - 1+1)=(t:Int):=by rw[IntKind.wrap_i64];omega
    clear u3 C2 X4 X5
    go_wp2
    exact⟨⟨t+1,by omega,congrArg (Value.int .i64) (by omega),b6⟩,by simp[intOf];omega⟩
   ·as_aux_lemma =>
    have y1:¬ (t:Int) - 1≤33:=by omega
    go_wp2
    go_ret
    exact⟨rfl,za BB⟩
end
section
open Go.ChangeShapes Go.WideShapes Go.ChangeAt Go.RowKit Go.Maps
section
variable {κ α:Type} [Kord κ]
end
theorem SmE.smL {x y:Sm} (h:SmE x y) (i:SmL y):SmL x:=⟨by rw[h.ver];exact i.vr,by rw[h.cl,h.ver];exact i.cl,fun p hp=>by
 have hm:p.po∈y.ps.map Pq.po:=by rw[← h.ps];exact List.mem_map.2 ⟨p,hp,rfl⟩
 obtain⟨q,hq,e⟩:=List.mem_map.1 hm;have:=i.pv q hq;rw[e] at this
 exact this,by rw[h.rs];exact i.rv⟩
end
end Go.Proofs.YtjcjleaicjhpeaaGreatDoor
