/- Conf: the document's config, as bytes. -/
import Derived.Test.YtjcjleaicjhpeaaGreatDoorB16
import Derived.Test.YtjcjleaicjhpeaaGreatDoorB12
import Derived.Test.YtjcjleaicjhpeaaGreatDoorB07
import Derived.Test.YtjcjleaicjhpeaaGreatDoorB09
import Derived.Test.YtjcjleaicjhpeaaGreatDoorB15
set_option linter.unusedVariables false
set_option maxRecDepth 20000
set_option maxHeartbeats 16000000
namespace Go.Proofs.YtjcjleaicjhpeaaGreatDoor
section
open Go.ChangeShapes Go.WideShapes Go.ChangeAt Go.RowKit
theorem zcu (base:Nat) {w0 w:World} {e:Cf} {h:CfH} (hC:CfAt w0 e h) (hS:SmallT e) (h0:Below w0.heap.size w0 w) (hb0:w0.heap.size≤base) {sp:Option Addr} {n0 c:Nat} {l:List Nat} (hn0:l.length=n0) (hown:OwnB base w sp c l)
  (hsz:l.length≤1000000) (hbase:base≤w.heap.size) :
  Calls Tryz.prog 73 #[.slice sp n0 c,zcw e h] w fun r w'=>∃ sp' n' c',r=.returned (.slice sp' n' c')∧Hid ((l++zav e).length=n')∧OwnB base w' sp' c' (l++zav e)∧Grew w sp w' sp':=by
 have HP:=zaa hC.pos;have HR:=zaa hC.rts;have EB:=zaa (show zav e=zal e.ps.length++(e.ps.flatMap za7++(zal e.rs.length++e.rs.flatMap zaw)) from rfl);have SP:=zaa hS.ps;have SR:=zaa hS.rs;have hpn:=hS.pn;have hrn:=hS.rn;unfold zcw;obtain⟨ver,rs,ps⟩:=e;obtain⟨ra,rc,pa,pc⟩:=h;simp only at *;generalize zav ⟨ver,rs,ps⟩=CB at *;generalize hm:ps.length=m at *;generalize hk:rs.length=k at *;have HM:=zaa hm;have HK:=zaa hk;have HO:=zaa hown;have H0:=zaa h0
 have LP:=zaa (show ∀ j,j≤m→((ps.take j).flatMap za7).length≤101001420*j from fun j hj=>by
  have h3:=zcg za7 101001420 (ps.take j) (fun x hx=>ze7 x (za SP x (List.mem_of_mem_take hx)));have h4:(ps.take j).length≤j:=by rw[List.length_take];omega
  exact Nat.le_trans h3 (Nat.mul_le_mul_left _ h4))
 have LR:=zaa (show ∀ j,j≤k→((rs.take j).flatMap zaw).length≤3000018*j from fun j hj=>by
  have h3:=zcg zaw 3000018 (rs.take j) (fun x hx=>zc9 x (za SR x (List.mem_of_mem_take hx)));have h4:(rs.take j).length≤j:=by rw[List.length_take];omega
  exact Nat.le_trans h3 (Nat.mul_le_mul_left _ h4))
 have L1:=zaa (zap m (by omega));have L2:=zaa (zap k (by omega));have TP:=zaa (show ps.take m=ps from List.take_of_length_le (by rw[za HM];exact Nat.le_refl _));have bX:=zaa (show Below w.heap.size w (w.alloc (.cells #[.int .i64 ver,.slice ra k rc,.slice pa m pc] 45)) from(Below.refl _ _).alloc (Nat.le_refl _) _);have X1:=zaa (zad w (.cells #[.int .i64 ver,.slice ra k rc,.slice pa m pc] 45));have c2':=zae (za X1) 2 (.slice pa m pc) rfl;have OV:=zaa ((za HO).later (za bX));have CN:=zaa (za2 base hn0 (za OV) m (by omega) (by omega) (Nat.le_trans hbase (za bX).size));unfold zf6 at CN;clear hC hS h0 hown hn0 hm hk;go_enter Tryz.func73,Tryz.ntmps73
 go_wp2_with fail
 refine(za CN).mono ?_;rintro r V0 ⟨s0,m0,c0,rfl,hn1,ho1,hg1⟩;generalize hE:w.heap.size=E at *;have hbase2:base≤w.heap.size:=by rw[hE];exact hbase
 have XU:=Grew.block hg1 (za X1) ((za OV).ne (za X1) zc1.2.2.2);have d2:=zae XU 2 (.slice pa m pc) rfl;have XV:=zaa XU;have HO1:=zaa ho1;have HG1:=zaa (Grew.aside (by rw[hE];exact za bX) hg1);have HW1:=zaa (zai hb0 (za HO) (za HG1) hbase2 (za H0));clear XU ho1 hg1 CN c2'
 go_wp2_with fail
 go_loopw [0,5] (fun v i wr=>∃ (j:Nat) (sp':Option Addr) (n' c':Nat),j≤m∧v=.slice sp' n' c'∧i=.int .i64 (j:Int)∧Hid ((l++zal m++(ps.take j).flatMap za7).length=n')∧Hid (OwnB base wr sp' c' (l++zal m++(ps.take j).flatMap za7))∧Hid (Grew w sp wr sp')∧Hid (Below w0.heap.size w0 wr)∧Hid (wr.heap[E]? = some (.cells #[.int .i64 ver,.slice ra k rc,.slice pa m pc] 45 (0,0)))) (fun _ i _=>m - (intOf i).toNat)
 case atStart=>exact⟨0,s0,m0,c0,by omega,rfl,rfl,zaa (by simpa using za hn1),zaa (by simpa using za HO1),HG1,HW1,XV⟩
 case round =>
  obtain⟨j,sp',n',c',hj,rfl,rfl,hl',ho',hg',hw',hx'⟩:=hrel;have hbr:base≤wr.heap.size:=Nat.le_trans hbase2 (za hg').grown.size;have e2:=zae (za hx') 2 (.slice pa m pc) rfl;by_cases hjm:j<m
  ·as_aux_lemma =>
   have y0:(0:Int)≤(j:Int):=by omega
   have y1:(j:Int)<(m:Int):=by omega
   have hjl:j<ps.length:=by rw[za HM];exact hjm
   obtain⟨b1,o1,ta,tc,rfl,q0,q1,hT,hlt,_⟩:=(za HP).cell j hjl;have DR:=zaa (show Below wr.heap.size wr wr.drew from(Below.refl _ _).drew);have hwd:=zaa ((za hw').trans ((za DR).mono (za hw').size));have XD:=zaa (zac (za DR) (za hx'));have OD:=zaa ((za ho').later (za DR));have hbd:=zaa (show base≤wr.drew.heap.size from hbr);obtain⟨z1,z2,z3⟩:=za SP ps[j] (List.getElem_mem hjl)
   have FT:=zaa (show l++zal m++(ps.take j).flatMap za7++txB ps[j].nm++zl8 ps[j].ts=l++zal m++(ps.take (j+1)).flatMap za7 by
    rw[zb5 za7 ps j hjl];simp[za7,List.append_assoc])
   have LJ:=zaa (show(l++zal m++(ps.take j).flatMap za7).length+1000020+1000014*ps[j].ts.length≤140737488355328 by
    have h3:=za LP j (by omega);have h4:101001420*j≤101001420*1000:=Nat.mul_le_mul_left _ (by omega);have h5:1000014*ps[j].ts.length≤1000014*100:=Nat.mul_le_mul_left _ z2;have h6:=za L1
    rw[List.length_append,List.length_append];omega)
   have KC:=zaa (fun (W:World) (hb:Below w0.heap.size w0 W)=>And.intro (cell_later hb q0) (cell_later hb q1));have HT:=zaa hT;generalize ps[j]=p at *;obtain⟨nm,ts⟩:=p;simp only at z1 z2 z3 LJ FT;clear q0 q1 hlt hT;generalize htn:ts.length=tn at *;have HTN:=zaa htn;clear htn;have AT:=zaa (zbj base (za hl') (za OD) nm z1 (by have:=za LJ;omega) (za hbd));unfold zf6 at AT;have LT:=zaa (zcs nm (by omega));have p0:=(za KC _ (za hw')).1;have p1:=(za KC _ (za hw')).2;dsimp only at p0 p1
   go_wp2_with fail
   have KS:=zaa (show wr.drew.cell? ⟨E,2,none⟩=some (.slice (some ⟨b1,o1,none⟩) m pc)∧wr.drew.cell? ⟨b1,o1+j*2,none⟩=some (.string nm)∧wr.drew.cell? ⟨b1,o1+j*2+1,none⟩=some (.slice ta tn tc) from⟨zab (za XD) 2 _ rfl,p0,p1⟩);clear p0 p1 e2;refine wp_region_held_drew (S:=fun w'=>w'.cell? ⟨E,2,none⟩=some (.slice (some ⟨b1,o1,none⟩) m pc)∧w'.cell? ⟨b1,o1+j*2,none⟩=some (.string nm)∧w'.cell? ⟨b1,o1+j*2+1,none⟩=some (.slice ta tn tc)) (by kernel_rfl) ?_ (fun hHeld=>?_)
   ·try dsimp only
    exact za KS
   refine hT 0 ?_;refine hT 1 ?_;refine hT 2 ?_;refine hT 3 ?_;refine hT 4 ?_;refine hT 5 ?_;refine hT 6 ?_;refine hT 8 ?_;refine hT 9 ?_;refine hT 10 ?_;refine hT 11 ?_;refine hT 12 ?_;refine hT 13 ?_;refine hO 7 (fun K hK=>?_);go_simp
   first
    |(go_at_call 131
      refine(za AT).mono ?_;rintro r U1 ⟨s1,n1,c1,rfl,hn2,ho2,hg2⟩;have hx2:=zaa (Grew.block hg2 (za XD) ((za OD).ne (za XD) zc1.2.2.2));have hw2:=zaa (zai hb0 (za OD) hg2 (za hbd) (za hwd));have hg4:=zaa ((za hg').trans (Grew.aside (za DR) hg2));have KS:=zaa (show U1.cell? ⟨E,2,none⟩=some (.slice (some ⟨b1,o1,none⟩) m pc)∧U1.cell? ⟨b1,o1+j*2,none⟩=some (.string nm)∧U1.cell? ⟨b1,o1+j*2+1,none⟩=some (.slice ta tn tc) from⟨zab (za hx2) 2 _ rfl,za KC _ (za hw2)⟩);have hb2:=zaa (Nat.le_trans (za hbd) hg2.grown.size);have AG:=zaa (ze9 base (za HT) (za hw2) hb0 (za hn2) ho2 tn tc (za HTN) z3 (by have h1:=za LJ;have h2:=za LT;rw[List.length_append];omega) (by omega) (za hb2));unfold zf6 at AG;have HO2:=zaa ho2
      clear ho2 hg2 AT)
    |(go_at_call 130
      refine(za AG).mono ?_;rintro r U2 ⟨s2,n2,c2,rfl,hn3,ho3,hg3⟩;have hx3:=zaa (Grew.block hg3 (za hx2) ((za HO2).ne (za hx2) zc1.2.2.2));have hw3:=zaa (zai hb0 (za HO2) hg3 (za hb2) (za hw2));have hg5:=zaa ((za hg4).trans hg3);have KS:=zaa (show U2.cell? ⟨E,2,none⟩=some (.slice (some ⟨b1,o1,none⟩) m pc)∧U2.cell? ⟨b1,o1+j*2,none⟩=some (.string nm)∧U2.cell? ⟨b1,o1+j*2+1,none⟩=some (.slice ta tn tc) from⟨zab (za hx3) 2 _ rfl,za KC _ (za hw3)⟩);rw[za FT] at hn3 ho3;have HO3:=zaa ho3
      clear ho3 hg3 AG)
   go_wp2_with fail
   refine hK.out _ _ ?_ (fun hHeld=>?_)
   ·try dsimp only
    exact za KS
   clear hK K;refine hP ?_;refine hO 14 (fun K hK=>?_);go_simp
   first
    |(go_at_call 131
      refine(za AT).mono ?_;rintro r U1 ⟨s1,n1,c1,rfl,hn2,ho2,hg2⟩;have hx2:=zaa (Grew.block hg2 (za XD) ((za OD).ne (za XD) zc1.2.2.2));have hw2:=zaa (zai hb0 (za OD) hg2 (za hbd) (za hwd));have hg4:=zaa ((za hg').trans (Grew.aside (za DR) hg2));have KS:=zaa (show U1.cell? ⟨E,2,none⟩=some (.slice (some ⟨b1,o1,none⟩) m pc)∧U1.cell? ⟨b1,o1+j*2,none⟩=some (.string nm)∧U1.cell? ⟨b1,o1+j*2+1,none⟩=some (.slice ta tn tc) from⟨zab (za hx2) 2 _ rfl,za KC _ (za hw2)⟩);have hb2:=zaa (Nat.le_trans (za hbd) hg2.grown.size);have AG:=zaa (ze9 base (za HT) (za hw2) hb0 (za hn2) ho2 tn tc (za HTN) z3 (by have h1:=za LJ;have h2:=za LT;rw[List.length_append];omega) (by omega) (za hb2));unfold zf6 at AG;have HO2:=zaa ho2
      clear ho2 hg2 AT)
    |(go_at_call 130
      refine(za AG).mono ?_;rintro r U2 ⟨s2,n2,c2,rfl,hn3,ho3,hg3⟩;have hx3:=zaa (Grew.block hg3 (za hx2) ((za HO2).ne (za hx2) zc1.2.2.2));have hw3:=zaa (zai hb0 (za HO2) hg3 (za hb2) (za hw2));have hg5:=zaa ((za hg4).trans hg3);have KS:=zaa (show U2.cell? ⟨E,2,none⟩=some (.slice (some ⟨b1,o1,none⟩) m pc)∧U2.cell? ⟨b1,o1+j*2,none⟩=some (.string nm)∧U2.cell? ⟨b1,o1+j*2+1,none⟩=some (.slice ta tn tc) from⟨zab (za hx3) 2 _ rfl,za KC _ (za hw3)⟩);rw[za FT] at hn3 ho3;have HO3:=zaa ho3
      clear ho3 hg3 AG)
   go_wp2_with fail
   refine hK.out _ _ ?_ (fun hHeld=>?_)
   ·try dsimp only
    exact za KS
   clear hK K;refine hP ?_;refine hT 15 ?_;refine wpAnyH_done (by kernel_rfl) ?_ _
   go_wp2
   exact⟨⟨j+1,s2,n2,c2,by omega,rfl,by go_num,by first|exact hn3|exact zaa (by rw[List.length_append];exact za hn3),HO3,hg5,hw3,hx3⟩,by simp[intOf];omega⟩
  ·as_aux_lemma =>
   have hjj:¬ (j:Int)<(m:Int):=by omega
   obtain rfl:j=m:=by omega
   rw[za TP] at hl' ho';have d1:=zae (za hx') 1 (.slice ra k rc) rfl
   have LQ:=zaa (show(l++zal j++ps.flatMap za7).length≤1000000+6+101001420000 by
    have h3:=za LP j (Nat.le_refl _);rw[za TP] at h3;have h4:101001420*j≤101001420*1000:=Nat.mul_le_mul_left _ (by omega);have h6:=za L1
    rw[List.length_append,List.length_append];omega)
   have CN2:=zaa (za2 base (za hl') (za ho') k (by omega) (by have:=za LQ;omega) hbr);unfold zf6 at CN2
   go_wp2_with fail
   refine(za CN2).mono ?_;rintro r V2 ⟨s2,m2,c2,rfl,hn3,ho3,hg3⟩;have hxu:=zaa (Grew.block hg3 (za hx') ((za ho').ne (za hx') zc1.2.2.2));have f1:=zae (za hxu) 1 (.slice ra k rc) rfl;have hw3:=zaa (zai hb0 (za ho') hg3 hbr (za hw'));have hg5:=zaa ((za hg').trans hg3);have HO3:=zaa ho3;clear ho3 hg3 CN2
   go_wp2_with fail
   go_loopw [0,6] (fun v i wr=>∃ (q:Nat) (sp':Option Addr) (n' c':Nat),q≤k∧v=.slice sp' n' c'∧i=.int .i64 (q:Int)∧Hid ((l++zal j++ps.flatMap za7++zal k++(rs.take q).flatMap zaw).length=n')∧Hid (OwnB base wr sp' c' (l++zal j++ps.flatMap za7++zal k++(rs.take q).flatMap zaw))∧Hid (Grew w sp wr sp')∧Hid (Below w0.heap.size w0 wr)∧Hid (wr.heap[E]? = some (.cells #[.int .i64 ver,.slice ra k rc,.slice pa j pc] 45 (0,0)))) (fun _ i _=>k - (intOf i).toNat)
   case atStart=>exact⟨0,s2,m2,c2,by omega,rfl,rfl,zaa (by simpa using za hn3),zaa (by simpa using za HO3),hg5,hw3,hxu⟩
   case round =>
    obtain⟨q,sp',n',c',hq,rfl,rfl,hl2,ho2,hg2,hw2,hx2⟩:=hrel;have hbr2:base≤wr.heap.size:=Nat.le_trans hbase2 (za hg2).grown.size;have e1:=zae (za hx2) 1 (.slice ra k rc) rfl;by_cases hqk:q<k
    ·as_aux_lemma =>
     have y0:(0:Int)≤(q:Int):=by omega
     have y1:(q:Int)<(k:Int):=by omega
     have hql:q<rs.length:=by rw[za HK];exact hqk
     obtain⟨b1,o1,rfl,q0,q1,q2⟩:=(za HR).cell q hql;have KC:=zaa (fun (W:World) (hb:Below w0.heap.size w0 W)=>And.intro (cell_later hb q0) (And.intro (cell_later hb q1) (cell_later hb q2)));obtain⟨z1,z2,z3⟩:=za SR rs[q] (List.getElem_mem hql)
     have FT:=zaa (show l++zal j++ps.flatMap za7++zal k++(rs.take q).flatMap zaw++txB rs[q].h++txB rs[q].p++txB rs[q].l=l++zal j++ps.flatMap za7++zal k++(rs.take (q+1)).flatMap zaw by
      rw[zb5 zaw rs q hql];simp[zaw,List.append_assoc])
     have LJ:=zaa (show(l++zal j++ps.flatMap za7++zal k++(rs.take q).flatMap zaw).length+5000018≤140737488355328 by
      have h3:=za LR q (by omega);have h4:3000018*q≤3000018*1000:=Nat.mul_le_mul_left _ (by omega);have h6:=za L2;have h7:=za LQ
      rw[List.length_append,List.length_append];omega)
     generalize rs[q]=r at *;obtain⟨rh,rp,rl⟩:=r;simp only at z1 z2 z3 FT KC;clear q0 q1 q2;have DR:=zaa (show Below wr.heap.size wr wr.drew from(Below.refl _ _).drew);have hwd:=zaa ((za hw2).trans ((za DR).mono (za hw2).size));have XD:=zaa (zac (za DR) (za hx2));have OD:=zaa ((za ho2).later (za DR));have hbd:=zaa (show base≤wr.drew.heap.size from hbr2);generalize l++zal j++ps.flatMap za7++zal k++(rs.take q).flatMap zaw=L at *;have T1:=zaa (zcs rh (by omega));have T2:=zaa (zcs rp (by omega));have AT1:=zaa (zbj base (za hl2) (za OD) rh z1 (by have:=za LJ;omega) (za hbd));unfold zf6 at AT1;obtain⟨p0,p1,p2⟩:=za KC _ (za hw2)
     go_wp2_with fail
     have KS:=zaa (show wr.drew.cell? ⟨E,1,none⟩=some (.slice (some ⟨b1,o1,none⟩) k rc)∧wr.drew.cell? ⟨b1,o1+q*3,none⟩=some (.string rh)∧wr.drew.cell? ⟨b1,o1+q*3+1,none⟩=some (.string rp)∧wr.drew.cell? ⟨b1,o1+q*3+2,none⟩=some (.string rl) from⟨zab (za XD) 1 _ rfl,p0,p1,p2⟩);clear p0 p1 p2 e1;refine wp_region_held_drew (S:=fun w'=>w'.cell? ⟨E,1,none⟩=some (.slice (some ⟨b1,o1,none⟩) k rc)∧w'.cell? ⟨b1,o1+q*3,none⟩=some (.string rh)∧w'.cell? ⟨b1,o1+q*3+1,none⟩=some (.string rp)∧w'.cell? ⟨b1,o1+q*3+2,none⟩=some (.string rl)) (by kernel_rfl) ?_ (fun hHeld=>?_)
     ·try dsimp only
      exact za KS
     refine hT 0 ?_;refine hT 1 ?_;refine hT 2 ?_;refine hT 3 ?_;refine hT 4 ?_;refine hT 5 ?_;refine hT 6 ?_;refine hT 8 ?_;refine hT 9 ?_;refine hT 10 ?_;refine hT 11 ?_;refine hT 12 ?_;refine hT 13 ?_;refine hT 15 ?_;refine hT 16 ?_;refine hT 17 ?_;refine hT 18 ?_;refine hT 19 ?_;refine hT 20 ?_;refine hO 7 (fun K hK=>?_);go_simp
     first
      |(go_at_call 131
        refine(za AT1).mono ?_;rintro r U1 ⟨s1,n1,c1,rfl,hn4,ho4,hg4⟩;have hx4:=zaa (Grew.block hg4 (za XD) ((za OD).ne (za XD) zc1.2.2.2));have hw4:=zaa (zai hb0 (za OD) hg4 (za hbd) (za hwd));have hg5:=zaa ((za hg2).trans (Grew.aside (za DR) hg4));have KS:=zaa (show U1.cell? ⟨E,1,none⟩=some (.slice (some ⟨b1,o1,none⟩) k rc)∧U1.cell? ⟨b1,o1+q*3,none⟩=some (.string rh)∧U1.cell? ⟨b1,o1+q*3+1,none⟩=some (.string rp)∧U1.cell? ⟨b1,o1+q*3+2,none⟩=some (.string rl) from⟨zab (za hx4) 1 _ rfl,za KC _ (za hw4)⟩);have hb4:=zaa (Nat.le_trans (za hbd) hg4.grown.size);have AT2:=zaa (zbj base (za hn4) ho4 rp z2 (by have h1:=za LJ;have h2:=za T1;rw[List.length_append];omega) (za hb4));unfold zf6 at AT2;have HO4:=zaa ho4
        clear ho4 hg4 AT1)
      |(go_at_call 131
        refine(za AT2).mono ?_;rintro r U2 ⟨s2,n2,c2,rfl,hn6,ho6,hg6⟩;have hx6:=zaa (Grew.block hg6 (za hx4) ((za HO4).ne (za hx4) zc1.2.2.2));have hw6:=zaa (zai hb0 (za HO4) hg6 (za hb4) (za hw4));have hg7:=zaa ((za hg5).trans hg6);have KS:=zaa (show U2.cell? ⟨E,1,none⟩=some (.slice (some ⟨b1,o1,none⟩) k rc)∧U2.cell? ⟨b1,o1+q*3,none⟩=some (.string rh)∧U2.cell? ⟨b1,o1+q*3+1,none⟩=some (.string rp)∧U2.cell? ⟨b1,o1+q*3+2,none⟩=some (.string rl) from⟨zab (za hx6) 1 _ rfl,za KC _ (za hw6)⟩);have hb6:=zaa (Nat.le_trans (za hb4) hg6.grown.size);have AT3:=zaa (zbj base (za hn6) ho6 rl z3 (by have h1:=za LJ;have h2:=za T1;have h3:=za T2;rw[List.length_append,List.length_append];omega) (za hb6));unfold zf6 at AT3;have HO6:=zaa ho6
        clear ho6 hg6 AT2)
      |(go_at_call 131
        refine(za AT3).mono ?_;rintro r U3 ⟨s3,n3,c3,rfl,hn8,ho8,hg8⟩;have hx8:=zaa (Grew.block hg8 (za hx6) ((za HO6).ne (za hx6) zc1.2.2.2));have hw8:=zaa (zai hb0 (za HO6) hg8 (za hb6) (za hw6));have hg9:=zaa ((za hg7).trans hg8);have KS:=zaa (show U3.cell? ⟨E,1,none⟩=some (.slice (some ⟨b1,o1,none⟩) k rc)∧U3.cell? ⟨b1,o1+q*3,none⟩=some (.string rh)∧U3.cell? ⟨b1,o1+q*3+1,none⟩=some (.string rp)∧U3.cell? ⟨b1,o1+q*3+2,none⟩=some (.string rl) from⟨zab (za hx8) 1 _ rfl,za KC _ (za hw8)⟩);rw[za FT] at hn8 ho8;have HO8:=zaa ho8
        clear ho8 hg8 AT3)
     go_wp2_with fail
     refine hK.out _ _ ?_ (fun hHeld=>?_)
     ·try dsimp only
      exact za KS
     clear hK K;refine hP ?_;refine hO 14 (fun K hK=>?_);go_simp
     first
      |(go_at_call 131
        refine(za AT1).mono ?_;rintro r U1 ⟨s1,n1,c1,rfl,hn4,ho4,hg4⟩;have hx4:=zaa (Grew.block hg4 (za XD) ((za OD).ne (za XD) zc1.2.2.2));have hw4:=zaa (zai hb0 (za OD) hg4 (za hbd) (za hwd));have hg5:=zaa ((za hg2).trans (Grew.aside (za DR) hg4));have KS:=zaa (show U1.cell? ⟨E,1,none⟩=some (.slice (some ⟨b1,o1,none⟩) k rc)∧U1.cell? ⟨b1,o1+q*3,none⟩=some (.string rh)∧U1.cell? ⟨b1,o1+q*3+1,none⟩=some (.string rp)∧U1.cell? ⟨b1,o1+q*3+2,none⟩=some (.string rl) from⟨zab (za hx4) 1 _ rfl,za KC _ (za hw4)⟩);have hb4:=zaa (Nat.le_trans (za hbd) hg4.grown.size);have AT2:=zaa (zbj base (za hn4) ho4 rp z2 (by have h1:=za LJ;have h2:=za T1;rw[List.length_append];omega) (za hb4));unfold zf6 at AT2;have HO4:=zaa ho4
        clear ho4 hg4 AT1)
      |(go_at_call 131
        refine(za AT2).mono ?_;rintro r U2 ⟨s2,n2,c2,rfl,hn6,ho6,hg6⟩;have hx6:=zaa (Grew.block hg6 (za hx4) ((za HO4).ne (za hx4) zc1.2.2.2));have hw6:=zaa (zai hb0 (za HO4) hg6 (za hb4) (za hw4));have hg7:=zaa ((za hg5).trans hg6);have KS:=zaa (show U2.cell? ⟨E,1,none⟩=some (.slice (some ⟨b1,o1,none⟩) k rc)∧U2.cell? ⟨b1,o1+q*3,none⟩=some (.string rh)∧U2.cell? ⟨b1,o1+q*3+1,none⟩=some (.string rp)∧U2.cell? ⟨b1,o1+q*3+2,none⟩=some (.string rl) from⟨zab (za hx6) 1 _ rfl,za KC _ (za hw6)⟩);have hb6:=zaa (Nat.le_trans (za hb4) hg6.grown.size);have AT3:=zaa (zbj base (za hn6) ho6 rl z3 (by have h1:=za LJ;have h2:=za T1;have h3:=za T2;rw[List.length_append,List.length_append];omega) (za hb6));unfold zf6 at AT3;have HO6:=zaa ho6
        clear ho6 hg6 AT2)
      |(go_at_call 131
        refine(za AT3).mono ?_;rintro r U3 ⟨s3,n3,c3,rfl,hn8,ho8,hg8⟩;have hx8:=zaa (Grew.block hg8 (za hx6) ((za HO6).ne (za hx6) zc1.2.2.2));have hw8:=zaa (zai hb0 (za HO6) hg8 (za hb6) (za hw6));have hg9:=zaa ((za hg7).trans hg8);have KS:=zaa (show U3.cell? ⟨E,1,none⟩=some (.slice (some ⟨b1,o1,none⟩) k rc)∧U3.cell? ⟨b1,o1+q*3,none⟩=some (.string rh)∧U3.cell? ⟨b1,o1+q*3+1,none⟩=some (.string rp)∧U3.cell? ⟨b1,o1+q*3+2,none⟩=some (.string rl) from⟨zab (za hx8) 1 _ rfl,za KC _ (za hw8)⟩);rw[za FT] at hn8 ho8;have HO8:=zaa ho8
        clear ho8 hg8 AT3)
     go_wp2_with fail
     refine hK.out _ _ ?_ (fun hHeld=>?_)
     ·try dsimp only
      exact za KS
     clear hK K;refine hP ?_;refine hO 21 (fun K hK=>?_);go_simp
     first
      |(go_at_call 131
        refine(za AT1).mono ?_;rintro r U1 ⟨s1,n1,c1,rfl,hn4,ho4,hg4⟩;have hx4:=zaa (Grew.block hg4 (za XD) ((za OD).ne (za XD) zc1.2.2.2));have hw4:=zaa (zai hb0 (za OD) hg4 (za hbd) (za hwd));have hg5:=zaa ((za hg2).trans (Grew.aside (za DR) hg4));have KS:=zaa (show U1.cell? ⟨E,1,none⟩=some (.slice (some ⟨b1,o1,none⟩) k rc)∧U1.cell? ⟨b1,o1+q*3,none⟩=some (.string rh)∧U1.cell? ⟨b1,o1+q*3+1,none⟩=some (.string rp)∧U1.cell? ⟨b1,o1+q*3+2,none⟩=some (.string rl) from⟨zab (za hx4) 1 _ rfl,za KC _ (za hw4)⟩);have hb4:=zaa (Nat.le_trans (za hbd) hg4.grown.size);have AT2:=zaa (zbj base (za hn4) ho4 rp z2 (by have h1:=za LJ;have h2:=za T1;rw[List.length_append];omega) (za hb4));unfold zf6 at AT2;have HO4:=zaa ho4
        clear ho4 hg4 AT1)
      |(go_at_call 131
        refine(za AT2).mono ?_;rintro r U2 ⟨s2,n2,c2,rfl,hn6,ho6,hg6⟩;have hx6:=zaa (Grew.block hg6 (za hx4) ((za HO4).ne (za hx4) zc1.2.2.2));have hw6:=zaa (zai hb0 (za HO4) hg6 (za hb4) (za hw4));have hg7:=zaa ((za hg5).trans hg6);have KS:=zaa (show U2.cell? ⟨E,1,none⟩=some (.slice (some ⟨b1,o1,none⟩) k rc)∧U2.cell? ⟨b1,o1+q*3,none⟩=some (.string rh)∧U2.cell? ⟨b1,o1+q*3+1,none⟩=some (.string rp)∧U2.cell? ⟨b1,o1+q*3+2,none⟩=some (.string rl) from⟨zab (za hx6) 1 _ rfl,za KC _ (za hw6)⟩);have hb6:=zaa (Nat.le_trans (za hb4) hg6.grown.size);have AT3:=zaa (zbj base (za hn6) ho6 rl z3 (by have h1:=za LJ;have h2:=za T1;have h3:=za T2;rw[List.length_append,List.length_append];omega) (za hb6));unfold zf6 at AT3;have HO6:=zaa ho6
        clear ho6 hg6 AT2)
      |(go_at_call 131
        refine(za AT3).mono ?_;rintro r U3 ⟨s3,n3,c3,rfl,hn8,ho8,hg8⟩;have hx8:=zaa (Grew.block hg8 (za hx6) ((za HO6).ne (za hx6) zc1.2.2.2));have hw8:=zaa (zai hb0 (za HO6) hg8 (za hb6) (za hw6));have hg9:=zaa ((za hg7).trans hg8);have KS:=zaa (show U3.cell? ⟨E,1,none⟩=some (.slice (some ⟨b1,o1,none⟩) k rc)∧U3.cell? ⟨b1,o1+q*3,none⟩=some (.string rh)∧U3.cell? ⟨b1,o1+q*3+1,none⟩=some (.string rp)∧U3.cell? ⟨b1,o1+q*3+2,none⟩=some (.string rl) from⟨zab (za hx8) 1 _ rfl,za KC _ (za hw8)⟩);rw[za FT] at hn8 ho8;have HO8:=zaa ho8
        clear ho8 hg8 AT3)
     go_wp2_with fail
     refine hK.out _ _ ?_ (fun hHeld=>?_)
     ·try dsimp only
      exact za KS
     clear hK K;refine hP ?_;refine hT 22 ?_;refine wpAnyH_done (by kernel_rfl) ?_ _
     go_wp2
     exact⟨⟨q+1,s3,n3,c3,by omega,rfl,by go_num,by first|exact hn8|exact zaa (by simpa using za hn8),HO8,hg9,hw8,hx8⟩,by simp[intOf];omega⟩
    ·as_aux_lemma =>
     have hqq:¬ (q:Int)<(k:Int):=by omega
     have EE:=zaa (show l++zal j++ps.flatMap za7++zal k++(rs.take q).flatMap zaw=l++CB by
      rw[za EB,List.take_of_length_le (by rw[za HK];omega)]
      simp only[List.append_assoc])
     rw[za EE] at hl2 ho2
     go_wp2
     go_ret
     exact⟨sp',n',c',rfl,by first|exact hl2|exact zaa (by simpa using za hl2),za ho2,za hg2⟩
end
end Go.Proofs.YtjcjleaicjhpeaaGreatDoor
