/- The walk of WalTells (written by wip/mkwlaw.py). -/
import Derived.Test.YtofllbpfajppeaaGreatDoorB38
import Derived.Test.YtofllbpfajppeaaGreatDoorB39
import Derived.Deep.CutBlock
import Derived.Deep.CutRange
import Derived.Deep.DeepCutAuto
set_option linter.unusedVariables false
set_option maxRecDepth 20000
set_option maxHeartbeats 16000000
namespace Go.Proofs.YtofllbpfajppeaaGreatDoor.walTells
open Go.ChangeShapes Go.WideShapes Go.ChangeAt Go.RowKit Go.Maps
theorem walk0 (a0:Option Addr) (c0:Nat) (l0:List Wd) (n1 n2:Int) (w:World) (hx0:l0.length≤maxLen) (hb0:WdsAt w a0 l0) (bn1:-9223372036854775808≤n1∧n1≤9223372036854775807) (bn2:-9223372036854775808≤n2∧n2≤9223372036854775807) (hTz:Tz w) :
  Calls Tryz.prog 4 #[.slice a0 l0.length c0,.int .i64 n1,.int .i64 n2] w fun e w'=>e=.returned (.bool true)∧Below w.heap.size w w':=by
 have HN1:=zaa bn1;clear bn1 bn2;have TZ:=zaa hTz;have HB0:=zaa hb0;simp only[maxLen] at hx0;generalize hq0:l0.length=m0 at *;have Q0:=zaa hq0;have NC:=zaa (begin_calls w 8000 hTz);rw[show((8000:Int)).toNat=8000 from rfl] at NC;clear hTz hb0 hq0;go_enter Tryz.func4,Tryz.ntmps4
 go_wp2_with fail
 go_at_call 8
 refine(za NC).mono ?_;rintro e V1 ⟨B,d,M,R,rfl,v1,lowB,hcase⟩
 have I1:=zaa (show PlI 8000 w.heap.size w V1 B d M R 0 from by
  rcases hcase with⟨h,_⟩|⟨_,L,Lr,t⟩
  ·omega
  ·exact⟨L,Lr,2,ss1,wc0,1,_,_,t,(LS.begin (by omega)).2,by omega,by omega,by simp[wc0],v1⟩)
 have LB:=zaa lowB;clear hcase v1 lowB NC
 go_upto_block 0 with fail
 go_cut [8,9] (fun okv _ wc=>∃ (j:Nat),j≤100∧okv=.bool true∧Hid (PlI 8000 w.heap.size w wc B d M R j))
 case first =>
  as_aux_lemma =>
  go_wp2_with fail
  go_loopw [8,9] (fun okv q wr=>∃ (j:Nat),j≤m0∧j≤100∧q=.int .i64 (j:Int)∧okv=.bool true∧Hid (PlI 8000 w.heap.size w wr B d M R j)) (fun _ q _=>100 - (intOf q).toNat)
  case atStart=>exact⟨0,by omega,by omega,rfl,rfl,I1⟩
  case round =>
   obtain⟨j,hj,hj6,rfl,rfl,I3⟩:=hrel;by_cases hj1:j<m0
   ·have y1:(j:Int)<(m0:Int):=by omega
    by_cases hj2:j<100
    ·have y0:(0:Int)≤(j:Int):=by omega
     have y2:(j:Int)<100:=by omega
     have hjl:j<l0.length:=by rw[za Q0];exact hj1
     have bb3:Below w.heap.size w wr:=by obtain⟨_,_,_,_,_,_,_,_,_,_,_,_,_,q⟩:=za I3;exact q
     obtain⟨b,off,h,rfl,⟨q0,q1,q2,q3,q4,q5,q6⟩,hA⟩:=(za HB0).cell j hjl;have p0:=cell_later bb3 q0;have p1:=cell_later bb3 q1;have p2:=cell_later bb3 q2;have p3:=cell_later bb3 q3;have p4:=cell_later bb3 q4;have p5:=cell_later bb3 q5;have p6:=cell_later bb3 q6;clear q0 q1 q2 q3 q4 q5 q6;have HA:=zaa hA;have SH:=zaa (short6_calls _ h wr (hA.later bb3));generalize l0[j]=x at *;obtain⟨kd,es,ht,hv,mi,mt,kp⟩:=x;unfold wdRow at SH;dsimp only at p0 p1 p2 p3 p4 p5 p6 SH;clear hA bb3 hjl
     go_wp2_with fail
     go_at_call 9
     refine(za SH).mono ?_;rintro e V4 ⟨b4,rfl,hb4,v4⟩;have I4:=zaa ((za I3).later v4);cases b4 with
     |false =>
      have I5:=zaa (za I4).next;clear hb4 v4 SH p0 p1 p2 p3 p4 p5 p6
      go_wp2
      exact⟨⟨j+1,by omega,by omega,by go_num,rfl,I5⟩,by simp[intOf];omega⟩
     |true =>
      have r0:=cell_later v4 p0;have r1:=cell_later v4 p1;have r2:=cell_later v4 p2;have r3:=cell_later v4 p3;have r4:=cell_later v4 p4;have r5:=cell_later v4 p5;have r6:=cell_later v4 p6;have DC:=zaa ((za I4).do_ (by omega) (za LB) rfl ⟨kd,es,ht,hv,mi,mt,kp⟩ h (za HA) (hb4 rfl).1);unfold wdRow at DC;dsimp only at DC;clear hb4 v4 SH p0 p1 p2 p3 p4 p5 p6
      go_wp2_with fail
      clear r0 r1 r2 r3 r4 r5 r6;go_at_call 10
      refine(za DC).mono ?_;rintro e V5 ⟨rfl,i5⟩;have I5:=zaa i5;clear i5 DC
      go_wp2
      exact⟨⟨j+1,by omega,by omega,by go_num,rfl,I5⟩,by simp[intOf];omega⟩
    ·have y2:¬ (j:Int)<100:=by omega
     go_wp2_with fail
     go_meet
     case rel=>exact⟨j,by omega,rfl,I3⟩
   ·have y1:¬ (j:Int)<(m0:Int):=by omega
    go_wp2_with fail
    go_meet
    case rel=>exact⟨j,by omega,rfl,I3⟩
 case rest =>
  as_aux_lemma =>
  obtain⟨j,hj6,rfl,I9⟩:=hcut;obtain⟨L,Lr,N,ss,c,n,s1,s2,t9,ls9,N9,n9,e9,b9⟩:=za I9;have TT:=zaa t9;have LSH:=zaa ls9;have B9:=zaa b9;have TL9:=zaa (fun W (u:Below wc.heap.size wc W)=>t9.later u);have BX:=zaa (fun W (u:Below wc.heap.size wc W)=>(t9.later u).bx);have ZL:=zaa (fun W (u:Below wc.heap.size wc W)=>(za TZ).later ((za B9).trans (u.mono (za B9).size)));clear t9 ls9 b9 I9 I1
  have TC:=zaa (show ∀ W,Below wc.heap.size wc W→Calls Tryz.prog 13 #[.pointer (some ⟨L,0,none⟩),.int .i64 n1] W fun e w'=>e=.returned (.tuple #[.int .i64 (zcr c n1).1,.bool (zcr c n1).2])∧Below W.heap.size W w' from fun W u=>by
   obtain⟨Fv,ep,ec,hs,z,rl,_⟩:=(za TL9 W u).at_
   exact wterm_calls z n1 (za HN1))
  have RC:=zaa (show ∀ W,Below wc.heap.size wc W→Calls Tryz.prog 14 #[.pointer (some ⟨Lr,0,none⟩),.int .i64 n1] W fun e w'=>e=.returned (.tuple #[.int .i64 (zcr c n1).1,.bool (zcr c n1).2])∧Below W.heap.size W w' from fun W u=>by
   obtain⟨Fv,ep,ec,hs,z,rl,_⟩:=(za TL9 W u).at_
   exact rterm_calls rl n1)
  have EC:=zaa (show ∀ W,Below wc.heap.size wc W→Calls Tryz.prog 16 #[.pointer (some ⟨L,0,none⟩),.int .i64 n1,.int .i64 n2] W fun e w'=>∃ sp m k,e=.returned (.slice sp m k)∧((zbq c.es n1 n2).map toI).length=m∧EntsAt w' sp ((zbq c.es n1 n2).map toI)∧Below W.heap.size W w' from fun W u=>by
   obtain⟨Fv,ep,ec,hs,z,rl,_⟩:=(za TL9 W u).at_;refine(entries_calls z n1 n2).mono ?_;rintro e w' ⟨sp,m,k,hs2,rfl,hm,o,v⟩
   exact⟨sp,m,k,rfl,by rw[List.length_map];exact hm,o.ents,v⟩)
  have FC:=zaa (show ∀ W,Below wc.heap.size wc W→Calls Tryz.prog 17 #[.pointer (some ⟨Lr,0,none⟩),.int .i64 n1,.int .i64 n2] W fun e w'=>∃ sp m k,e=.returned (.slice sp m k)∧((zbq c.es n1 n2).map toI).length=m∧EntsAt w' sp ((zbq c.es n1 n2).map toI)∧Below W.heap.size W w' from fun W u=>by
   obtain⟨Fv,ep,ec,hs,z,rl,_⟩:=(za TL9 W u).at_;refine(zf2 rl n1 n2).mono ?_;rintro e w' ⟨sp,m,k,rfl,hm,o,v⟩
   exact⟨sp,m,k,rfl,by rw[List.length_map];exact hm,o.at_,v⟩)
  have LF:=zaa (show((zbq c.es n1 n2).map toI).length≤4611686018427387904 from by
   have h1:=(za TT).ceLe;have h2:(zbq c.es n1 n2).length≤c.es.length:=List.length_filter_le _ _;rw[List.length_map]
   omega)
  generalize (zbq c.es n1 n2).map toI=fl at *;generalize zcr c n1=tw at *;obtain⟨tv,tb⟩:=tw;dsimp only at TC RC;have b1:=(zbz (za TT).bx).2.1
  go_wp2_with fail
  clear b1;go_at_call 13
  refine(za TC _ (Below.refl _ _)).mono ?_;rintro e V1 ⟨rfl,v1⟩;have U:=zaa v1;clear v1;have b3:=(zbz (za BX _ (za U))).2.2.2
  go_wp2_with fail
  clear b3;go_at_call 14
  refine(za RC _ (za U)).mono ?_;rintro e V2 ⟨rfl,v⟩;have U:=zaa ((za U).trans (v.mono (za U).size));have U:=zaa ((za U).drew);clear v
  go_wp2_with fail
  refine wp_region_held_drew (S:=fun u=>u.cell? ⟨B,1,none⟩=some (.pointer (some ⟨L,0,none⟩))∧u.cell? ⟨B,3,none⟩=some (.pointer (some ⟨Lr,0,none⟩))) (by kernel_rfl) ?_ (fun hHeld=>?_)
  ·try dsimp only
   exact⟨(zbz (za BX _ (za U))).2.1,(zbz (za BX _ (za U))).2.2.2⟩
  refine hO 0 (fun K hK=>?_);go_simp
  first
   |(go_at_call 12
     refine(zbe _ (za ZL _ (za U))).mono ?_;rintro e V ⟨rfl,v⟩;have U:=zaa ((za U).trans (v.mono (za U).size))
     clear v)
   |(go_at_call 16
     refine(za EC _ (za U)).mono ?_;rintro e V ⟨spa,ma,ka,rfl,hma,oa,v⟩;have U:=zaa ((za U).trans (v.mono (za U).size));have OA:=zaa oa;have MA:=zaa hma
     clear v oa hma)
   |(go_at_call 17
     refine(za FC _ (za U)).mono ?_;rintro e V ⟨spb,mb,kb,rfl,hmb,ob,v⟩;have hmm:mb=ma:=hmb.symm.trans (za MA);subst hmm;have U:=zaa ((za U).trans (v.mono (za U).size));have SE:=zaa (zda spa spb mb ka kb fl V (za MA) (by have h1:=za LF;have h2:=za MA;omega) ((za OA).later v) ob)
     clear v ob hmb)
   |(go_at_call 15
     refine(za SE).mono ?_;rintro e V ⟨rfl,v⟩;have U:=zaa ((za U).trans (v.mono (za U).size))
     clear v)
  go_wp2_with fail
  refine hK.out _ _ ?_ (fun hHeld=>?_)
  ·try dsimp only
   exact⟨(zbz (za BX _ (za U))).2.1,(zbz (za BX _ (za U))).2.2.2⟩
  clear hK K;refine hP ?_;refine hT 1 ?_;refine hT 2 ?_;refine hT 3 ?_;refine hT 4 ?_;refine hT 5 ?_;refine hT 6 ?_;refine hT 7 ?_;refine hT 8 ?_;refine hT 9 ?_;refine hT 10 ?_;refine hT 11 ?_;refine hT 12 ?_;refine hT 13 ?_;refine hT 14 ?_;refine hT 15 ?_;refine hT 16 ?_;refine hT 17 ?_;refine hT 19 ?_;refine hT 20 ?_;refine hT 21 ?_;refine hT 22 ?_;refine hT 23 ?_;refine hT 24 ?_;refine hO 18 (fun K hK=>?_);go_simp
  first
   |(go_at_call 12
     refine(zbe _ (za ZL _ (za U))).mono ?_;rintro e V ⟨rfl,v⟩;have U:=zaa ((za U).trans (v.mono (za U).size))
     clear v)
   |(go_at_call 16
     refine(za EC _ (za U)).mono ?_;rintro e V ⟨spa,ma,ka,rfl,hma,oa,v⟩;have U:=zaa ((za U).trans (v.mono (za U).size));have OA:=zaa oa;have MA:=zaa hma
     clear v oa hma)
   |(go_at_call 17
     refine(za FC _ (za U)).mono ?_;rintro e V ⟨spb,mb,kb,rfl,hmb,ob,v⟩;have hmm:mb=ma:=hmb.symm.trans (za MA);subst hmm;have U:=zaa ((za U).trans (v.mono (za U).size));have SE:=zaa (zda spa spb mb ka kb fl V (za MA) (by have h1:=za LF;have h2:=za MA;omega) ((za OA).later v) ob)
     clear v ob hmb)
   |(go_at_call 15
     refine(za SE).mono ?_;rintro e V ⟨rfl,v⟩;have U:=zaa ((za U).trans (v.mono (za U).size))
     clear v)
  go_wp2_with fail
  refine hK.out _ _ ?_ (fun hHeld=>?_)
  ·try dsimp only
   exact⟨(zbz (za BX _ (za U))).2.1,(zbz (za BX _ (za U))).2.2.2⟩
  clear hK K;refine hP ?_;refine hO 25 (fun K hK=>?_);go_simp
  first
   |(go_at_call 12
     refine(zbe _ (za ZL _ (za U))).mono ?_;rintro e V ⟨rfl,v⟩;have U:=zaa ((za U).trans (v.mono (za U).size))
     clear v)
   |(go_at_call 16
     refine(za EC _ (za U)).mono ?_;rintro e V ⟨spa,ma,ka,rfl,hma,oa,v⟩;have U:=zaa ((za U).trans (v.mono (za U).size));have OA:=zaa oa;have MA:=zaa hma
     clear v oa hma)
   |(go_at_call 17
     refine(za FC _ (za U)).mono ?_;rintro e V ⟨spb,mb,kb,rfl,hmb,ob,v⟩;have hmm:mb=ma:=hmb.symm.trans (za MA);subst hmm;have U:=zaa ((za U).trans (v.mono (za U).size));have SE:=zaa (zda spa spb mb ka kb fl V (za MA) (by have h1:=za LF;have h2:=za MA;omega) ((za OA).later v) ob)
     clear v ob hmb)
   |(go_at_call 15
     refine(za SE).mono ?_;rintro e V ⟨rfl,v⟩;have U:=zaa ((za U).trans (v.mono (za U).size))
     clear v)
  go_wp2_with fail
  refine hK.out _ _ ?_ (fun hHeld=>?_)
  ·try dsimp only
   exact⟨(zbz (za BX _ (za U))).2.1,(zbz (za BX _ (za U))).2.2.2⟩
  clear hK K;refine hP ?_;refine hO 26 (fun K hK=>?_);go_simp
  first
   |(go_at_call 12
     refine(zbe _ (za ZL _ (za U))).mono ?_;rintro e V ⟨rfl,v⟩;have U:=zaa ((za U).trans (v.mono (za U).size))
     clear v)
   |(go_at_call 16
     refine(za EC _ (za U)).mono ?_;rintro e V ⟨spa,ma,ka,rfl,hma,oa,v⟩;have U:=zaa ((za U).trans (v.mono (za U).size));have OA:=zaa oa;have MA:=zaa hma
     clear v oa hma)
   |(go_at_call 17
     refine(za FC _ (za U)).mono ?_;rintro e V ⟨spb,mb,kb,rfl,hmb,ob,v⟩;have hmm:mb=ma:=hmb.symm.trans (za MA);subst hmm;have U:=zaa ((za U).trans (v.mono (za U).size));have SE:=zaa (zda spa spb mb ka kb fl V (za MA) (by have h1:=za LF;have h2:=za MA;omega) ((za OA).later v) ob)
     clear v ob hmb)
   |(go_at_call 15
     refine(za SE).mono ?_;rintro e V ⟨rfl,v⟩;have U:=zaa ((za U).trans (v.mono (za U).size))
     clear v)
  go_wp2_with fail
  refine hK.out _ _ ?_ (fun hHeld=>?_)
  ·try dsimp only
   exact⟨(zbz (za BX _ (za U))).2.1,(zbz (za BX _ (za U))).2.2.2⟩
  clear hK K;refine hP ?_;refine hT 27 ?_;refine hT 28 ?_;refine wpAnyH_done (by kernel_rfl) ?_ _;have FE:=zaa ((za B9).trans ((za U).mono (za B9).size))
  go_wp2_with fail
  go_ret
  exact⟨rfl,za FE⟩
end Go.Proofs.YtofllbpfajppeaaGreatDoor.walTells
