/- Logs: Compact. -/
import Derived.Test.YtofllbpfajppeaaGreatDoorB31
import Derived.Test.YtofllbpfajppeaaGreatDoorB19
import Derived.Test.YtofllbpfajppeaaGreatDoorB14
import Derived.Test.YtofllbpfajppeaaGreatDoorB21
import Derived.Test.YtofllbpfajppeaaGreatDoorB20
set_option linter.unusedVariables false
set_option maxRecDepth 20000
set_option maxHeartbeats 16000000
namespace Go.Proofs.YtofllbpfajppeaaGreatDoor
section
open Go.ChangeShapes Go.WideShapes Go.ChangeAt Go.RowKit
section
variable {Av:Nat→Prop} {base:Nat} {w w':World} {L d M room N N':Nat} {ss ss':Ds} {c:Wc} {n:Nat} {ep:Option Addr} {ec:Nat} {hs:List (Option Addr×Nat)}
theorem zrr {k:Nat} {t:Int} (hk:WOk c) (hi:Ix c) (h1:c.bi<k) (h2:k≤c.bi+c.es.length) (ht:t=((c.es.getD (((k:Nat):Int) - (c.bi:Int) - 1).toNat default).2.1:Int)):WOk ⟨k,t.toNat,c.ht,c.hv,c.es.drop (k - c.bi)⟩∧Ix ⟨k,t.toNat,c.ht,c.hv,c.es.drop (k - c.bi)⟩∧(t.toNat:Int)=t:=by
 have hj:(((k:Nat):Int) - (c.bi:Int) - 1).toNat=k - c.bi - 1:=by omega
 have hjl:k - c.bi - 1<c.es.length:=by omega
 rw[hj,List.getD_eq_getElem?_getD,List.getElem?_eq_getElem hjl,Option.getD_some] at ht;have he:=hk.es _ (List.getElem_mem hjl);have hx:=hi _ hjl;obtain⟨_,⟨t1,t2⟩,⟨i1,i2⟩,_⟩:=he;refine⟨⟨by simp only;omega,by simp only;omega,hk.ht,hk.hv,fun e he=>hk.es e (List.mem_of_mem_drop he)⟩,fun j hj2=>?_,by omega⟩;simp only[List.length_drop] at hj2;simp only[List.getElem_drop];have:=hi (k - c.bi+j) (by omega);omega
theorem zny (z:WAt Av base w L d M room N ss c n ep ec hs) (hN:N+1≤1000000) (hix:Ix c) (i:Int) (hi:-9223372036854775808≤i∧i≤9223372036854775807) :
  Calls Tryz.prog 34 #[.pointer (some ⟨L,0,none⟩),.int .i64 i] w (ze0 Av base L d M room (N+1) w (zeo room n c i ss)):=by
 have WC:=zaa (show zeo room n c i ss=(if (zdd c i).2=false then (2,ss,c,n)
  else if i=(c.bi:Int) then (0,ss,c,n)
  else zrm room n c ⟨i.toNat,(zdd c i).1.toNat,c.ht,c.hv,c.es.drop (i.toNat - c.bi)⟩ ss) from rfl)
 generalize zeo room n c i ss=wc at *;have TC:=zaa (znk z.lg 1 rfl z.ok.bi (by have:=z.le;omega) z.ow i hi);have Z:=zaa z;have HX:=zaa hix;have FS:=zaa (show ∀ (r:Nat) W,Below w.heap.size w W→ze0 Av base L d M room (N+1) w (r,ss,c,n) (.returned (.int .i64 (r:Int))) W from fun r W u=>⟨rfl,⟨ep,ec,hs,(z.later u).monoN (by omega) hN⟩,(z.asdB u).sub (fun g hg=>.inl hg)⟩);have TW:=zaa (show zdd c i=(if i=(c.bi:Int) then ((c.bt:Int),true) else if (c.bi:Int)<i∧i≤((c.bi+c.es.length:Nat):Int) then (((c.es.getD (i - (c.bi:Int) - 1).toNat default).2.1:Int),true) else (0,false)) from rfl);clear z hix;cases htw:zdd c i with
 |mk t ok =>
 rw[htw] at WC TC TW;dsimp only at WC TC;clear htw;cases ok with
 |false =>
  rw[if_pos rfl] at WC;go_enter Tryz.func34,Tryz.ntmps34
  go_wp2_with fail
  go_at_call 49
  refine(za TC).mono ?_;rintro e V1 ⟨rfl,v1⟩;have FE:=zaa (za FS 2 V1 v1);clear v1
  go_wp2
  go_ret
  rw[za WC];exact za FE
 |true =>
  rw[if_neg (by simp)] at WC;go_enter Tryz.func34,Tryz.ntmps34
  go_wp2_with fail
  go_at_call 49
  refine(za TC).mono ?_;rintro e V1 ⟨rfl,v1⟩;have U1:=zaa v1;have Z1:=zaa ((za Z).later v1);have l1:V1.cell? ⟨L,1,none⟩=some (.int .i64 (c.bi:Int)):=zab (za Z1).lg.row 1 _ rfl;clear v1 TC;by_cases h1:i=(c.bi:Int)
  ·rw[if_pos h1] at WC;have h1':(i==(c.bi:Int))=true:=by simp[h1]
   have FE:=zaa (za FS 0 V1 (za U1));clear h1
   go_wp2
   go_ret
   rw[za WC];exact za FE
  ·rw[if_neg h1] at WC;have tw:=za TW;rw[if_neg h1] at tw;have hr:(c.bi:Int)<i∧i≤((c.bi+c.es.length:Nat):Int):=by
    by_cases h2:(c.bi:Int)<i∧i≤((c.bi+c.es.length:Nat):Int)
    ·exact h2
    ·rw[if_neg h2] at tw;cases tw
   rw[if_pos hr] at tw;obtain⟨k,rfl⟩:∃ k:Nat,i=(k:Int):=⟨i.toNat,by omega⟩
   have tw1:=(Prod.mk.inj tw).1;obtain⟨ok2,ix2,htt⟩:=zrr (za Z).ok (za HX) (show c.bi<k by omega) (show k≤c.bi+c.es.length by omega) tw1;rw[Int.toNat_natCast] at WC;have h1':((k:Int)==(c.bi:Int))=false:=by simp;omega
   have hle:=(za Z1).le;obtain⟨b,rfl⟩:=(za Z1).ow.some_ (show 0<c.es.length by omega);have hcap:c.es.length≤ec:=by
    rcases(za Z1).ow.row.2 with⟨hv,_⟩|⟨g,cap,cur,hv,_,_,hq,_⟩
    ·simp at hv
    ·simp only[Value.slice.injEq] at hv;omega
   have U2:=zaa (show Below V1.heap.size V1 V1.drew from(Below.refl _ _).drew);have Z2:=zaa ((za Z1).later (za U2));have CL:=zaa (zpf (k:=k - c.bi) (x:=if ec=k - c.bi then 0 else (k - c.bi)*4) (m:=c.es.length - (k - c.bi)) (cc:=ec - (k - c.bi)) (za Z2).ow (by omega) rfl (fun h=>by rw[if_neg (by omega)]) (by omega) (za Z2).dk.le);have RS:=fun u=>zq1 b c.es.length ec (k - c.bi) (by omega) u;have hwr:IntKind.i64.wrap ((k:Int) - (c.bi:Int))=((k - c.bi:Nat):Int):=by
    rw[IntKind.wrap_i64];have:=(za Z).ok.bi;have:=ok2.bi;omega
   have d1:V1.drew.cell? ⟨L,1,none⟩=some (.int .i64 (c.bi:Int)):=l1;have d5:V1.drew.cell? ⟨L,5,none⟩=some (.slice (some ⟨b,0,none⟩) c.es.length ec):=zab (za Z2).lg.row 5 _ rfl;have OK2:=zaa ok2;have TT:=zaa htt;have HB:=zaa (show c.bi<k∧k≤c.bi+c.es.length by omega);have ML:=zaa (show(c.es.drop (k - c.bi)).length=c.es.length - (k - c.bi) from List.length_drop);have LE2:=zaa (show(c.es.drop (k - c.bi)).length≤1000000 by rw[List.length_drop];omega);clear tw tw1 hr h1 TW ok2 ix2 hcap htt;generalize k - c.bi=q at *;generalize (if ec=q then 0 else q*4)=x at *;generalize c.es.length - q=m at *;generalize ec - q=cc at *
   go_wp2_with fail
   refine wp_region_held_drew (S:=fun w'=>w'.cell? ⟨L,1,none⟩=some (.int .i64 (c.bi:Int))∧w'.cell? ⟨L,5,none⟩=some (.slice (some ⟨b,0,none⟩) c.es.length ec)) (by kernel_rfl) ?_ (fun hHeld=>?_)
   ·try dsimp only
    first|exact⟨d1,d5⟩|exact⟨g1,g5⟩
   refine hT 0 ?_;refine hT 1 ?_;refine hT 2 ?_;refine hT 3 ?_;refine hT 4 ?_;refine hT 5 ?_;refine hT 6 ?_;refine hT 7 ?_;refine hT 8 ?_;refine hT 9 ?_;refine hT 10 ?_;refine hT 11 ?_;refine hT 12 ?_;refine hT 13 ?_;refine hO 14 (fun K hK=>?_);go_simp
   first
    |(go_at_call 75
      refine(za CL).mono ?_;rintro e V3 ⟨g,c3,rfl,o3,v3,hg3⟩;have g1:=cell_later v3 d1;have g5:=cell_later v3 d5;have O3:=zaa o3;have U3:=zaa v3;have G3:=zaa hg3
      clear o3 v3 hg3)
   go_wp2_with fail
   refine hK.out _ _ ?_ (fun hHeld=>?_)
   ·try dsimp only
    first|exact⟨d1,d5⟩|exact⟨g1,g5⟩
   clear hK K;refine hP ?_;refine hT 15 ?_;refine wpAnyH_done (by kernel_rfl) ?_ _;have U4:=zaa (((za U1).trans ((za U2).mono (za U1).size)).trans ((za U3).mono (Nat.le_trans (za U1).size (za U2).size)));have Z4:=zaa ((za Z).more (za U4));have S4:=zaa (show w.heap.size≤V1.heap.size from(za U1).size);have A4:=zaa (((za Z).asdB (za U4)).sub (Bv:=Av) (fun g hg=>.inl hg))
   have FT:=zaa (show ∀ y,zc6 (some ⟨g,0,none⟩) (hs.drop q) y→(Av y∨(w.heap.size≤y∧y<V3.heap.size))∨zc6 (some ⟨b,0,none⟩) hs y from fun y hy=>by
    rcases hy with hy|⟨u,hu,hy⟩
    ·left;right
     cases hy
     exact⟨Nat.le_trans (za S4) (za G3),((za O3).foot g (.inl rfl)).2.1⟩
    ·exact .inr (.inr ⟨u,List.mem_of_mem_drop hu,hy⟩))
   have AC:=zaa (zgl (c2:=⟨k,t.toNat,c.ht,c.hv,c.es.drop q⟩) (za Z4) hN (za O3) (za FT) (za OK2) (za LE2))
   have FL:=zaa (show ∀ e W,znq (fun g=>Av g∨(w.heap.size≤g∧g<V3.heap.size)) base L d M room (N+1) V3 c n (some ⟨b,0,none⟩) ec hs ⟨k,t.toNat,c.ht,c.hv,c.es.drop q⟩ (some ⟨g,0,none⟩) c3 (hs.drop q) (zbm room n (za7 ⟨k,t.toNat,c.ht,c.hv,c.es.drop q⟩) ss) e W→ze0 Av base L d M room (N+1) w (zrm room n c ⟨k,t.toNat,c.ht,c.hv,c.es.drop q⟩ ss) e W from fun e W h=>znq.lg (za A4) (fun y hy=>⟨.inl hy,fun hf=>by
    rcases hf with hf|⟨u,hu,hf⟩
    ·obtain rfl:g=y:=Option.some.inj (show some g=some y from hf);have h1:=(za Z).dk.lt (.inl hy);have h2:=za S4;have h3:=za G3;have h4:=(za U2).size;omega
    ·exact((za Z).av y hy).2 (.inr ⟨u,List.mem_of_mem_drop hu,hf⟩)⟩) h)
   dsimp only at AC;rw[za TT,za ML] at AC;have l3:V3.cell? ⟨L,3,none⟩=some (.int .i64 (c.ht:Int)):=zab (za Z4).lg.row 3 _ rfl;have l4:V3.cell? ⟨L,4,none⟩=some (.int .i64 (c.hv:Int)):=zab (za Z4).lg.row 4 _ rfl;generalize zrm room n c ⟨k,t.toNat,c.ht,c.hv,c.es.drop q⟩ ss=wn at *;generalize zbm room n (za7 ⟨k,t.toNat,c.ht,c.hv,c.es.drop q⟩) ss=r6 at *;clear d1 d5 g1 g5
   go_wp2_with fail
   go_at_call 59
   refine(za AC).mono ?_;rintro e V6 hA;have FE:=zaa (za FL _ _ hA);obtain⟨rfl,a6,y6,n6⟩:=hA;clear a6 y6 n6 AC
   go_wp2
   go_ret
   rw[za WC];exact za FE
end
theorem zr3 {c:Wc} (hi:Ix c) {k:Nat} (h1:c.bi<k) (h2:k≤c.bi+c.es.length):zb7 c.es ((k:Int)+1) ((c.bi+c.es.length:Nat):Int)=c.es.drop (k - c.bi):=by
 unfold zb7;have e:c.es.filter (fun e=>decide ((k:Int)+1≤(e.2.2.1:Int))&&decide ((e.2.2.1:Int)≤((c.bi+c.es.length:Nat):Int)))=(c.es.take (k - c.bi)++c.es.drop (k - c.bi)).filter (fun e=>decide ((k:Int)+1≤(e.2.2.1:Int))&&decide ((e.2.2.1:Int)≤((c.bi+c.es.length:Nat):Int))):=by rw[List.take_append_drop]
 rw[e,List.filter_append,List.filter_eq_nil_iff.2,List.nil_append,List.filter_eq_self.2]
 ·intro x hx;obtain⟨j,hj,rfl⟩:=List.mem_iff_getElem.1 hx;rw[List.length_drop] at hj;have:=hi (k - c.bi+j) (by omega);rw[List.getElem_drop];simp only[Bool.and_eq_true,decide_eq_true_eq];omega
 ·intro x hx;obtain⟨j,hj,rfl⟩:=List.mem_iff_getElem.1 hx;rw[List.length_take] at hj;have:=hi j (by omega);rw[List.getElem_take];simp only[Bool.and_eq_true,decide_eq_true_eq];omega
def zdu (room n:Nat) (c:Wc) (i:Int) (ss:Ds):Nat×Ds×Wc×Nat :=
 if (zdd c i).2=false then (2,ss,c,n)
 else if i=(c.bi:Int) then (0,ss,c,n)
 else zve room n c ⟨i.toNat,(zdd c i).1.toNat,c.ht,c.hv,c.es.drop (i.toNat - c.bi)⟩ ss
section
variable {Fv:Nat→Prop} {w w':World} {Lr R room n:Nat} {ss:Ds} {c:Wc}
theorem zl5 (h:RL Fv w Lr R room ss n c) (hc:zht 300 ss) (hn:n+1<1099511627776) (i:Int):Calls Tryz.prog 35 #[.pointer (some ⟨Lr,0,none⟩),.int .i64 i] w (zc7 Fv w Lr R room (zdu room n c i ss)):=by
 have TC:=zaa (zsn h i);have HH:=zaa h
 have BI:=zaa (show ∀ V,Below w.heap.size w V→V.cell? ⟨Lr,2,none⟩=some (.int .i64 (c.bi:Int)) from fun V u=>by
  obtain⟨sp,k,h1,h2⟩:=h.lg
  exact zab (zac u h1) 2 _ rfl)
 by_cases hb:i=(c.bi:Int)
 ·as_aux_lemma =>
  have e1:zdd c i=((c.bt:Int),true):=by unfold zdd;rw[if_pos hb]
  have RC:=zaa (show zdu room n c i ss=(0,ss,c,n) from by unfold zdu;rw[e1];dsimp only;rw[if_neg (by decide),if_pos hb]);rw[e1] at TC;dsimp only at TC;generalize zdu room n c i ss=RR at *;clear h hc e1;subst hb;go_enter Tryz.func35,Tryz.ntmps35
  go_wp2_with fail
  go_at_call 14
  refine(za TC).mono ?_;rintro e V ⟨rfl,v⟩;have U:=zaa v;have l2:=za BI V v;clear v
  go_wp2_with fail
  go_ret
  rw[za RC];exact(za HH).stay (za U) (x:=0)
 have hb1:(i==(c.bi:Int))=false:=by simp[hb]
 by_cases hr:(c.bi:Int)<i∧i≤((c.bi+c.es.length:Nat):Int)
 ·as_aux_lemma =>
  obtain⟨k,rfl⟩:∃ k:Nat,i=(k:Int):=⟨i.toNat,by omega⟩
  obtain⟨t,ht⟩:∃ t:Nat,((c.es.getD (((k:Nat):Int) - (c.bi:Int) - 1).toNat default).2.1)=t:=⟨_,rfl⟩
  have e1:zdd c (k:Int)=((t:Int),true):=by unfold zdd;rw[if_neg hb,if_pos hr,ht]
  obtain⟨ok,ix,_⟩:=zrr (k:=k) (t:=(t:Int)) h.ok h.ix (by omega) (by omega) (by rw[ht]);have ED:=zaa (zr3 h.ix (k:=k) (by omega) (by omega));rw[show((c.bi+c.es.length:Nat):Int)=(c.bi:Int)+(c.es.length:Int) from by omega] at ED;have hle:(c.es.drop (k - c.bi)).length≤1000000:=by rw[List.length_drop];have:=h.le;omega
  rw[Int.toNat_natCast] at ok ix;have RC:=zaa (show zdu room n c (k:Int) ss=zve room n c ⟨k,t,c.ht,c.hv,c.es.drop (k - c.bi)⟩ ss from by unfold zdu;rw[e1];dsimp only;rw[if_neg (by decide),if_neg hb,Int.toNat_natCast,Int.toNat_natCast]);have RH:=zaa (zqb (room:=room) (n:=n) (c:=c) (ss:=ss) (c2:=⟨k,t,c.ht,c.hv,c.es.drop (k - c.bi)⟩) rfl rfl)
  have AC:=zaa (show ∀ V,Below w.heap.size w V→∀ (sp2:Option Addr) (sm k2:Nat),(c.es.drop (k - c.bi)).length=sm→EntsIn (fun g=>Fv g∨(w.heap.size≤g∧g<V.heap.size)) V sp2 ((c.es.drop (k - c.bi)).map toI)→Calls Tryz.prog 76 #[.pointer (some ⟨Lr,0,none⟩),.agg #[.int .i64 (k:Int),.int .i64 (t:Int),.int .i64 (c.ht:Int),.int .i64 (c.hv:Int),.slice sp2 sm k2]] V (fun e V2=>zc7 Fv w Lr R room (zve room n c ⟨k,t,c.ht,c.hv,c.es.drop (k - c.bi)⟩ ss) e V2∧Grew2 Lr (some R) V V2) from fun V u sp2 sm k2 hsm hE=>by
   subst hsm
   exact zg9 h hc hn u ⟨k,t,c.ht,c.hv,c.es.drop (k - c.bi)⟩ sp2 k2 hE ok ix hle)
  rw[← za RC] at AC RH;rw[e1] at TC;dsimp only at TC;generalize zdu room n c (k:Int) ss=RR at *;have hk8:(k:Int)≤2199023255552:=by have:=h.ok.bi;have:=h.le;omega
  have hw1:IntKind.i64.wrap ((k:Int)+1)=(k:Int)+1:=by rw[IntKind.wrap_i64];omega
  have K45:=zaa (show ∀ V,Below w.heap.size w V→V.cell? ⟨Lr,4,none⟩=some (.int .i64 (c.ht:Int))∧V.cell? ⟨Lr,5,none⟩=some (.int .i64 (c.hv:Int)) from fun V u=>(h.later u).hard);clear h hc e1 ht ok ix hle RC hr;go_enter Tryz.func35,Tryz.ntmps35
  go_wp2_with fail
  go_at_call 14
  refine(za TC).mono ?_;rintro e V ⟨rfl,v⟩;have U:=zaa v;have l2:=za BI V v;clear v
  go_wp2_with fail
  clear l2;have U:=zaa ((za U).drew);have XK:=zaa (za K45 _ (za U));refine wp_region_held_drew (S:=fun u=>u.cell? ⟨Lr,4,none⟩=some (.int .i64 (c.ht:Int))∧u.cell? ⟨Lr,5,none⟩=some (.int .i64 (c.hv:Int))) (by kernel_rfl) ?_ (fun hHeld=>?_)
  ·try dsimp only
   exact⟨(za XK).1,(za XK).2⟩
  refine hT 0 ?_;refine hT 1 ?_;refine hT 2 ?_;refine hT 3 ?_;refine hT 4 ?_;refine hT 5 ?_;refine hT 6 ?_;refine hT 7 ?_;refine hT 8 ?_;refine hT 9 ?_;refine hT 10 ?_;refine hT 11 ?_;refine hT 12 ?_;refine hO 13 (fun K hK=>?_);go_simp
  first
   |(have hV:EN=EN:=rfl;clear hV;refine(za AC _ (za U) _ _ _ (za EM) (za EN)).mono ?_;rintro e V ⟨⟨rfl,h3,h4⟩,h5⟩;have XK:=zaa h3.hard;rw[(za RH).1,(za RH).2] at XK;have FF:=zaa (show zc7 Fv w Lr R room RR (.returned (.int .i64 (RR.1:Int))) V from⟨rfl,h3,h4⟩);clear h3 h4 h5)
   |(have hV:LN=LN:=rfl;clear hV;refine(zif ((za HH).later (za U)) _ _).mono ?_;rintro e V ⟨sq,sm,sk,rfl,hm,hE,v⟩;rw[za ED] at hm hE;have EM:=zaa hm;have EN:=zaa (hE.sub (fun g hg=>by rcases hg with hg|hg;exact .inl hg;exact .inr ⟨by have:=(za U).size;omega,hg.2⟩):EntsIn (fun g=>Fv g∨(w.heap.size≤g∧g<V.heap.size)) V sq ((c.es.drop (k - c.bi)).map toI));have U:=zaa ((za U).trans (v.mono (za U).size));have XK:=zaa (za K45 _ (za U));clear hm hE v)
   |(refine(zgi ((za HH).later (za U))).mono ?_;rintro e V ⟨rfl,v⟩;have LN:=zaa (rfl:V=V);have U:=zaa ((za U).trans (v.mono (za U).size));have XK:=zaa (za K45 _ (za U));clear v)
  go_wp2_with fail
  refine hK.out _ _ ?_ (fun hHeld=>?_)
  ·try dsimp only
   exact⟨(za XK).1,(za XK).2⟩
  clear hK K;refine hP ?_;refine hO 14 (fun K hK=>?_);go_simp
  first
   |(have hV:EN=EN:=rfl;clear hV;refine(za AC _ (za U) _ _ _ (za EM) (za EN)).mono ?_;rintro e V ⟨⟨rfl,h3,h4⟩,h5⟩;have XK:=zaa h3.hard;rw[(za RH).1,(za RH).2] at XK;have FF:=zaa (show zc7 Fv w Lr R room RR (.returned (.int .i64 (RR.1:Int))) V from⟨rfl,h3,h4⟩);clear h3 h4 h5)
   |(have hV:LN=LN:=rfl;clear hV;refine(zif ((za HH).later (za U)) _ _).mono ?_;rintro e V ⟨sq,sm,sk,rfl,hm,hE,v⟩;rw[za ED] at hm hE;have EM:=zaa hm;have EN:=zaa (hE.sub (fun g hg=>by rcases hg with hg|hg;exact .inl hg;exact .inr ⟨by have:=(za U).size;omega,hg.2⟩):EntsIn (fun g=>Fv g∨(w.heap.size≤g∧g<V.heap.size)) V sq ((c.es.drop (k - c.bi)).map toI));have U:=zaa ((za U).trans (v.mono (za U).size));have XK:=zaa (za K45 _ (za U));clear hm hE v)
   |(refine(zgi ((za HH).later (za U))).mono ?_;rintro e V ⟨rfl,v⟩;have LN:=zaa (rfl:V=V);have U:=zaa ((za U).trans (v.mono (za U).size));have XK:=zaa (za K45 _ (za U));clear v)
  go_wp2_with fail
  refine hK.out _ _ ?_ (fun hHeld=>?_)
  ·try dsimp only
   exact⟨(za XK).1,(za XK).2⟩
  clear hK K;refine hP ?_;refine hT 15 ?_;refine hO 16 (fun K hK=>?_);go_simp
  first
   |(have hV:EN=EN:=rfl;clear hV;refine(za AC _ (za U) _ _ _ (za EM) (za EN)).mono ?_;rintro e V ⟨⟨rfl,h3,h4⟩,h5⟩;have XK:=zaa h3.hard;rw[(za RH).1,(za RH).2] at XK;have FF:=zaa (show zc7 Fv w Lr R room RR (.returned (.int .i64 (RR.1:Int))) V from⟨rfl,h3,h4⟩);clear h3 h4 h5)
   |(have hV:LN=LN:=rfl;clear hV;refine(zif ((za HH).later (za U)) _ _).mono ?_;rintro e V ⟨sq,sm,sk,rfl,hm,hE,v⟩;rw[za ED] at hm hE;have EM:=zaa hm;have EN:=zaa (hE.sub (fun g hg=>by rcases hg with hg|hg;exact .inl hg;exact .inr ⟨by have:=(za U).size;omega,hg.2⟩):EntsIn (fun g=>Fv g∨(w.heap.size≤g∧g<V.heap.size)) V sq ((c.es.drop (k - c.bi)).map toI));have U:=zaa ((za U).trans (v.mono (za U).size));have XK:=zaa (za K45 _ (za U));clear hm hE v)
   |(refine(zgi ((za HH).later (za U))).mono ?_;rintro e V ⟨rfl,v⟩;have LN:=zaa (rfl:V=V);have U:=zaa ((za U).trans (v.mono (za U).size));have XK:=zaa (za K45 _ (za U));clear v)
  go_wp2_with fail
  refine hK.out _ _ ?_ (fun hHeld=>?_)
  ·try dsimp only
   exact⟨(za XK).1,(za XK).2⟩
  clear hK K;refine hP ?_;refine hT 17 ?_;refine wpAnyH_done (by kernel_rfl) ?_ _
  go_wp2_with fail
  go_ret
  exact za FF
 ·as_aux_lemma =>
  have e1:zdd c i=(0,false):=by unfold zdd;rw[if_neg hb,if_neg hr]
  have RC:=zaa (show zdu room n c i ss=(2,ss,c,n) from by unfold zdu;rw[e1];dsimp only;rw[if_pos rfl]);rw[e1] at TC;dsimp only at TC;generalize zdu room n c i ss=RR at *;clear h hc e1 hr;go_enter Tryz.func35,Tryz.ntmps35
  go_wp2_with fail
  go_at_call 14
  refine(za TC).mono ?_;rintro e V ⟨rfl,v⟩;have U:=zaa v;clear v
  go_wp2_with fail
  go_ret
  rw[za RC];exact(za HH).stay (za U) (x:=2)
end
def zxn (room n:Nat) (c:Wc) (t v:Nat) (ss:Ds):Nat×Ds×Wc×Nat :=
 if t=c.ht∧v=c.hv then (0,ss,c,n)
 else if (zdp room n c (zb2 t v) ss).1≠0 then ((zdp room n c (zb2 t v) ss).1,(zdp room n c (zb2 t v) ss).2.1,c,(zdp room n c (zb2 t v) ss).2.2)
 else (0,(zdp room n c (zb2 t v) ss).2.1,{ c with ht:=t,hv:=v },(zdp room n c (zb2 t v) ss).2.2)
section
variable {Fv:Nat→Prop} {w w':World} {Lr R room n:Nat} {ss:Ds} {c:Wc}
theorem RL.store (h:RL Fv w Lr R room ss n c) {W:World} (g:w.grownBy W (some Lr)) {c2:Wc} {sp2:Option Addr} {k2:Nat} (hrow:W.heap[Lr]? = some (.cells (zhw R n c2 sp2 k2) 79 (0,0))) (hE:EntsIn Fv w sp2 (c2.es.map toI)) (ok:WOk c2) (ix:Ix c2) (le:c2.es.length≤1000000):RL Fv W Lr R room ss n c2:=by
 refine⟨?_,h.ne,h.nL,h.nR,⟨sp2,k2,hrow,(hE.both.same (fun x hx=>g.block x hx.2 (fun e=>?_))).sub (fun x hx=>hx.1)⟩,ok,ix,le,h.nn⟩
 ·obtain⟨sp',c',rs,q1,q2,q3⟩:=h.dk;refine⟨sp',c',rs,q1.same (g.block R h.dk.ltR (fun e=>h.ne (Option.some.inj e).symm)) (fun x hx=>g.block x (q1.own.lt hx).2 (fun e=>?_)),q2,q3⟩;have e2:=Option.some.inj e;have z:=q3 x hx;rw[e2] at z;exact h.nL z
 ·have e2:=Option.some.inj e;have z:=hx.1;rw[e2] at z;exact h.nL z
theorem zc7.base {r:Nat×Ds×Wc×Nat} {e:Ending} {V V2:World} (hL:RL Fv w Lr R room ss n c) (hb:Below w.heap.size w V) (h:zc7 Fv V Lr R room r e V2):zc7 Fv w Lr R room r e V2:=by
 obtain⟨h1,h2,h3⟩:=h;have l1:=hL.ltL;have l2:=hL.dk.ltR;have s1:=hb.size;refine⟨h1,h2.sub (fun g hg=>?_) (fun q=>?_) (fun q=>?_),(Grew2.ofBelow hb).transW h3⟩
 ·rcases hg with hg|hg
  ·exact .inl hg
  ·exact .inr ⟨by omega,hg.2⟩
 ·rcases q with q|q
  ·exact hL.nL q
  ·omega
 ·rcases q with q|q
  ·exact hL.nR q
  ·omega
theorem set45 {w:World} {g:Nat} {o a b c d e f x y:Value} {T:TypeId} (h:w.heap[g]? = some (.cells #[o,a,b,c,d,e,f] T (0,0))):∃ W,W.heap[g]? = some (.cells #[o,a,b,c,x,y,f] T (0,0))∧w.grownBy W (some g)∧(w.setCell ⟨g,4,none⟩ x).setCell ⟨g,5,none⟩ y=W:=by
 have h1:=heap_setCell_same w g 4 #[o,a,b,c,d,e,f] T x h;have h2:=heap_setCell_same _ g 5 _ T y h1;exact⟨_,h2,zag (zaf w g 4 x) (zaf _ g 5 y),rfl⟩
theorem Grew2.ofStored {B:Nat} {o:Option Nat} (h:w.grownBy w' (some B)):Grew2 B o w w':=⟨h.os,h.tape,h.output,h.size,fun i hi h1 _=>h.block i hi (fun e=>h1 (Option.some.inj e))⟩
theorem zzu (h:RL Fv w Lr R room ss n c) (t v:Int) (hno:¬ (0≤t∧t≤1099511627776∧0≤v∧v≤9)) :
  Calls Tryz.prog 32 #[.pointer (some ⟨Lr,0,none⟩),.agg #[.int .i64 t,.int .i64 v]] w (zc7 Fv w Lr R room (2,ss,c,n)):=by
 have b1:Below w.heap.size w (w.alloc (.cells #[.int .i64 t,.int .i64 v] 29)):=(Below.refl _ _).alloc (Nat.le_refl _) _;have X1:=zaa (zad w (.cells #[.int .i64 t,.int .i64 v] 29));have x0:=zab (za X1) 0 _ rfl;have x1:=zab (za X1) 1 _ rfl;have HC:=zaa (fun W=>zoj t v W hno);have HH:=zaa h;have B1:=zaa b1;clear h b1 hno;go_enter Tryz.func32,Tryz.ntmps32
 go_wp2_with fail
 clear x0 x1;generalize w.alloc _=w1 at *;go_at_call 73
 refine(za HC _).mono ?_;rintro e V1 ⟨rfl,v1⟩;have FF:=zaa ((za HH).stay ((za B1).trans (v1.mono (za B1).size)) (x:=2));clear v1
 go_wp2_with fail
 go_ret
 exact za FF
theorem zxu (h:RL Fv w Lr R room ss n c) (hc:zht 300 ss) (hn1:n+1<1099511627776) (t v:Nat) (ht:t≤1099511627776) (hv:v≤9) :
  Calls Tryz.prog 32 #[.pointer (some ⟨Lr,0,none⟩),.agg #[.int .i64 (t:Int),.int .i64 (v:Int)]] w (zc7 Fv w Lr R room (zxn room n c t v ss)):=by
 have b1:Below w.heap.size w (w.alloc (.cells #[.int .i64 (t:Int),.int .i64 (v:Int)] 29)):=(Below.refl _ _).alloc (Nat.le_refl _) _;have X1:=zaa (zad w (.cells #[.int .i64 (t:Int),.int .i64 (v:Int)] 29));have x0:=zab (za X1) 0 _ rfl;have x1:=zab (za X1) 1 _ rfl;have HC:=zaa (fun W=>zh5 t v W ht hv);have HH:=zaa h;have B1:=zaa b1;have FEW:=zaa hc;have TV:=zaa (show t≤1099511627776∧v≤9 from⟨ht,hv⟩);have SZ:=zaa (show w.heap.size≤(w.alloc (.cells #[.int .i64 (t:Int),.int .i64 (v:Int)] 29)).heap.size from b1.size);have NL6:=zaa (show(za2 t++za2 v).length≤60 by have:=zbt t ht;have:=zbt v (by omega);rw[List.length_append];omega);have HL:=zaa (zg2 t v ht hv);have K45:=zaa (show ∀ V,Below w.heap.size w V→V.cell? ⟨Lr,4,none⟩=some (.int .i64 (c.ht:Int))∧V.cell? ⟨Lr,5,none⟩=some (.int .i64 (c.hv:Int)) from fun V u=>(h.later u).hard)
 have WH:=zaa (show zxn room n c t v ss=(if t=c.ht∧v=c.hv then (0,ss,c,n)
  else if (zdp room n c (zb2 t v) ss).1≠0 then ((zdp room n c (zb2 t v) ss).1,(zdp room n c (zb2 t v) ss).2.1,c,(zdp room n c (zb2 t v) ss).2.2)
  else (0,(zdp room n c (zb2 t v) ss).2.1,{ c with ht:=t,hv:=v },(zdp room n c (zb2 t v) ss).2.2)) from rfl)
 generalize zxn room n c t v ss=wh at *;clear h b1 ht hv hc;go_enter Tryz.func32,Tryz.ntmps32
 go_wp2_with fail
 clear x0 x1;generalize w.alloc _=w1 at *;go_at_call 73
 refine(za HC _).mono ?_;rintro e V1 ⟨g1,m1,k1,rfl,hm1,o1,v1⟩;have U1:=zaa ((za B1).trans (v1.mono (za B1).size));have X2:=zaa (zac v1 (za X1));have O1:=zaa o1;clear v1 o1 HC;have x0:=zab (za X2) 0 _ rfl;have x1:=zab (za X2) 1 _ rfl;obtain⟨l3,l4⟩:=za K45 V1 (za U1);have BD:=zaa (show ∀ k,Below V1.heap.size V1 (V1.drewN k) from fun k=>⟨rfl,rfl,rfl,Nat.le_refl _,fun _ _=>rfl⟩);by_cases h1:t=c.ht∧v=c.hv
 ·as_aux_lemma =>
  have FE:=zaa (show ∀ k,zc7 Fv w Lr R room wh (.returned (.int .i64 0)) (V1.drewN k) from fun k=>by
   rw[za WH,if_pos h1]
   exact(za HH).stay ((za U1).trans ((za BD k).mono (za U1).size)) (x:=0))
  obtain⟨rfl,rfl⟩:=h1
  go_wp2_with fail
  go_quiet (fail)
  go_wp2
  go_ret
  exact za FE _
 ·rw[if_neg h1] at WH;have h2:(((t:Int)==(c.ht:Int))=true∧((v:Int)==(c.hv:Int))=false∧¬ (v:Int)=(c.hv:Int))∨(((t:Int)==(c.ht:Int))=false∧¬ (t:Int)=(c.ht:Int)):=by
   by_cases h2:t=c.ht
   ·left
    have h3:v≠c.hv:=fun h=>h1 ⟨h2,h⟩;exact⟨by simp[h2],by simp;omega,by omega⟩
   ·right
    exact⟨by simp;omega,by omega⟩
  clear h1;rcases h2 with⟨k1',k2,k3⟩|⟨k1',k2⟩
  focus
   go_wp2_with fail
   go_quiet (fail)
  rotate_left
  focus
   go_wp2_with fail
   go_quiet (fail)
  all_goals
   have U2:=zaa ((za U1).trans ((za BD nq).mono (za U1).size));have O2:=zaa ((za O1).later (za BD nq));have X3:=zaa (zac (za BD nq) (za X2));clear k1' k2;try clear k3
   clear l3 l4 x0 x1 BD X2 X1 U1 O1;generalize V1.drewN nq=V2 at *;have RC:=zaa (zf4 2 g1 m1 k1 (za2 t++za2 v) V2 (by decide) (za hm1) (za O2).bytes (zi8 (za O2).bytes (by have:=(zda t).1;rw[List.length_append];omega)) (by have:=za hm1;have:=za NL6;omega))
   go_wp2_with fail
   go_at_call 69
   refine(za RC).mono ?_;rintro e V3 ⟨g2,m2,k2,rfl,hm2,o2,v2⟩;have U3:=zaa ((za U2).trans (v2.mono (za U2).size));have X4:=zaa (zac v2 (za X3));have hbig:∀ g off,g2=some ⟨g,off,none⟩→0<(zjw 2 (za2 t++za2 v)).length→g≠R∧g≠Lr:=fun g off e _=>by
    have h1:=(o2.blk_lt g (by rw[e];rfl)).1;have h2:=(za U2).size;have h3:=(za HH).ltL;have h4:=(za HH).dk.ltR;exact⟨by omega,by omega⟩
   have AC:=zaa (zl ((za HH).later (za U3)) (za FEW) hn1 g2 m2 k2 (zb2 t v) (za hm2) o2.bytes hbig (by have h1:(zb2 t v).length=m2:=za hm2;have:=za HL;omega));clear v2 o2 hbig RC;generalize zdp room n c (zb2 t v) ss=r3 at *;obtain⟨e3,s3,n3⟩:=r3;try dsimp only at WH
   try dsimp only at AC
   go_wp2_with fail
   go_at_call 71
   refine(za AC).mono ?_;rintro e V4 ⟨rfl,z4,g4⟩;have X5:=zaa (zie g4 (za X4) (by have:=(za HH).ltL;omega) (by intro e;have:=Option.some.inj e;have:=(za HH).dk.ltR;omega));have Z4:=zaa z4;have G4:=zaa g4;clear z4 g4 AC;dsimp only;by_cases h3:e3=0
   ·as_aux_lemma =>
    subst h3;rw[if_neg (by simp)] at WH;obtain⟨sp4,kk4,r4,ee4⟩:=(za Z4).lg;dsimp only at r4 ee4;obtain⟨W,hrow,gW,hW⟩:=set45 (x:=.int .i64 (t:Int)) (y:=.int .i64 (v:Int)) r4;have HW:=zaa hW;have zok:=(za Z4).ok
    have FE:=zaa (show zc7 Fv w Lr R room wh (.returned (.int .i64 0)) W by
     rw[za WH];refine zc7.base (za HH) (za U3) (V2:=W) ⟨rfl,?_,(za G4).transW (Grew2.ofStored gW)⟩;have hs:=(za Z4).store gW (c2:={ c with ht:=t,hv:=v }) (sp2:=sp4) (k2:=kk4) hrow ee4 ⟨zok.bi,zok.bt,(za TV).1,(za TV).2,zok.es⟩ (za Z4).ix (za Z4).le;have l1:=(za HH).ltL;have l2:=(za HH).dk.ltR;have s1:=(za U3).size;refine hs.sub (fun g hg=>?_) (fun q=>?_) (fun q=>?_)
     ·rcases hg with hg|hg
      ·exact .inl hg
      ·exact .inr ⟨hg.1,Nat.lt_of_lt_of_le hg.2 gW.size⟩
     ·rcases q with q|q
      ·exact(za HH).nL q
      ·omega
     ·rcases q with q|q
      ·exact(za HH).nR q
      ·omega)
    have x0:V4.cell? ⟨w.heap.size,0,none⟩=some (.int .i64 (t:Int)):=zab (za X5) 0 _ rfl;have x1:V4.cell? ⟨w.heap.size,1,none⟩=some (.int .i64 (v:Int)):=zab (za X5) 1 _ rfl;have m4:V4.cell? ⟨Lr,4,none⟩=some (.int .i64 (c.ht:Int)):=zab r4 4 _ rfl;have m5:V4.cell? ⟨Lr,5,none⟩=some (.int .i64 (c.hv:Int)):=zab r4 5 _ rfl;have f4:=zae r4 4;have f5:=zae r4 5;clear hrow gW hW zok r4 ee4
    go_wp2_with fail
    rw[za HW];go_ret
    exact za FE
   ·as_aux_lemma =>
    rw[if_pos h3] at WH;have h3':((e3:Int)==0)=false:=by simp;omega
    have h3'':¬ (e3:Int)=0:=by omega
    have FE:=zaa (show zc7 Fv w Lr R room wh (.returned (.int .i64 (e3:Int))) V4 by
     rw[za WH]
     exact zc7.base (za HH) (za U3) ⟨rfl,za Z4,za G4⟩)
    go_wp2
    go_ret
    exact za FE
end
def zjl (room n:Nat) (c:Wc) (es:List EntI) (ss:Ds):Nat×Ds×Wc×Nat :=
 match zcl es with
 |.error x=>(x,ss,c,n)
 |.ok b =>
  if zcn c es=false then (2,ss,c,n)
  else if es.length=0 then (0,ss,c,n)
  else if (zdp room n c b ss).1≠0 then ((zdp room n c b ss).1,(zdp room n c b ss).2.1,c,(zdp room n c b ss).2.2)
  else (0,(zdp room n c b ss).2.1,zbk c es,(zdp room n c b ss).2.2)
def zu4 (c:Wc) (es:List EntI) (j:Nat) (hj:j<es.length):Prop:=(∀ i (hi:i<es.length),j=i+1→es[j].2.2.1 - 1=es[i].2.2.1)∧zde (zbk c (es.take j)) es[j].2.2.1=true
theorem zs9:∀ (r:List EntI) (i:Int),(∀ j (hj:j<r.length),r[j].2.2.1=i+1+j)→zfg i r=true
 |[],_,_=>rfl
 |e::r,i,h=>by
  have h0:=h 0 (by simp);simp only[List.getElem_cons_zero] at h0;rw[zid,Bool.and_eq_true];refine⟨by rw[beq_iff_eq];omega,zs9 r _ (fun j hj=>?_)⟩;have:=h (j+1) (by simp;omega);simp only[List.getElem_cons_succ] at this;omega
theorem zzb {c:Wc} {es:List EntI} (h:∀ j hj,zu4 c es j hj):zcn c es=true:=by
 cases es with
 |nil=>rfl
 |cons e r =>
  rw[zgy,Bool.and_eq_true];have hall:∀ j (hj:j<(e::r).length),(e::r)[j].2.2.1=e.2.2.1+j:=by
   intro j;induction j with
   |zero=>intro hj;simp
   |succ j ih =>
    intro hj;have h1:=(h (j+1) hj).1 j (by omega) rfl;have h2:=ih (by omega);omega
  refine⟨(h 0 (by simp)).2,zs9 r _ (fun j hj=>?_)⟩;have:=hall (j+1) (by simp;omega);simp only[List.getElem_cons_succ] at this;omega
theorem zyr {c:Wc} {es:List EntI} (h:zcn c es=true) (hp:∀ e∈es,1≤e.2.2.1) (j:Nat) (hj:j<es.length):zu4 c es j hj:=by
 have hf:=zwy h hp j hj;have h1:=hp _ (List.getElem_mem hj);refine⟨fun i hi e=>?_,?_⟩
 ·subst e;cases es with
  |nil=>simp at hi
  |cons x r =>
   rw[zgy,Bool.and_eq_true] at h;have hc:=znx _ r h.2;simp only[List.getElem_cons_succ];have q1:=hc i (by simp only[List.length_cons] at hj;omega);cases i with
   |zero=>simp only[List.getElem_cons_zero];omega
   |succ i =>
    have q2:=hc i (by simp only[List.length_cons] at hj;omega);simp only[List.getElem_cons_succ];omega
 ·unfold zde;rw[Bool.and_eq_true,decide_eq_true_eq,decide_eq_true_eq,(zgr c (es.take j)).1];omega
theorem OwnEI.entsIn {base:Nat} {w:World} {sp:Option Addr} {c:Nat} {es:List EntI} (h:OwnEI base w sp c es):EntsIn (fun g=>base≤g∧g<w.heap.size) w sp es:=by
 have hE:=h.ents;have lt:=EntsIn.ofLt hE;have hge:=h.blk_ge;obtain⟨hs,hl,hrow,hdat⟩:=h.ex;refine⟨hE,fun b off e h0=>⟨hge b (by rw[e];rfl),lt.row b off e h0⟩,fun i hi b off dp dc n e hc g o e1 h0=>⟨?_,lt.dat i hi b off dp dc n e hc g o e1 h0⟩⟩;rcases hrow.2 with⟨_,h0⟩|⟨g',cap,cur,hv,_,hg,_,_,_,ht⟩
 ·omega
 ·simp only[Value.slice.injEq] at hv;obtain⟨rfl,_,_⟩:=hv;cases e
  have hih:i<hs.length:=by omega
  have key:w.cell? ⟨b,0+i*4+3,none⟩=(zbu es[i] hs[i])[3]?:=by
   rw[cell_of_row w b _ cur _ _ hg,Nat.zero_add];have e:=zhb es hs i 3 hi hih (by omega);rw[← ht,List.getElem?_take,if_pos (by omega)] at e;rw[← Array.getElem?_toList,e]
  rw[hc] at key;have e3:dp=hs[i].1:=by
   simp only[zbu,List.getElem?_cons_succ,List.getElem?_cons_zero,Option.some.injEq,Value.slice.injEq] at key;exact key.1
  have hd:=hdat i hi;rw[show hs.getD i (none,0)=hs[i] by simp[List.getD_eq_getElem?_getD,hih]] at hd;exact(hd.blk_lt g (by rw[← e3,e1];rfl)).1
theorem zsk (e:EntI) (dp:Option Addr) (m dc:Nat) (w:World) (hm:e.2.2.2.length=m) (hB:BytesAt w dp e.2.2.2) (hz:dp=none→dc=0) :
  Calls Tryz.prog 68 #[entV e.1 e.2.1 e.2.2.1 dp m dc] w fun r w'=>Below w.heap.size w w'∧(match zi6 e with
   |.error x=>x≠0∧r=.returned (.tuple #[.slice none 0 0,.int .i64 (x:Int)])
   |.ok b=>∃ sp n c,r=.returned (.tuple #[.slice sp n c,.int .i64 0])∧Hid (b.length=n)∧BytesAt w' sp b∧0<b.length∧b.length≤2067):=by
 by_cases h1:zrl e.1 e.2.1 e.2.2.1 e.2.2.2.length
 ·by_cases h2:e.2.2.2.length≤2048
  ·obtain⟨b,hb⟩:∃ b,zi6 e=.ok b:=⟨_,by unfold zi6;rw[if_pos h1,if_pos h2]⟩
   obtain⟨k,t,i,a1,a2,a3,a4,a5,a6,a7⟩:=zk1 hb;rw[a1,a2,a3];refine(zha k t i dp m dc e.2.2.2 w (by rw[← hm];exact a4) hm hB hz a5).mono ?_;rintro r V ⟨sp,n,c,rfl,hn,hb2,v⟩;rw[hb];refine⟨v,sp,n,c,rfl,?_,?_,?_,a7⟩
   ·rw[a6];exact hn
   ·rw[a6];exact hb2
   ·rw[a6];unfold zct;simp
  ·have hb:zi6 e=.error 6:=by unfold zi6;rw[if_pos h1,if_neg h2]
   refine(zh4 e.1 e.2.1 e.2.2.1 dp m dc 6 w (fun W=>zvl _ _ _ dp m dc W (by rw[← hm];exact h1) (by omega)) (by decide)).mono ?_;rintro r V ⟨rfl,v⟩;rw[hb];exact⟨v,by decide,rfl⟩
 ·have hb:zi6 e=.error 2:=by unfold zi6;rw[if_neg h1]
  refine(zh4 e.1 e.2.1 e.2.2.1 dp m dc 2 w (fun W=>zzv _ _ _ dp m dc W (by rw[← hm];exact h1)) (by decide)).mono ?_;rintro r V ⟨rfl,v⟩;rw[hb];exact⟨v,by decide,rfl⟩
end
end Go.Proofs.YtofllbpfajppeaaGreatDoor
