/- Conf: dropPool. -/
import Derived.Test.YtjcjleaicjhpeaaGreatDoorB19
import Derived.Maps.RangeWalk
import Derived.Test.YtjcjleaicjhpeaaGreatDoorB15
import Derived.Test.YtjcjleaicjhpeaaGreatDoorB06
import Derived.Test.YtjcjleaicjhpeaaGreatDoorB03
import Derived.Deep.RegionHeld3
set_option linter.unusedVariables false
set_option maxRecDepth 20000
set_option maxHeartbeats 16000000
namespace Go.Proofs.YtjcjleaicjhpeaaGreatDoor
section
open Go.ChangeShapes Go.WideShapes Go.ChangeAt Go.RowKit
def zd8 (nm:ByteArray) (x:Sm):Int×Sm:=match za9 qnm nm x.ps with
 |none=>(8,x)
 |some _=>if x.rs.any (fun r=>decide (r.l=nm)) then (13,x) else (0,{ x with ps:=zrs qnm nm x.ps })
theorem ztx (a b:ByteArray):(a.toList==b.toList)=decide (a=b):=by
 rw[ByteArray.toList_eq,ByteArray.toList_eq,Bool.eq_iff_iff,beq_iff_eq,decide_eq_true_eq];exact⟨fun h=>zex h,fun h=>by rw[h]⟩
theorem zfp {w:World} {h:StH} {x:Sm} (s:StAt w h x) (nm:ByteArray) (hp:nm.size≤maxLen) :
  Calls Tryz.prog 139 #[.pointer (some ⟨h.S,0,none⟩),.string nm] w fun e w'=>e=.returned (.int .i64 (zd8 nm x).1)∧StAt w' h (zd8 nm x).2∧Chg h w w':=by
 have c1:=s.cell.2.1;have lk:=zr7 s nm hp
 have DR:=zaa (show zd8 nm x=(match za9 qnm nm x.ps with
  |none=>(8,x)
  |some _=>if x.rs.any (fun r=>decide (r.l=nm)) then (13,x) else (0,{ x with ps:=zrs qnm nm x.ps })) from rfl)
 generalize hq:((za9 qnm nm x.ps).getD ⟨⟨⟨#[]⟩,[]⟩,none,0⟩)=q at *;generalize hi:(za9 qnm nm x.ps).isSome=ii at *;have HI:=zaa hi;clear hi hq;obtain⟨⟨qn,qt⟩,qa,qc⟩:=q;simp only[pqV] at lk;have b1:=zaa (show Below w.heap.size w (w.alloc (.cells #[.string qn,.slice qa qt.length qc] 54)) from(Below.refl _ _).alloc (Nat.le_refl _) _);cases ii with
 |false =>
  have hg:za9 qnm nm x.ps=none:=by
   have h1:=za HI;cases hg:za9 qnm nm x.ps with
   |none=>rfl
   |some v=>rw[hg] at h1;cases h1
  have hd:zd8 nm x=(8,x):=by rw[za DR,hg]
  have ch:=zaa (Chg.below (h:=h) (za b1));have st3:=zaa (s.later (za b1));clear DR;go_enter Tryz.func139,Tryz.ntmps139
  go_wp2
  go_ret
  rw[hd];exact⟨rfl,za st3,za ch⟩
 |true =>
  have LP:=zaa (show ∃ v,za9 qnm nm x.ps=some v by
   have h1:=za HI;cases hg:za9 qnm nm x.ps with
   |none=>rw[hg] at h1;cases h1
   |some v=>exact⟨v,rfl⟩)
  obtain⟨pv,hpv⟩:=za LP;have LP:=zaa hpv;have sV:=zaa (s.later (za b1));have c2:=(za sV).cell.2.2.1;obtain⟨D,hD,hS,hL,hH,hA⟩:=(za sV).rm.left;have HD:=zaa hD;have HL0:=zaa hL;have HH:=zaa hH;have HA:=zaa hA;have RISE:=zaa (za sV).rm.rise;have OKK:=zaa (za sV).rm.okk;clear hpv hD hL hH hA hS;go_enter Tryz.func139,Tryz.ntmps139
  go_wp2_with (at_range;refine za ?_)
  refine zaa ?_;generalize w.alloc (.cells #[.string qn,.slice qa qt.length qc] 54)=V at *;refine wpList_range_own _ rfl _ 76 rfl 89 56 zgg zli _ h.R x.fr.length D rfl (za HD) ?_;intro w0 hrg0 hg0 hs0;have RG0:=zaa hrg0;have F0:=zaa (show Below V.heap.size V w0 from⟨hg0.os,hg0.tape,hg0.output,hg0.size,fun i hi=>hg0.block i hi (by simp)⟩);clear hrg0 hg0 hs0
  go_frame
  go_wp2_with fail
  generalize hr:V.heap.size=r at *;go_loopw [8] (fun _ wr=>∃ (left:Lit→Bool) (cnt:Nat) (ks:List Pl),Hid (wr.ranges Tryz.prog 89 zca h.R r x.fr.length D left cnt)∧Hid (LeftK kxP x.fr ks left)∧Hid (∀ kl,left kl=true→Maps.has D kl=true)∧Hid (∀ y∈x.rs,rpl y∈ks→y.l≠nm)∧Hid (Below r V wr)) (fun _ wr=>wr.rangeLeft h.R r)
  case atStart =>
   exact⟨Maps.has D,Maps.size D,[],RG0,HL0,zaa (fun _ e=>e),zaa (fun y _ e=>by simp at e),F0⟩
  case round =>
   obtain⟨left,cnt,ks,RG,HL,HS,HN,F⟩:=hrel
   go_wp2_with (at_next;refine za ?_)
   refine zaa ?_;refine wpList_next_ranges _ rfl _ rfl 89 zgg zca plV (fun v:Value=>v) (fun key kl hkey=>by obtain⟨k,_,e,_⟩:=kxP.inv hkey;exact⟨k,e⟩) (fun v y _=>⟨v,rfl⟩) h.R r x.fr.length D left cnt rfl (za RG) ?_ ?_
   ·intro hc0 hl0;have PM:=zaa ((za HL).perm (za RISE) hl0);have hall:x.rs.any (fun r=>decide (r.l=nm))=false:=by
     rw[List.any_eq_false];intro y hy e;exact za HN y hy ((za PM).mem_iff.2 (List.mem_map.2 ⟨(rpl y,zdi y),List.mem_map.2 ⟨y,hy,rfl⟩,rfl⟩)) (of_decide_eq_true e)
    have hd:zd8 nm x=(0,{ x with ps:=zrs qnm nm x.ps }):=by
     rw[za DR,za LP];simp only[hall];rfl
    have bW:=zaa (show Below V.heap.size V wr by rw[hr];exact za F);obtain⟨W3,hdel,sd,cd⟩:=((za sV).later (za bW)).delP nm hp;have cP:=((za sV).later (za bW)).cell.2.1;have SD:=zaa sd;have CD:=zaa ((Chg.below (h:=h) ((za b1).trans ((za bW).mono (za b1).size))).trans cd);clear sd cd DR hc0 hl0
    go_wp2
    go_ret
    first
     |rw[hd]
     |skip
    exact⟨rfl,za SD,za CD⟩
   ·intro k c kl y w1 cnt1 hkey hlk hR hat hrg1 hlt hg1 hs1 hen;obtain⟨k2,hk2,e1,e2⟩:=kxP.inv hkey;obtain rfl:k=k2:=kxP.vinj e1;have hin:=za HH k hk2 (e2 ▸ za HS kl hlk);obtain⟨⟨k',v⟩,hm,ek⟩:=List.mem_map.1 hin;simp only at ek;subst ek;obtain⟨r1,hr1,er⟩:=List.mem_map.1 hm;simp only[Prod.mk.injEq] at er;have hkr:rpl r1=k':=er.1;have hy1:y.1=.held v:=by rw[← hat (.held v),e2];exact za HA _ hm _
    have hcv:c=v:=by
     simp only[zca,Option.some.injEq] at hR;rw[← hR] at hy1
     simpa using hy1
    have hcr:c=.agg #[.string r1.h,.string r1.p,.string r1.l]:=by rw[hcv,← er.2];rfl
    subst hcr;have F1:=zaa ((za F).grown hg1 (by have:=(za F).size;omega) (fun g' hg'=>by have:=Option.some.inj hg';omega));have RG1:=zaa hrg1;have HC:=zaa hlt;have F2:=zaa ((za F1).alloc (by have:=(za F1).size;omega) (.cells #[.string r1.h,.string r1.p,.string r1.l] 56));have RG2:=zaa ((za RG1).alloc (.cells #[.string r1.h,.string r1.p,.string r1.l] 56));have XB:=zaa (zad w1 (.cells #[.string r1.h,.string r1.p,.string r1.l] 56));have d2:=zab (za XB) 2 _ rfl;have e5:=ztx r1.l nm;have LX:=zaa ((za HL).step zuw (za OKK) hin (e2 ▸ hlk));have KR:=zaa hkr;have R1:=zaa hr1;have E2:=zaa e2;clear hkey hR hat hrg1 hlt hg1 hs1 hin hm er hy1 hcv e1 hk2;by_cases hln:r1.l=nm
    ·have hany:x.rs.any (fun r=>decide (r.l=nm))=true:=List.any_eq_true.2 ⟨r1,za R1,decide_eq_true hln⟩;have hd:zd8 nm x=(13,x):=by
      rw[za DR,za LP];simp only[hany];rfl
     have hdec:decide (r1.l=nm)=true:=decide_eq_true hln;rw[hdec] at e5;have bW:=zaa (show Below V.heap.size V (w1.alloc (.cells #[.string r1.h,.string r1.p,.string r1.l] 56)) by rw[hr];exact za F2);have SD:=zaa ((za sV).later (za bW));have CD:=zaa (Chg.below (h:=h) ((za b1).trans ((za bW).mono (za b1).size)));clear DR hln hany hdec
     go_wp2
     go_ret
     first
      |rw[hd]
      |skip
     exact⟨rfl,za SD,za CD⟩
    ·have hdec:decide (r1.l=nm)=false:=decide_eq_false hln;rw[hdec] at e5
     have HN2:=zaa (show ∀ y∈x.rs,rpl y∈ks++[k']→y.l≠nm from fun y hy hk=>by
      rcases List.mem_append.1 hk with hk|hk
      ·exact za HN y hy hk
      ·have hk3:rpl y=k':=by simpa using hk
       have hg1:=(za RISE).get (show(rpl y,zdi y)∈x.fr from List.mem_map.2 ⟨y,hy,rfl⟩);have hg2:=(za RISE).get (show(rpl r1,zdi r1)∈x.fr from List.mem_map.2 ⟨r1,za R1,rfl⟩);rw[hk3] at hg1;rw[za KR,hg1] at hg2;have h3:=Option.some.inj hg2;simp only[zdi,Value.agg.injEq] at h3;have h4:y.l=r1.l:=by
        have h5:=congrArg (fun a:Array Value=>a[2]?) h3
        simpa using h5
       rw[h4]
       exact hln)
     have HS2:=zaa (show ∀ q,(left q && !q.sameKey kl)=true→Maps.has D q=true from fun q hq=>by
      simp only[Bool.and_eq_true] at hq
      exact za HS q hq.1)
     have LX2:=zaa (show LeftK kxP x.fr (ks++[k']) (fun z=>left z && !z.sameKey kl) by rw[za E2];exact za LX);clear hln hdec DR
     go_wp2
     exact⟨⟨_,cnt1,ks++[k'],RG2,LX2,HS2,HN2,F2⟩,by rw[(za RG2).left_eq,(za RG).left_eq];exact za HC⟩
theorem ze0 {w:World} {h:StH} {x:Sm} (s:StAt w h x) (p:Pl) (hp:p.1.size≤maxLen∧p.2.size≤maxLen) :
  Calls Tryz.prog 141 #[.pointer (some ⟨h.S,0,none⟩),.agg #[.string p.1,.string p.2]] w fun e w'=>e=.returned (.int .i64 (zeo p x).1)∧StAt w' h (zeo p x).2∧Chg h w w':=by
 have b1:=zaa (show Below w.heap.size w (w.alloc (.cells #[.string p.1,.string p.2] 89)) from(Below.refl _ _).alloc (Nat.le_refl _) _);have X1:=zaa (zad w (.cells #[.string p.1,.string p.2] 89))
 have SS:=zaa (show ∀ W:World,Below (w.alloc (.cells #[.string p.1,.string p.2] 89)).heap.size (w.alloc (.cells #[.string p.1,.string p.2] 89)) W→W.cell? ⟨h.S,2,none⟩=some (.map (some h.R))∧W.cell? ⟨w.heap.size,0,none⟩=some (.string p.1)∧W.cell? ⟨w.heap.size,1,none⟩=some (.string p.2)∧(Instr.lookup 76 (.map (some h.R)) (.agg #[.string p.1,.string p.2]) true).run Tryz.prog W=.ok (.tuple #[zdi ((za9 rpl p x.rs).getD rt0),.bool (za9 rpl p x.rs).isSome]) W from fun W hb=>by
  have st:=s.later ((za b1).trans (hb.mono (za b1).size));have hk:=zac hb (za X1)
  exact⟨st.cell.2.2.1,zab hk 0 _ rfl,zab hk 1 _ rfl,zuk st p hp⟩)
 have DR:=zaa (show zeo p x=(match za9 rpl p x.rs with|none=>(8,x)|some _=>(0,{ x with rs:=zrs rpl p x.rs })) from rfl);go_enter Tryz.func141,Tryz.ntmps141
 go_wp2_with fail
 generalize hB:w.heap.size=B at *;generalize w.alloc (.cells #[.string p.1,.string p.2] 89)=V at *;generalize hq:((za9 rpl p x.rs).getD rt0)=q at *;generalize hi:(za9 rpl p x.rs).isSome=ii at *;have HI:=zaa hi;have F:=zaa (show Below V.heap.size V V.drew from(Below.refl _ _).drew);clear hi hq;obtain⟨qh,qp,ql⟩:=q;simp only[zdi] at SS;refine wp_region_held_drew (S:=fun w'=>w'.cell? ⟨h.S,2,none⟩=some (.map (some h.R))∧w'.cell? ⟨B,0,none⟩=some (.string p.1)∧w'.cell? ⟨B,1,none⟩=some (.string p.2)∧(Instr.lookup 76 (.map (some h.R)) (.agg #[.string p.1,.string p.2]) true).run Tryz.prog w'=.ok (.tuple #[.agg #[.string qh,.string qp,.string ql],.bool ii]) w') (by kernel_rfl) ?_ (fun hHeld=>?_)
 ·try dsimp only
  exact za SS _ (za F)
 refine hT 0 ?_;refine hT 1 ?_;refine hT 2 ?_;refine hT 3 ?_;refine hT 4 ?_;refine hT 5 ?_;refine hT 6 ?_;refine hT 7 ?_;refine hT 8 ?_;refine wpAnyH_ready (rs:=[9]) (by kernel_rfl) (by simp) ?_;refine AllReadyH.cons rfl (fun K hK=>?_) ?_
 ·refine zn0 rfl rfl ?_;intro E U hE hEn hb;have LE:=zaa (show V.heap.size≤E by rw[← hE];exact(za F).size);have HE:=zaa hEn;have F:=zaa ((za F).trans (hb.mono (za F).size));clear hE hEn hb;refine hK.out _ _ ?_ (fun hHeld=>?_)
  ·try dsimp only
   exact za SS _ (za F)
  clear hK K;refine hP ?_;refine wpAnyH_ready (rs:=[10]) (by kernel_rfl) (by simp) ?_;refine AllReadyH.cons rfl (fun K hK=>?_) ?_
  ·have z0:=zab (za HE) 0 _ rfl;have z1:=zab (za HE) 1 _ rfl;have z2:=zab (za HE) 2 _ rfl;have f0:U.frozen? ⟨E,0,none⟩=false:=by simp[World.frozen?,za HE]
   have f1:U.frozen? ⟨E,1,none⟩=false:=by simp[World.frozen?,za HE]
   have f2:U.frozen? ⟨E,2,none⟩=false:=by simp[World.frozen?,za HE]
   have a1:=zps (x:=.string qh) (y:=.string qp) (z:=.string ql) (za HE);have F:=zaa ((za F).grown a1.2 (za F).size (fun g e=>by have:=Option.some.inj e;have:=za LE;omega));clear a1;go_simp
   clear z0 z1 z2 f0 f1 f2;refine hK.out _ _ ?_ (fun hHeld=>?_)
   ·try dsimp only
    exact za SS _ (za F)
   clear hK K;refine hP ?_;refine hT 11 ?_;refine wpAnyH_done (by kernel_rfl) ?_ _;generalize (((U.setCell ⟨E,0,none⟩ (.string qh)).setCell ⟨E,1,none⟩ (.string qp)).setCell ⟨E,2,none⟩ (.string ql))=U2 at *;clear hHeld HE LE;have S2:=zaa (za SS _ (za F));have b2:=zaa ((za b1).trans ((za F).mono (by have:=(za b1).size;omega)));have st:=zaa (s.later (show Below w.heap.size w U2 by rw[hB];exact za b2));cases ii with
   |false =>
    have hd:zeo p x=(8,x):=by
     have h1:=za HI;rw[za DR];cases hg:za9 rpl p x.rs with
     |none=>rfl
     |some v=>rw[hg] at h1;cases h1
    have ch:=zaa (show Chg h w U2 from Chg.below (by rw[hB];exact za b2));clear DR
    go_wp2
    go_ret
    rw[hd];exact⟨rfl,za st,za ch⟩
   |true =>
    have hd:zeo p x=(0,{ x with rs:=zrs rpl p x.rs }):=by
     have h1:=za HI;rw[za DR];cases hg:za9 rpl p x.rs with
     |none=>rw[hg] at h1;cases h1
     |some v=>rfl
    have bD:=zaa (show Below V.heap.size V U2.drew from(za F).drew);obtain⟨W3,hdel,sd,cd⟩:=((za st).later (Below.refl _ _).drew).delR p hp;have SD:=zaa sd;have CD:=zaa ((Chg.below (h:=h) (w:=w) (w':=U2) (by rw[hB];exact za b2)).trans ((Chg.below (Below.refl _ _).drew).trans cd));clear sd cd DR
    go_wp2_with fail
    refine wp_region_held_drew (S:=fun w'=>w'=U2.drew∨w'=W3) (by kernel_rfl) ?_ (fun hHeld=>?_)
    ·try dsimp only
     first|exact .inl rfl|exact .inr rfl
    refine hT 0 ?_;refine hT 1 ?_;refine hT 2 ?_;refine wpAnyH_ready (rs:=[3,4]) (by kernel_rfl) (by simp) ?_;refine AllReadyH.cons rfl (fun K hK=>?_) ?_
    ·have e3:=(za SS _ (za bD)).1;go_simp
     clear e3;refine hK.out _ _ ?_ (fun hHeld=>?_)
     ·try dsimp only
      first|exact .inl rfl|exact .inr rfl
     clear hK K;refine hP ?_;refine wpAnyH_ready (rs:=[4]) (by kernel_rfl) (by simp) ?_;refine AllReadyH.cons rfl (fun K hK=>?_) ?_
     ·have e3:=(za SS _ (za bD)).2.1;have e4:=(za SS _ (za bD)).2.2.1;go_simp
      clear e3 e4;refine hK.out _ _ ?_ (fun hHeld=>?_)
      ·try dsimp only
       first|exact .inl rfl|exact .inr rfl
      clear hK K;refine hP ?_;refine wpAnyH_ready (rs:=[5]) (by kernel_rfl) (by simp) ?_;refine AllReadyH.cons rfl (fun K hK=>?_) ?_
      ·go_simp
       refine hK.out _ _ ?_ (fun hHeld=>?_)
       ·try dsimp only
        first|exact .inl rfl|exact .inr rfl
       clear hK K;refine hP ?_;refine wpAnyH_done (by kernel_rfl) ?_ _
       go_wp2
       go_ret
       exact⟨rfl,za SD,za CD⟩
      exact AllReadyH.nil
     exact AllReadyH.nil
    refine AllReadyH.cons rfl (fun K hK=>?_) ?_
    ·have e3:=(za SS _ (za bD)).2.1;have e4:=(za SS _ (za bD)).2.2.1;go_simp
     clear e3 e4;refine hK.out _ _ ?_ (fun hHeld=>?_)
     ·try dsimp only
      first|exact .inl rfl|exact .inr rfl
     clear hK K;refine hP ?_;refine wpAnyH_ready (rs:=[3]) (by kernel_rfl) (by simp) ?_;refine AllReadyH.cons rfl (fun K hK=>?_) ?_
     ·have e3:=(za SS _ (za bD)).1;go_simp
      clear e3;refine hK.out _ _ ?_ (fun hHeld=>?_)
      ·try dsimp only
       first|exact .inl rfl|exact .inr rfl
      clear hK K;refine hP ?_;refine wpAnyH_ready (rs:=[5]) (by kernel_rfl) (by simp) ?_;refine AllReadyH.cons rfl (fun K hK=>?_) ?_
      ·go_simp
       refine hK.out _ _ ?_ (fun hHeld=>?_)
       ·try dsimp only
        first|exact .inl rfl|exact .inr rfl
       clear hK K;refine hP ?_;refine wpAnyH_done (by kernel_rfl) ?_ _
       go_wp2
       go_ret
       exact⟨rfl,za SD,za CD⟩
      exact AllReadyH.nil
     exact AllReadyH.nil
    exact AllReadyH.nil
  exact AllReadyH.nil
 exact AllReadyH.nil
def zc4 (c:Cmd) (a:Option Addr) (tc:Nat):Value:=.agg #[.int .i64 c.act,.int .i64 c.cli,.int .i64 c.seq,.int .i64 c.exp,.string c.host,.string c.pre,.string c.pool,.slice a c.ts.length tc]
def zdm (c:Cmd) (a:Option Addr) (tc:Nat):Array Value:=#[.int .i64 c.act,.int .i64 c.cli,.int .i64 c.seq,.int .i64 c.exp,.string c.host,.string c.pre,.string c.pool,.slice a c.ts.length tc]
structure CmdAt (w:World) (c:Cmd) (a:Option Addr) (tc:Nat):Prop where
 tgs:TgsAt w a c.ts
 tz:∀ t∈c.ts,t.1.size≤140737488355328
 th:c.host.size≤140737488355328
 tp:c.pre.size≤140737488355328
 tl:c.pool.size≤140737488355328
 tn:c.ts.length≤maxLen∧c.ts.length≤tc
 tnil:a=none→tc=0
 ia:-9223372036854775808≤c.act∧c.act≤9223372036854775807
 ic:-9223372036854775808≤c.cli∧c.cli≤9223372036854775807
 is:-9223372036854775808≤c.seq∧c.seq≤9223372036854775807
 ie:-9223372036854775808≤c.exp∧c.exp≤9223372036854775807
theorem CmdAt.later {w w':World} {c:Cmd} {a:Option Addr} {tc:Nat} (h:CmdAt w c a tc) (hb:Below w.heap.size w w'):CmdAt w' c a tc :=
 ⟨h.tgs.later hb,h.tz,h.th,h.tp,h.tl,h.tn,h.tnil,h.ia,h.ic,h.is,h.ie⟩
theorem zgd (c:Cmd) (a:Option Addr) (tc:Nat) (w:World):Calls Tryz.prog 36 #[zc4 c a tc] w fun e w'=>e=.returned (.bool (zhh c))∧Below w.heap.size w w':=by
 have HE:=zaa (show zhh c=(decide (1≤c.act∧c.act≤4)&&decide (0≤c.cli∧c.cli≤32)&&(if c.cli=0 then decide (c.seq=0) else decide (1≤c.seq∧c.seq≤1099511627776))&&decide (-1≤c.exp∧c.exp≤1099511627775)) from rfl);unfold zc4;obtain⟨act,cli,seq,exp,host,pre,pool,ts⟩:=c;simp only at *;generalize zhh ⟨act,cli,seq,exp,host,pre,pool,ts⟩=R at *;generalize ts.length=tn;have X1:=zaa (zad w (.cells #[.int .i64 act,.int .i64 cli,.int .i64 seq,.int .i64 exp,.string host,.string pre,.string pool,.slice a tn tc] 33));have k0:=zae (za X1) 0 _ rfl;have k1:=zae (za X1) 1 _ rfl;have k2:=zae (za X1) 2 _ rfl;have k3:=zae (za X1) 3 _ rfl;have B0:=zaa (show Below w.heap.size w (w.alloc (.cells #[.int .i64 act,.int .i64 cli,.int .i64 seq,.int .i64 exp,.string host,.string pre,.string pool,.slice a tn tc] 33)) from(Below.refl _ _).alloc (Nat.le_refl _) _);clear X1;by_cases hc:cli=0
 ·subst hc;have HR0:=zaa (show R=(decide (1≤act∧act≤4)&&decide (0≤(0:Int)∧(0:Int)≤32)&&decide (0≤seq∧seq≤0)&&decide (-1≤exp∧exp≤1099511627775)) by rw[za HE,if_pos rfl];congr 2;rw[Bool.eq_iff_iff,decide_eq_true_eq,decide_eq_true_eq];omega);have C1:=zaa (fun w=>zan act 1 4 w);have C2:=zaa (fun w=>zan 0 0 32 w);have C3:=zaa (fun w=>zan seq 0 0 w);have C4:=zaa (fun w=>zan exp (-1) 1099511627775 w);clear HE;generalize decide (1≤act∧act≤4)=b1 at *;generalize decide ((0:Int)≤0∧(0:Int)≤32)=b2 at *;generalize decide (0≤seq∧seq≤0)=b3 at *;generalize decide (-1≤exp∧exp≤1099511627775)=b4 at *;cases b1
  ·have HR:R=false:=by rw[za HR0];rfl
   go_enter Tryz.func36,Tryz.ntmps36
   go_wp2_with fail
   refine(za C1 _).mono ?_;rintro e V1 ⟨rfl,rfl⟩
   go_wp2
   go_ret
   exact⟨by rw[HR];rfl,za B0⟩
  ·skip
   cases b2
   ·have HR:R=false:=by rw[za HR0];simp
    go_enter Tryz.func36,Tryz.ntmps36
    go_wp2_with fail
    refine(za C1 _).mono ?_;rintro e V1 ⟨rfl,rfl⟩
    go_wp2_with fail
    refine(za C2 _).mono ?_;rintro e V2 ⟨rfl,rfl⟩
    go_wp2
    go_ret
    exact⟨by rw[HR];rfl,za B0⟩
   ·skip
    cases b3
    ·have HR:R=false:=by rw[za HR0];simp
     go_enter Tryz.func36,Tryz.ntmps36
     go_wp2_with fail
     refine(za C1 _).mono ?_;rintro e V1 ⟨rfl,rfl⟩
     go_wp2_with fail
     refine(za C2 _).mono ?_;rintro e V2 ⟨rfl,rfl⟩
     go_wp2_with fail
     refine(za C3 _).mono ?_;rintro e V3 ⟨rfl,rfl⟩
     go_wp2
     go_ret
     exact⟨by rw[HR];rfl,za B0⟩
    ·skip
     have HR:R=b4:=by rw[za HR0];rfl
     go_enter Tryz.func36,Tryz.ntmps36
     go_wp2_with fail
     refine(za C1 _).mono ?_;rintro e V1 ⟨rfl,rfl⟩
     go_wp2_with fail
     refine(za C2 _).mono ?_;rintro e V2 ⟨rfl,rfl⟩
     go_wp2_with fail
     refine(za C3 _).mono ?_;rintro e V3 ⟨rfl,rfl⟩
     go_wp2_with fail
     refine(za C4 _).mono ?_;rintro e V4 ⟨rfl,rfl⟩
     go_wp2
     go_ret
     exact⟨by rw[HR];rfl,za B0⟩
 ·have hci:(cli==0)=false:=by simpa using hc
  have HR0:=zaa (show R=(decide (1≤act∧act≤4)&&decide (0≤cli∧cli≤32)&&decide (1≤seq∧seq≤1099511627776)&&decide (-1≤exp∧exp≤1099511627775)) by rw[za HE,if_neg hc]);have C1:=zaa (fun w=>zan act 1 4 w);have C2:=zaa (fun w=>zan cli 0 32 w);have C3:=zaa (fun w=>zan seq 1 1099511627776 w);have C4:=zaa (fun w=>zan exp (-1) 1099511627775 w);clear HE;generalize decide (1≤act∧act≤4)=b1 at *;generalize decide (0≤cli∧cli≤32)=b2 at *;generalize decide (1≤seq∧seq≤1099511627776)=b3 at *;generalize decide (-1≤exp∧exp≤1099511627775)=b4 at *;cases b1
  ·have HR:R=false:=by rw[za HR0];rfl
   go_enter Tryz.func36,Tryz.ntmps36
   go_wp2_with fail
   refine(za C1 _).mono ?_;rintro e V1 ⟨rfl,rfl⟩
   go_wp2
   go_ret
   exact⟨by rw[HR];rfl,za B0⟩
  ·skip
   cases b2
   ·have HR:R=false:=by rw[za HR0];simp
    go_enter Tryz.func36,Tryz.ntmps36
    go_wp2_with fail
    refine(za C1 _).mono ?_;rintro e V1 ⟨rfl,rfl⟩
    go_wp2_with fail
    refine(za C2 _).mono ?_;rintro e V2 ⟨rfl,rfl⟩
    go_wp2
    go_ret
    exact⟨by rw[HR];rfl,za B0⟩
   ·skip
    cases b3
    ·have HR:R=false:=by rw[za HR0];simp
     go_enter Tryz.func36,Tryz.ntmps36
     go_wp2_with fail
     refine(za C1 _).mono ?_;rintro e V1 ⟨rfl,rfl⟩
     go_wp2_with fail
     refine(za C2 _).mono ?_;rintro e V2 ⟨rfl,rfl⟩
     go_wp2_with fail
     refine(za C3 _).mono ?_;rintro e V3 ⟨rfl,rfl⟩
     go_wp2
     go_ret
     exact⟨by rw[HR];rfl,za B0⟩
    ·skip
     have HR:R=b4:=by rw[za HR0];rfl
     go_enter Tryz.func36,Tryz.ntmps36
     go_wp2_with fail
     refine(za C1 _).mono ?_;rintro e V1 ⟨rfl,rfl⟩
     go_wp2_with fail
     refine(za C2 _).mono ?_;rintro e V2 ⟨rfl,rfl⟩
     go_wp2_with fail
     refine(za C3 _).mono ?_;rintro e V3 ⟨rfl,rfl⟩
     go_wp2_with fail
     refine(za C4 _).mono ?_;rintro e V4 ⟨rfl,rfl⟩
     go_wp2
     go_ret
     exact⟨by rw[HR];rfl,za B0⟩
def emp (s:ByteArray):Bool:=decide (s.size=0)
theorem zqf (s:ByteArray):(s.toList==[])=emp s:=by
 rw[ByteArray.toList_eq,Bool.eq_iff_iff,beq_iff_eq];unfold emp;rw[decide_eq_true_eq,ztu]
theorem zpj:(⟨#[]⟩:ByteArray).toList=[]:=by rw[ByteArray.toList_eq]
theorem zf3 (c:Cmd) (a:Option Addr) (tc:Nat) (w:World) (hn:c.ts.length≤maxLen) (z1:c.host.size≤140737488355328) (z2:c.pre.size≤140737488355328) (z3:c.pool.size≤140737488355328):Calls Tryz.prog 37 #[zc4 c a tc] w fun e w'=>e=.returned (.bool (zdt c))∧Below w.heap.size w w':=by
 have HE:=zaa (show zdt c=((zeg c.act||(emp c.host&&emp c.pre))&&(!decide (c.act=4)||emp c.pool)&&(decide (c.act=1)||decide (c.ts.length=0))) from rfl);unfold zc4;obtain⟨act,cli,seq,exp,host,pre,pool,ts⟩:=c;simp only[maxLen] at *;generalize zdt ⟨act,cli,seq,exp,host,pre,pool,ts⟩=R at *;generalize ts.length=tn at *;have X1:=zaa (zad w (.cells #[.int .i64 act,.int .i64 cli,.int .i64 seq,.int .i64 exp,.string host,.string pre,.string pool,.slice a tn tc] 33));have k0:=zae (za X1) 0 _ rfl;have k4:=zae (za X1) 4 _ rfl;have k5:=zae (za X1) 5 _ rfl;have k6:=zae (za X1) 6 _ rfl;have k7:=zae (za X1) 7 _ rfl;have B0:=zaa (show Below w.heap.size w (w.alloc (.cells #[.int .i64 act,.int .i64 cli,.int .i64 seq,.int .i64 exp,.string host,.string pre,.string pool,.slice a tn tc] 33)) from(Below.refl _ _).alloc (Nat.le_refl _) _);have BN:=zaa (show ∀ k,Below w.heap.size w ((w.alloc (.cells #[.int .i64 act,.int .i64 cli,.int .i64 seq,.int .i64 exp,.string host,.string pre,.string pool,.slice a tn tc] 33)).drewN k) from fun k=>⟨(za B0).os,(za B0).tape,(za B0).output,(za B0).size,(za B0).block⟩);have RC:=zaa (zge act);have e4:=zqf host;have e5:=zqf pre;have e6:=zqf pool;have nl:=zpj;clear X1;generalize emp host=x4 at *;generalize emp pre=x5 at *;generalize emp pool=x6 at *;generalize zeg act=x1 at *;cases x1
 ·cases x4
  ·skip
   have HR:R=false:=by
    rw[za HE];first|rfl|simp
   clear HE;go_enter Tryz.func37,Tryz.ntmps37
   go_wp2_with fail
   refine(za RC _).mono ?_;rintro e V1 ⟨rfl,rfl⟩
   go_wp2
   go_ret
   exact⟨by rw[HR];rfl,by first|exact za B0|exact za BN _⟩
  ·cases x5
   ·skip
    have HR:R=false:=by
     rw[za HE];first|rfl|simp
    clear HE;go_enter Tryz.func37,Tryz.ntmps37
    go_wp2_with fail
    refine(za RC _).mono ?_;rintro e V1 ⟨rfl,rfl⟩
    go_wp2
    go_ret
    exact⟨by rw[HR];rfl,by first|exact za B0|exact za BN _⟩
   ·skip
    by_cases h4:act=4
    ·subst h4;cases x6
     ·skip
      have HR:R=false:=by
       rw[za HE];first|rfl|simp
      clear HE;go_enter Tryz.func37,Tryz.ntmps37
      go_wp2_with fail
      refine(za RC _).mono ?_;rintro e V1 ⟨rfl,rfl⟩
      go_wp2
      go_ret
      exact⟨by rw[HR];rfl,by first|exact za B0|exact za BN _⟩
     ·skip
      by_cases h0:tn=0
      ·subst h0;have HR:R=true:=by
        rw[za HE];first|rfl|simp
       clear HE;go_enter Tryz.func37,Tryz.ntmps37
       go_wp2_with fail
       refine(za RC _).mono ?_;rintro e V1 ⟨rfl,rfl⟩
       go_wp2
       go_ret
       exact⟨by rw[HR];rfl,by first|exact za B0|exact za BN _⟩
      ·have i0:((tn:Int)==0)=false:=by simpa using h0
       have d0:decide (tn=0)=false:=decide_eq_false h0;have HR:R=false:=by
        rw[za HE,d0];first|rfl|simp
       clear HE;go_enter Tryz.func37,Tryz.ntmps37
       go_wp2_with fail
       refine(za RC _).mono ?_;rintro e V1 ⟨rfl,rfl⟩
       go_wp2
       go_ret
       exact⟨by rw[HR];rfl,by first|exact za B0|exact za BN _⟩
    ·have i4:(act==4)=false:=by simpa using h4
     have j4:(act != 4)=true:=by simpa using h4
     have d4:decide (act=4)=false:=decide_eq_false h4;by_cases h1:act=1
     ·subst h1;have HR:R=true:=by
       rw[za HE];first|rfl|simp
      clear HE;go_enter Tryz.func37,Tryz.ntmps37
      go_wp2_with fail
      refine(za RC _).mono ?_;rintro e V1 ⟨rfl,rfl⟩
      go_wp2
      go_ret
      exact⟨by rw[HR];rfl,by first|exact za B0|exact za BN _⟩
     ·have i1:(act==1)=false:=by simpa using h1
      have d1:decide (act=1)=false:=decide_eq_false h1;by_cases h0:tn=0
      ·subst h0;have HR:R=true:=by
        rw[za HE,d4,d1];first|rfl|simp
       clear HE;go_enter Tryz.func37,Tryz.ntmps37
       go_wp2_with fail
       refine(za RC _).mono ?_;rintro e V1 ⟨rfl,rfl⟩
       go_wp2
       go_ret
       exact⟨by rw[HR];rfl,by first|exact za B0|exact za BN _⟩
      ·have i0:((tn:Int)==0)=false:=by simpa using h0
       have d0:decide (tn=0)=false:=decide_eq_false h0;have HR:R=false:=by
        rw[za HE,d4,d1,d0];first|rfl|simp
       clear HE;go_enter Tryz.func37,Tryz.ntmps37
       go_wp2_with fail
       refine(za RC _).mono ?_;rintro e V1 ⟨rfl,rfl⟩
       go_wp2
       go_ret
       exact⟨by rw[HR];rfl,by first|exact za B0|exact za BN _⟩
 ·skip
  by_cases h4:act=4
  ·subst h4;cases x6
   ·skip
    have HR:R=false:=by
     rw[za HE];first|rfl|simp
    clear HE;go_enter Tryz.func37,Tryz.ntmps37
    go_wp2_with fail
    refine(za RC _).mono ?_;rintro e V1 ⟨rfl,rfl⟩
    go_wp2
    go_ret
    exact⟨by rw[HR];rfl,by first|exact za B0|exact za BN _⟩
   ·skip
    by_cases h0:tn=0
    ·subst h0;have HR:R=true:=by
      rw[za HE];first|rfl|simp
     clear HE;go_enter Tryz.func37,Tryz.ntmps37
     go_wp2_with fail
     refine(za RC _).mono ?_;rintro e V1 ⟨rfl,rfl⟩
     go_wp2
     go_ret
     exact⟨by rw[HR];rfl,by first|exact za B0|exact za BN _⟩
    ·have i0:((tn:Int)==0)=false:=by simpa using h0
     have d0:decide (tn=0)=false:=decide_eq_false h0;have HR:R=false:=by
      rw[za HE,d0];first|rfl|simp
     clear HE;go_enter Tryz.func37,Tryz.ntmps37
     go_wp2_with fail
     refine(za RC _).mono ?_;rintro e V1 ⟨rfl,rfl⟩
     go_wp2
     go_ret
     exact⟨by rw[HR];rfl,by first|exact za B0|exact za BN _⟩
  ·have i4:(act==4)=false:=by simpa using h4
   have j4:(act != 4)=true:=by simpa using h4
   have d4:decide (act=4)=false:=decide_eq_false h4;by_cases h1:act=1
   ·subst h1;have HR:R=true:=by
     rw[za HE];first|rfl|simp
    clear HE;go_enter Tryz.func37,Tryz.ntmps37
    go_wp2_with fail
    refine(za RC _).mono ?_;rintro e V1 ⟨rfl,rfl⟩
    go_wp2
    go_ret
    exact⟨by rw[HR];rfl,by first|exact za B0|exact za BN _⟩
   ·have i1:(act==1)=false:=by simpa using h1
    have d1:decide (act=1)=false:=decide_eq_false h1;by_cases h0:tn=0
    ·subst h0;have HR:R=true:=by
      rw[za HE,d4,d1];first|rfl|simp
     clear HE;go_enter Tryz.func37,Tryz.ntmps37
     go_wp2_with fail
     refine(za RC _).mono ?_;rintro e V1 ⟨rfl,rfl⟩
     go_wp2
     go_ret
     exact⟨by rw[HR];rfl,by first|exact za B0|exact za BN _⟩
    ·have i0:((tn:Int)==0)=false:=by simpa using h0
     have d0:decide (tn=0)=false:=decide_eq_false h0;have HR:R=false:=by
      rw[za HE,d4,d1,d0];first|rfl|simp
     clear HE;go_enter Tryz.func37,Tryz.ntmps37
     go_wp2_with fail
     refine(za RC _).mono ?_;rintro e V1 ⟨rfl,rfl⟩
     go_wp2
     go_ret
     exact⟨by rw[HR];rfl,by first|exact za B0|exact za BN _⟩
end
end Go.Proofs.YtjcjleaicjhpeaaGreatDoor
