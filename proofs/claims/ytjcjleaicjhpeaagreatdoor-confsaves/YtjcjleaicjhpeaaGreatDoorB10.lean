/- Conf: routes and a configuration appended to bytes of one's own. -/
import Derived.Test.YtjcjleaicjhpeaaGreatDoorB09
import Derived.Test.YtjcjleaicjhpeaaGreatDoorB06
import Derived.Test.YtjcjleaicjhpeaaGreatDoorB07
set_option linter.unusedVariables false
set_option maxRecDepth 20000
set_option maxHeartbeats 16000000
namespace Go.Proofs.YtjcjleaicjhpeaaGreatDoor
section
open Go.ChangeShapes Go.WideShapes Go.ChangeAt Go.RowKit
theorem zbz (w:World) (o:Obj):(w.alloc o).heap.size=w.heap.size+1:=by simp
structure SmallT (e:Cf):Prop where
 rn:e.rs.length≤1000
 pn:e.ps.length≤1000
 rs:∀ r∈e.rs,r.h.size≤1000000∧r.p.size≤1000000∧r.l.size≤1000000
 ps:∀ p∈e.ps,p.nm.size≤1000000∧p.ts.length≤100∧∀ t∈p.ts,t.1.size≤1000000
theorem zc4 (r:Rt) (h:r.h.size≤1000000∧r.p.size≤1000000∧r.l.size≤1000000):(zan r).length≤3000018:=by
 obtain⟨h1,h2,h3⟩:=h;unfold zan;have:=zcl r.h (by omega);have:=zcl r.p (by omega);have:=zcl r.l (by omega);simp only[List.length_append];omega
theorem ze2 (p:Po) (h:p.nm.size≤1000000∧p.ts.length≤100∧∀ t∈p.ts,t.1.size≤1000000):(zas p).length≤101001420:=by
 obtain⟨h1,h2,h3⟩:=h;unfold zas zlx;have:=zcl p.nm (by omega);have:=zay p.ts.length (by omega);have h5:=zca tgB 1000014 p.ts (fun x hx=>zm5 x (h3 x hx));have h6:1000014*p.ts.length≤1000014*100:=Nat.mul_le_mul_left _ h2;simp only[List.length_append];omega
theorem tx3 (r:Rt):zs4 [r.h,r.p,r.l]=zan r:=by simp[zs4,zan]
theorem zfq (base:Nat) {w:World} (r:Rt) {sp:Option Addr} {n0 c:Nat} {l:List Nat} (hn0:l.length=n0) (hown:OwnB base w sp c l)
  (hr:r.h.size≤1000000∧r.p.size≤1000000∧r.l.size≤1000000) (hsz:l.length+3000018≤140737488355328) (hbase:base≤w.heap.size) :
  Calls Tryz.prog 93 #[.slice sp n0 c,zdc r] w fun e w'=>∃ sp' n' c',e=.returned (.slice sp' n' c')∧Hid ((l++zan r).length=n')∧OwnB base w' sp' c' (l++zan r)∧Grew w sp w' sp':=by
 obtain⟨h1,h2,h3⟩:=hr;have E:=zaa (tx3 r);unfold zdc;obtain⟨rh,rp,rl⟩:=r;simp only at *;have bX:=zaa (show Below w.heap.size w (w.alloc (.cells #[.string rh,.string rp,.string rl] 56)) from(Below.refl _ _).alloc (Nat.le_refl _) _);have X1:=zac w (.cells #[.string rh,.string rp,.string rl] 56);have c0':=zag X1 0 (.string rh) rfl;have c1':=zag X1 1 (.string rp) rfl;have c2':=zag X1 2 (.string rl) rfl;have bB:=zaa (show Below (w.alloc (.cells #[.string rh,.string rp,.string rl] 56)).heap.size (w.alloc (.cells #[.string rh,.string rp,.string rl] 56)) ((w.alloc (.cells #[.string rh,.string rp,.string rl] 56)).alloc (.cells (zeq [rh,rp,rl]) 9)) from(Below.refl _ _).alloc (Nat.le_refl _) _);have OV:=zaa ((hown.later (za bX)).later (za bB));have CT:=zaa (zdp base hn0 (za OV) (w.heap.size+1) 3 3 [rh,rp,rl] rfl (by have:=zac (w.alloc (.cells #[.string rh,.string rp,.string rl] 56)) (.cells (zeq [rh,rp,rl]) 9);rwa [zbz] at this) (by intro y hy;simp at hy;rcases hy with rfl|rfl|rfl <;> assumption) (by omega) (by omega) (by have:=(za bX).size;have:=(za bB).size;omega));have bZ:=zaa ((za bX).trans ((za bB).mono (za bX).size));rw[za E] at CT;rw[show zeq [rh,rp,rl]=#[.string rh,.string rp,.string rl] from rfl] at CT bB OV bZ;clear X1;go_enter Tryz.func93,Tryz.ntmps93
 go_wp2_with fail
 refine(za CT).mono ?_;rintro e U1 ⟨s1,n1,c1,rfl,hn2,ho2,hg2⟩;have HO2:=zaa ho2;have HG2:=zaa (Grew.aside (za bZ) hg2);clear ho2 hg2
 go_wp2
 go_ret
 exact⟨s1,n1,c1,rfl,by first|exact hn2|exact zaa (by simpa using za hn2),za HO2,za HG2⟩
theorem zek (base:Nat) {w0 w:World} {e:Cf} {h:CfH} (hC:CfAt w0 e h) (hS:SmallT e) {sp:Option Addr} (h0:CKs w0 w sp) {n0 c:Nat} {l:List Nat} (hn0:l.length=n0) (hown:OwnB base w sp c l)
  (hsz:l.length≤1000000) (hbase:base≤w.heap.size) :
  Calls Tryz.prog 48 #[.slice sp n0 c,zgv e h] w fun r w'=>∃ sp' n' c',r=.returned (.slice sp' n' c')∧Hid ((l++zaq e).length=n')∧OwnB base w' sp' c' (l++zaq e)∧Grew w sp w' sp':=by
 have HP:=zaa hC.pos;have HR:=zaa hC.rts;have EB:=zaa (show zaq e=zao e.ps.length++(e.ps.flatMap zas++(zao e.rs.length++e.rs.flatMap zan)) from rfl);have SP:=zaa hS.ps;have SR:=zaa hS.rs;have hpn:=hS.pn;have hrn:=hS.rn;unfold zgv;obtain⟨ver,rs,ps⟩:=e;obtain⟨ra,rc,pa,pc⟩:=h;simp only at *;generalize zaq ⟨ver,rs,ps⟩=CB at *;generalize hm:ps.length=m at *;generalize hk:rs.length=k at *;have HM:=zaa hm;have HK:=zaa hk;have HO:=zaa hown;have H0:=zaa h0
 have LP:=zaa (show ∀ j,j≤m→((ps.take j).flatMap zas).length≤101001420*j from fun j hj=>by
  have h3:=zca zas 101001420 (ps.take j) (fun x hx=>ze2 x (za SP x (List.mem_of_mem_take hx)));have h4:(ps.take j).length≤j:=by rw[List.length_take];omega
  exact Nat.le_trans h3 (Nat.mul_le_mul_left _ h4))
 have LR:=zaa (show ∀ j,j≤k→((rs.take j).flatMap zan).length≤3000018*j from fun j hj=>by
  have h3:=zca zan 3000018 (rs.take j) (fun x hx=>zc4 x (za SR x (List.mem_of_mem_take hx)));have h4:(rs.take j).length≤j:=by rw[List.length_take];omega
  exact Nat.le_trans h3 (Nat.mul_le_mul_left _ h4))
 have L1:=zaa (zay m (by omega));have L2:=zaa (zay k (by omega));have TP:=zaa (show ps.take m=ps from List.take_of_length_le (by rw[za HM];exact Nat.le_refl _));have bX:=zaa (show Below w.heap.size w (w.alloc (.cells #[.int .i64 ver,.slice ra k rc,.slice pa m pc] 45)) from(Below.refl _ _).alloc (Nat.le_refl _) _);have X1:=zaa (zac w (.cells #[.int .i64 ver,.slice ra k rc,.slice pa m pc] 45));have c2':=zag (za X1) 2 (.slice pa m pc) rfl;have bB:=zaa (show Below (w.alloc (.cells #[.int .i64 ver,.slice ra k rc,.slice pa m pc] 45)).heap.size (w.alloc (.cells #[.int .i64 ver,.slice ra k rc,.slice pa m pc] 45)) ((w.alloc (.cells #[.int .i64 ver,.slice ra k rc,.slice pa m pc] 45)).alloc (.cells (zcj [m]) 3)) from(Below.refl _ _).alloc (Nat.le_refl _) _);have OV:=zaa (((za HO).later (za bX)).later (za bB));have CN:=zaa (za3 base hn0 (za OV) (w.heap.size+1) 1 1 [m] rfl (by have:=zac (w.alloc (.cells #[.int .i64 ver,.slice ra k rc,.slice pa m pc] 45)) (.cells (zcj [m]) 3);rwa [zbz] at this) (by intro n hn;simp at hn;omega) (by omega) (by omega) (by have:=(za bX).size;have:=(za bB).size;omega));have XE:=zaa (zad (za bB) (za X1));have bZ:=zaa ((za bX).trans ((za bB).mono (za bX).size));rw[ztx] at CN;rw[show zcj [m]=#[.int .i64 (m:Int)] from rfl] at CN bB OV XE bZ;clear hC hS h0 hown hn0 hm hk;go_enter Tryz.func48,Tryz.ntmps48
 go_wp2_with fail
 refine(za CN).mono ?_;rintro r V0 ⟨s0,m0,c0,rfl,hn1,ho1,hg1⟩;generalize hE:w.heap.size=E at *;have hbase2:base≤w.heap.size:=by rw[hE];exact hbase
 have XU:=Grew.block hg1 (za XE) ((za OV).ne (za XE) zct.2.2.2);have d2:=zag XU 2 (.slice pa m pc) rfl;have XV:=zaa XU;have HO1:=zaa ho1;have HG1:=zaa (Grew.aside (by rw[hE];exact za bZ) hg1);have HW1:=zaa ((za H0).grew (za HG1));clear XU ho1 hg1 CN c2'
 go_wp2_with fail
 go_loopw [0,18] (fun v i wr=>∃ (j:Nat) (sp':Option Addr) (n' c':Nat),j≤m∧v=.slice sp' n' c'∧i=.int .i64 (j:Int)∧Hid ((l++zao m++(ps.take j).flatMap zas).length=n')∧Hid (OwnB base wr sp' c' (l++zao m++(ps.take j).flatMap zas))∧Hid (Grew w sp wr sp')∧Hid (CKs w0 wr sp')∧Hid (wr.heap[E]? = some (.cells #[.int .i64 ver,.slice ra k rc,.slice pa m pc] 45 (0,0)))) (fun _ i _=>m - (intOf i).toNat)
 case atStart=>exact⟨0,s0,m0,c0,by omega,rfl,rfl,zaa (by simpa using za hn1),zaa (by simpa using za HO1),HG1,HW1,XV⟩
 case round =>
  obtain⟨j,sp',n',c',hj,rfl,rfl,hl',ho',hg',hw',hx'⟩:=hrel;have hbr:base≤wr.heap.size:=Nat.le_trans hbase2 (za hg').grown.size;by_cases hjm:j<m
  ·have y0:(0:Int)≤(j:Int):=by omega
   have y1:(j:Int)<(m:Int):=by omega
   have hjl:j<ps.length:=by rw[za HM];exact hjm
   obtain⟨b1,o1,ta,tc,rfl,q0,q1,hT,hlt,_⟩:=(za HP).cell j hjl;have p0:=(za hw').cell q0;have p1:=(za hw').cell q1;obtain⟨z1,z2,z3⟩:=za SP ps[j] (List.getElem_mem hjl);have FT:=zaa (zcb zas ps j hjl)
   have LJ:=zaa (show(l++zao m++(ps.take j).flatMap zas).length+1000020+1000014*ps[j].ts.length≤140737488355328 by
    have h3:=za LP j (by omega);have h4:101001420*j≤101001420*1000:=Nat.mul_le_mul_left _ (by omega);have h5:1000014*ps[j].ts.length≤1000014*100:=Nat.mul_le_mul_left _ z2;have h6:=za L1
    rw[List.length_append,List.length_append];omega)
   generalize ps[j]=p at *;obtain⟨nm,ts⟩:=p;simp only at p0 p1 z1 z2 z3 hT LJ;clear q0 q1 hlt;generalize htn:ts.length=tn at *;have bX2:=zaa (show Below wr.heap.size wr (wr.alloc (.cells #[.string nm,.slice ta tn tc] 54)) from(Below.refl _ _).alloc (Nat.le_refl _) _);have X2:=zac wr (.cells #[.string nm,.slice ta tn tc] 54);have e0:=zag X2 0 (.string nm) rfl;have e1:=zag X2 1 (.slice ta tn tc) rfl;have XE2:=zaa (zad (za bX2) (za hx'));have OV2:=zaa ((za ho').later (za bX2));have AP:=zaa (zfp base (nm:=nm) (c:=c') (sp:=sp') hT ((za hw').later (za bX2)) (za hl') (za OV2) tn tc htn z1 z3 (za LJ) (by omega) (Nat.le_trans hbr (za bX2).size));clear X2 hT htn
   go_wp2_with fail
   refine(za AP).mono ?_;rintro r U1 ⟨s1,n1,c1,rfl,hn2,ho2,hg2⟩;have hxu:=zaa (Grew.block hg2 (za XE2) ((za OV2).ne (za XE2) zct.2.2.2));have HG2:=zaa (Grew.aside (za bX2) hg2);have hw2:=zaa ((za hw').grew (za HG2));have hg4:=zaa ((za hg').trans (za HG2));rw[List.append_assoc (l++zao m),← za FT] at hn2 ho2;have HO2:=zaa ho2;clear ho2 hg2
   go_wp2
   exact⟨⟨j+1,s1,n1,c1,by omega,rfl,by go_num,by first|exact hn2|exact zaa (by rw[List.length_append];exact za hn2),za HO2,za hg4,hw2,hxu⟩,by simp[intOf];omega⟩
  ·have hjj:¬ (j:Int)<(m:Int):=by omega
   obtain rfl:j=m:=by omega
   rw[za TP] at hl' ho';have d1:=zag (za hx') 1 (.slice ra k rc) rfl
   have LQ:=zaa (show(l++zao j++ps.flatMap zas).length≤1000000+6+101001420000 by
    have h3:=za LP j (Nat.le_refl _);rw[za TP] at h3;have h4:101001420*j≤101001420*1000:=Nat.mul_le_mul_left _ (by omega);have h6:=za L1
    rw[List.length_append,List.length_append];omega)
   have bB2:=zaa (show Below wr.heap.size wr (wr.alloc (.cells (zcj [k]) 3)) from(Below.refl _ _).alloc (Nat.le_refl _) _);have OV3:=zaa ((za ho').later (za bB2));have XE3:=zaa (zad (za bB2) (za hx'));have CN2:=zaa (za3 base (za hl') (za OV3) wr.heap.size 1 1 [k] rfl (zac wr (.cells (zcj [k]) 3)) (by intro n hn;simp at hn;omega) (by have:=za LQ;omega) (by omega) (Nat.le_trans hbr (za bB2).size));rw[ztx] at CN2;rw[show zcj [k]=#[.int .i64 (k:Int)] from rfl] at CN2 bB2 OV3 XE3
   go_wp2_with fail
   refine(za CN2).mono ?_;rintro r V2 ⟨s2,m2,c2,rfl,hn3,ho3,hg3⟩;have hxu:=zaa (Grew.block hg3 (za XE3) ((za OV3).ne (za XE3) zct.2.2.2));have f1:=zag (za hxu) 1 (.slice ra k rc) rfl;have HG3:=zaa (Grew.aside (za bB2) hg3);have hw3:=zaa ((za hw').grew (za HG3));have hg5:=zaa ((za hg').trans (za HG3));have HO3:=zaa ho3;clear ho3 hg3 CN2
   go_wp2_with fail
   go_loopw [0,35] (fun v i wr=>∃ (q:Nat) (sp':Option Addr) (n' c':Nat),q≤k∧v=.slice sp' n' c'∧i=.int .i64 (q:Int)∧Hid ((l++zao j++ps.flatMap zas++zao k++(rs.take q).flatMap zan).length=n')∧Hid (OwnB base wr sp' c' (l++zao j++ps.flatMap zas++zao k++(rs.take q).flatMap zan))∧Hid (Grew w sp wr sp')∧Hid (CKs w0 wr sp')) (fun _ i _=>k - (intOf i).toNat)
   case atStart=>exact⟨0,s2,m2,c2,by omega,rfl,rfl,zaa (by simpa using za hn3),zaa (by simpa using za HO3),hg5,hw3⟩
   case round =>
    obtain⟨q,sp',n',c',hq,rfl,rfl,hl2,ho2,hg2,hw2⟩:=hrel;have hbr2:base≤wr.heap.size:=Nat.le_trans hbase2 (za hg2).grown.size;by_cases hqk:q<k
    ·have y0:(0:Int)≤(q:Int):=by omega
     have y1:(q:Int)<(k:Int):=by omega
     have hql:q<rs.length:=by rw[za HK];exact hqk
     obtain⟨b1,o1,rfl,q0,q1,q2⟩:=(za HR).cell q hql;have p0:=(za hw2).cell q0;have p1:=(za hw2).cell q1;have p2:=(za hw2).cell q2;have z:=za SR rs[q] (List.getElem_mem hql);have FT:=zaa (zcb zan rs q hql)
     have LJ:=zaa (show(l++zao j++ps.flatMap zas++zao k++(rs.take q).flatMap zan).length+3000018≤140737488355328 by
      have h3:=za LR q (by omega);have h4:3000018*q≤3000018*1000:=Nat.mul_le_mul_left _ (by omega);have h6:=za L2;have h7:=za LQ
      rw[List.length_append,List.length_append];omega)
     generalize rs[q]=r at *;have bX2:=zaa (show Below wr.heap.size wr (wr.alloc (.cells #[.string r.h,.string r.p,.string r.l] 56)) from(Below.refl _ _).alloc (Nat.le_refl _) _);have X2:=zac wr (.cells #[.string r.h,.string r.p,.string r.l] 56);have OV2:=zaa ((za ho2).later (za bX2));have AP:=zaa (zfq base r (za hl2) (za OV2) z (za LJ) (Nat.le_trans hbr2 (za bX2).size));unfold zdc at AP;obtain⟨rh,rp,rl⟩:=r;simp only at *;have e0:=zag X2 0 (.string rh) rfl;have e1:=zag X2 1 (.string rp) rfl;have e2:=zag X2 2 (.string rl) rfl;clear X2 q0 q1 q2
     go_wp2_with fail
     refine(za AP).mono ?_;rintro r U1 ⟨s1,n1,c1,rfl,hn2,ho3,hg3⟩;have HG4:=zaa (Grew.aside (za bX2) hg3);have hw4:=zaa ((za hw2).grew (za HG4));have hg4:=zaa ((za hg2).trans (za HG4));rw[List.append_assoc (l++zao j++ps.flatMap zas++zao k),← za FT] at hn2 ho3;have HO2:=zaa ho3;clear ho3 hg3
     go_wp2
     exact⟨⟨q+1,s1,n1,c1,by omega,rfl,by go_num,by first|exact hn2|exact zaa (by simpa using za hn2),za HO2,za hg4,hw4⟩,by simp[intOf];omega⟩
    ·have hqq:¬ (q:Int)<(k:Int):=by omega
     have EE:=zaa (show l++zao j++ps.flatMap zas++zao k++(rs.take q).flatMap zan=l++CB by
      rw[za EB,List.take_of_length_le (by rw[za HK];omega)]
      simp only[List.append_assoc])
     rw[za EE] at hl2 ho2
     go_wp2
     go_ret
     exact⟨sp',n',c',rfl,by first|exact hl2|exact zaa (by simpa using za hl2),za ho2,za hg2⟩
theorem zhw (base:Nat) {w0 w:World} {e:Cf} {h:CfH} (hC:CfAt w0 e h) (hS:SmallT e) (h0:Below w0.heap.size w0 w) (hb0:w0.heap.size≤base) {sp:Option Addr} {n0 c:Nat} {l:List Nat} (hn0:l.length=n0) (hown:OwnB base w sp c l)
  (hsz:l.length≤1000000) (hbase:base≤w.heap.size) :
  Calls Tryz.prog 48 #[.slice sp n0 c,zgv e h] w fun r w'=>∃ sp' n' c',r=.returned (.slice sp' n' c')∧Hid ((l++zaq e).length=n')∧OwnB base w' sp' c' (l++zaq e)∧Grew w sp w' sp' :=
 zek base hC hS (CKs.of_below h0 hb0 hown) hn0 hown hsz hbase
theorem zef {w:World} {ops:Array Oper} {o:Oper} {a:Act} {K:Act→World→Prop} {Q:Exit→Act→World→Prop} {E0:Prop} (hgd:o.guard=none) (s x:Operand)
  (ho:o.op=.call { callee:=.builtin .append,args:=#[s,x],argTypes:=#[43,43] }) (base:Nat) (sp:Option Addr) (n c:Nat) (l:List Pr) (hs:a.eval s=.slice sp n c) (hn:l.length=n) (hown:za8 base w sp c l)
  (B:Nat) (y:Pr) (hx:a.eval x=.slice (some ⟨B,0,none⟩) 1 1) (hB:w.heap[B]? = some (.cells (zeb y).toArray 54 (0,0))) (hsz:(n+1)*40≤140737488355328) (hbase:base≤w.heap.size)
  (h:∀ sp' c' w',za8 base w' sp' c' (l++[y])→w.grownBy w' (blk sp)→K (a.put o.dst (.slice sp' (n+1) c')) w') :
  if Region.wanted o (yielded ops a.tmps)=true then Oper.wp Tryz.prog o a w K Q else E0:=by
 subst hn;have hw:Region.wanted o (yielded ops a.tmps)=true:=by simp[Region.wanted,hgd]
 rw[if_pos hw];obtain⟨i0,hi,hz0,hz1,hz2⟩:=info_parts zpz;obtain⟨v',w',hrun,h1,h2,h3⟩:=run_append_own (P:=Tryz.prog) w base 43 o.type 54 i0 _ 2 40 Tryz.underlying43 hi hz0 hz1 hz2 rfl (by omega) _ _ _ hown ⟨B,0,none⟩ 1 1 (zeb y) rfl
  (fun j u hu=>by
   rw[Addr.add_lit,Nat.zero_add,cell_of_row _ _ _ _ _ _ hB]
   rw[← hu,← Array.getElem?_toList]) (fun u hu=>zg6 [y] u (by simpa [zb9] using hu)) (by simp only[maxLen];omega) (by omega) hbase
 have hv:∃ sp' c',v'=.slice sp' (l.length+1) c':=by
  rcases h1.2 with⟨hv,h0⟩|⟨g,cap,cur,hv,_⟩
  ·omega
  ·exact⟨_,_,hv⟩
 obtain⟨sp',c',rfl⟩:=hv;unfold Oper.wp;simp[execOp,ho,resolve,invoke,builtin,hs,hx,hrun,Result.andThen];refine h sp' c' w' ?_ (by rw[← zba sp l.length c];exact h2);unfold za8;rw[List.length_append,show zb9 (l++[y])=zb9 l++zeb y from by simp[zb9]];exact h1
def zer (base:Nat) (w:World) (sp:Option Addr) (c:Nat) (l:List Rt):Prop:=w.ownsRow base 56 3 (.slice sp l.length c) l.length (zfo l)
theorem zgp {w:World} {ops:Array Oper} {o:Oper} {a:Act} {K:Act→World→Prop} {Q:Exit→Act→World→Prop} {E0:Prop} (hgd:o.guard=none) (s x:Operand)
  (ho:o.op=.call { callee:=.builtin .append,args:=#[s,x],argTypes:=#[42,42] }) (base:Nat) (sp:Option Addr) (n c:Nat) (l:List Rt) (hs:a.eval s=.slice sp n c) (hn:l.length=n) (hown:zer base w sp c l)
  (B:Nat) (y:Rt) (hx:a.eval x=.slice (some ⟨B,0,none⟩) 1 1) (hB:w.heap[B]? = some (.cells (ze5 y).toArray 56 (0,0))) (hsz:(n+1)*48≤140737488355328) (hbase:base≤w.heap.size)
  (h:∀ sp' c' w',zer base w' sp' c' (l++[y])→w.grownBy w' (blk sp)→K (a.put o.dst (.slice sp' (n+1) c')) w') :
  if Region.wanted o (yielded ops a.tmps)=true then Oper.wp Tryz.prog o a w K Q else E0:=by
 subst hn;have hw:Region.wanted o (yielded ops a.tmps)=true:=by simp[Region.wanted,hgd]
 rw[if_pos hw];obtain⟨i0,hi,hz0,hz1,hz2⟩:=info_parts zr2;obtain⟨v',w',hrun,h1,h2,h3⟩:=run_append_own (P:=Tryz.prog) w base 42 o.type 56 i0 _ 3 48 Tryz.underlying42 hi hz0 hz1 hz2 rfl (by omega) _ _ _ hown ⟨B,0,none⟩ 1 1 (ze5 y) rfl
  (fun j u hu=>by
   rw[Addr.add_lit,Nat.zero_add,cell_of_row _ _ _ _ _ _ hB]
   rw[← hu,← Array.getElem?_toList]) (fun u hu=>zjd [y] u (by simpa [zfo] using hu)) (by simp only[maxLen];omega) (by omega) hbase
 have hv:∃ sp' c',v'=.slice sp' (l.length+1) c':=by
  rcases h1.2 with⟨hv,h0⟩|⟨g,cap,cur,hv,_⟩
  ·omega
  ·exact⟨_,_,hv⟩
 obtain⟨sp',c',rfl⟩:=hv;unfold Oper.wp;simp[execOp,ho,resolve,invoke,builtin,hs,hx,hrun,Result.andThen];refine h sp' c' w' ?_ (by rw[← zba sp l.length c];exact h2);unfold zer;rw[List.length_append,show zfo (l++[y])=zfo l++ze5 y from by simp[zfo]];exact h1
theorem zjj {w:World} {ops:Array Oper} {o:Oper} {a:Act} {K:Act→World→Prop} {Q:Exit→Act→World→Prop} {E0:Prop} (hgd:o.guard=none) (k:Nat) (ho:o.op=.buildSlice 42 1 #[(0,.tmp k)]) (y:Rt) (hv:a.eval (.tmp k)=zdc y)
  (h:∀ E w',w.heap.size=E→w'.heap[E]? = some (.cells (ze5 y).toArray 56 (0,0))→Below w.heap.size w w'→K (a.put o.dst (.slice (some ⟨E,0,none⟩) 1 1)) w') :
  if Region.wanted o (yielded ops a.tmps)=true then Oper.wp Tryz.prog o a w K Q else E0:=by
 have hw:Region.wanted o (yielded ops a.tmps)=true:=by simp[Region.wanted,hgd]
 rw[if_pos hw];obtain⟨hh,pp,ll⟩:=y;have hs':a.tmps[k]?.getD undef=.agg #[.string hh,.string pp,.string ll]:=by simpa [zdc,go_sem] using hv
 have h1:=h w.heap.size _ rfl (zac w (.cells (ze5 ⟨hh,pp,ll⟩).toArray 56)) ((Below.refl _ _).alloc (Nat.le_refl _) _);unfold Oper.wp;simp[execOp,ho,go_sem,hs'];exact h1
theorem zc2 {base:Nat} {w w':World} {T T':TypeId} {k n r:Nat} {v:Value} {xs:List Value} {cs:Array Value} {fr:Nat×Nat} (h:w.ownsRow base T k v n xs) (hg:w.grownBy w' (some r)) (hr:w.heap[r]? = some (.cells cs T' fr)) (hT:T'≠T):w'.ownsRow base T k v n xs:=by
 refine⟨h.1,?_⟩;rcases h.2 with hv|⟨g,cap,cur,hv,hb,hh,q⟩
 ·exact .inl hv
 ·refine .inr ⟨g,cap,cur,hv,hb,(hg.block g (Array.getElem?_eq_some_iff.1 hh).1 (fun e=>?_)).trans hh,q⟩;rw[Option.some.inj e,hr] at hh;simp only[Option.some.injEq,Obj.cells.injEq] at hh;exact hT hh.2.1
theorem zbg {base:Nat} {w w':World} {T:TypeId} {k n:Nat} {v:Value} {xs:List Value} (h:w.ownsRow base T k v n xs) (hb:Below w.heap.size w w'):w'.ownsRow base T k v n xs:=by
 refine⟨h.1,?_⟩;rcases h.2 with hv|⟨g,cap,cur,hv,hbg,hh,q⟩
 ·exact .inl hv
 ·exact .inr ⟨g,cap,cur,hv,hbg,(hb.block g (Array.getElem?_eq_some_iff.1 hh).1).trans hh,q⟩
theorem zd2 {base:Nat} {w:World} {T:TypeId} {k n m c:Nat} {sp:Option Addr} {xs:List Value} (h:w.ownsRow base T k (.slice sp m c) n xs) {r:Nat} (hr:blk sp=some r):base≤r∧∃ cur:Array Value,w.heap[r]? = some (.cells cur T (0,0)):=by
 rcases h.2 with⟨hv,h0⟩|⟨g,cap,cur,hv,hb,hh,_⟩
 ·simp only[Value.slice.injEq] at hv;rw[hv.1] at hr;cases hr
 ·simp only[Value.slice.injEq] at hv;rw[hv.1] at hr;simp only[blk,Option.map_some,Option.some.injEq] at hr;subst hr;exact⟨hb,cur,hh⟩
theorem zkn {w:World} {nm:ByteArray} {a:Option Addr} {ts:List Tgt} (hT:TgsAt w a ts) (hl:ts.length≤1000) (tc:Nat) :
  Calls Tryz.prog 43 #[.agg #[.string nm,.slice a ts.length tc]] w fun e w'=>∃ a' c',e=.returned (.agg #[.string nm,.slice a' ts.length c'])∧zcm w.heap.size w' a' c' ts∧Below w.heap.size w w':=by
 have b1:Below w.heap.size w (w.alloc (.cells #[.string nm,.slice a ts.length tc] 54)):=(Below.refl _ _).alloc (Nat.le_refl _) _;have b2:=zaa (b1.alloc b1.size (.cells #[.string ⟨#[]⟩,.slice none 0 0] 54));have s1:(w.alloc (.cells #[.string nm,.slice a ts.length tc] 54)).heap.size=w.heap.size+1:=by simp
 have X1:=zaa (show((w.alloc (.cells #[.string nm,.slice a ts.length tc] 54)).alloc (.cells #[.string ⟨#[]⟩,.slice none 0 0] 54)).heap[w.heap.size]? = some (.cells #[.string nm,.slice a ts.length tc] 54 (0,0)) by rw[Below.heap_alloc _ _ _ (by simp)];exact zac _ _);have X2:=zaa (show((w.alloc (.cells #[.string nm,.slice a ts.length tc] 54)).alloc (.cells #[.string ⟨#[]⟩,.slice none 0 0] 54)).heap[w.heap.size+1]? = some (.cells #[.string ⟨#[]⟩,.slice none 0 0] 54 (0,0)) by rw[← s1];exact zac _ _);have HT:=zaa (hT.later (za b2));have SZ:=zaa (show((w.alloc (.cells #[.string nm,.slice a ts.length tc] 54)).alloc (.cells #[.string ⟨#[]⟩,.slice none 0 0] 54)).heap.size=w.heap.size+2 by simp);clear hT b1 s1;have c0:=zag (za X1) 0 (.string nm) rfl;have c1:=zag (za X1) 1 (.slice a ts.length tc) rfl;go_enter Tryz.func43,Tryz.ntmps43
 go_wp2_with fail
 generalize ((w.alloc (.cells #[.string nm,.slice a ts.length tc] 54)).alloc (.cells #[.string ⟨#[]⟩,.slice none 0 0] 54))=V at *;have bV:=zaa (show Below V.heap.size V V.drew from(Below.refl _ _).drew);have CC:=zaa (zev V.drew a tc ts ((za HT).later (Below.refl _ _).drew) hl);have N1:=zaa (show w.heap.size+1<V.heap.size from by have:=za SZ;omega);have SS:=zaa (show ∀ W:World,Below V.heap.size V W→W.cell? ⟨w.heap.size,0,none⟩=some (.string nm)∧W.cell? ⟨w.heap.size,1,none⟩=some (.slice a ts.length tc) from fun W hb=>⟨cell_later hb c0,cell_later hb c1⟩);have SK:∀ (W:World) (g o:Nat) (x:Value),w.heap.size+1=g→W.cell? ⟨w.heap.size,0,none⟩=some (.string nm)∧W.cell? ⟨w.heap.size,1,none⟩=some (.slice a ts.length tc)→(W.setCell ⟨g,o,none⟩ x).cell? ⟨w.heap.size,0,none⟩=some (.string nm)∧(W.setCell ⟨g,o,none⟩ x).cell? ⟨w.heap.size,1,none⟩=some (.slice a ts.length tc):=fun W g o x hg h=>⟨(zc0 _ _ (by omega)).trans h.1,(zc0 _ _ (by omega)).trans h.2⟩
 clear HT;generalize hn:ts.length=n at *;have HN:=zaa hn;clear hn;refine wp_region_held_drew (S:=fun w'=>w'.cell? ⟨w.heap.size,0,none⟩=some (.string nm)∧w'.cell? ⟨w.heap.size,1,none⟩=some (.slice a n tc)) (by kernel_rfl) ?_ (fun hHeld=>?_)
 ·try dsimp only
  first|exact za SS _ (za F)|exact SK _ _ _ _ rfl (SK _ _ _ _ rfl (za SS _ (za F)))|exact⟨c0,c1⟩
 refine hT 0 ?_;refine hT 1 ?_;refine hT 2 ?_;refine hT 3 ?_;refine hO 4 (fun K hK=>?_);go_simp
 first
  |(go_at_call 85
    refine(za CC).mono ?_;rintro e U ⟨a',c',rfl,hO,hb⟩;have F:=zaa ((za bV).trans (show Below V.heap.size V.drew U from hb));have HO:=zaa (show zcm V.heap.size U a' c' ts from hO);have XU:=zaa (zad (za F) (za X2));have d0:=zab (za XU) 0 _ rfl;have d1:=zab (za XU) 1 _ rfl;have f0:U.frozen? ⟨w.heap.size+1,0,none⟩=false:=by simp[World.frozen?,za XU]
    have f1:U.frozen? ⟨w.heap.size+1,1,none⟩=false:=by simp[World.frozen?,za XU]
    clear hO hb CC)
 go_wp2_with fail
 refine hK.out _ _ ?_ (fun hHeld=>?_)
 ·try dsimp only
  first|exact za SS _ (za F)|exact SK _ _ _ _ rfl (SK _ _ _ _ rfl (za SS _ (za F)))|exact⟨c0,c1⟩
 clear hK K;refine hP ?_;refine hT 5 ?_;refine hO 6 (fun K hK=>?_);go_simp
 go_wp2_with fail
 refine hK.out _ _ ?_ (fun hHeld=>?_)
 ·try dsimp only
  first|exact za SS _ (za F)|exact SK _ _ _ _ rfl (SK _ _ _ _ rfl (za SS _ (za F)))|exact⟨c0,c1⟩
 clear hK K;refine hP ?_;refine wpAnyH_done (by kernel_rfl) ?_ _;have Y0:=zaa (heap_setCell_same U (w.heap.size+1) 0 _ 54 (.string nm) (za XU));have Y1:=zaa (heap_setCell_same _ (w.heap.size+1) 1 _ 54 (.slice a' n c') (za Y0));have G1:=zaa (zdj U (w.heap.size+1) 0 (.string nm));have G2:=zaa (zdj (U.setCell ⟨w.heap.size+1,0,none⟩ (.string nm)) (w.heap.size+1) 1 (.slice a' n c'));generalize ((U.setCell ⟨w.heap.size+1,0,none⟩ (.string nm)).setCell ⟨w.heap.size+1,1,none⟩ (.slice a' n c'))=Z at *;clear d0 d1 f0 f1 hHeld c0 c1;have g0:Z.cell? ⟨w.heap.size+1,0,none⟩=some (.string nm):=zab (za Y1) 0 _ rfl;have g1:Z.cell? ⟨w.heap.size+1,1,none⟩=some (.slice a' n c'):=zab (za Y1) 1 _ rfl
 go_wp2
 have hn:=za HN;subst hn;have HB:=(za b2).trans ((za F).mono (za b2).size);have HB2:=(HB.grown (za G1) HB.size (fun g e=>by have:=Option.some.inj e;omega)).grown (za G2) (HB.grown (za G1) HB.size (fun g e=>by have:=Option.some.inj e;omega)).size (fun g e=>by have:=Option.some.inj e;omega);refine bodyPost_ret (v:=.agg #[.string nm,.slice a' ts.length c']) (by simp[results,Tryz.results43,go_sem,g0,g1]) rfl ⟨a',c',rfl,?_,HB2⟩;have O1:=zcm.keep (za HO) (w':=U.setCell ⟨w.heap.size+1,0,none⟩ (.string nm)) (fun g _ h1 h2=>(za G1).block g h2 (fun e=>by have:=Option.some.inj e;have:=za N1;omega));exact(zcm.keep O1 (fun g _ h1 h2=>(za G2).block g h2 (fun e=>by have:=Option.some.inj e;have:=za N1;omega))).low (by have:=za SZ;omega)
structure Pq where
 po:Po
 ta:Option Addr
 tc:Nat
def Pq.pr (x:Pq):Pr:=⟨x.po.nm,x.ta,x.po.ts.length,x.tc⟩
def pqV (x:Pq):Value:=.agg #[.string x.po.nm,.slice x.ta x.po.ts.length x.tc]
structure OwnPq (base:Nat) (w:World) (sp:Option Addr) (c:Nat) (l:List Pq):Prop where
 row:za8 base w sp c (l.map Pq.pr)
 dat:∀ x∈l,zcm base w x.ta x.tc x.po.ts
theorem OwnPq.ofNil (base:Nat) (w:World):OwnPq base w none 0 []:=⟨za8.ofNil _ _,by simp⟩
theorem OwnPq.later {base:Nat} {w w':World} {sp:Option Addr} {c:Nat} {l:List Pq} (h:OwnPq base w sp c l) (hb:Below w.heap.size w w'):OwnPq base w' sp c l:=⟨zbg h.row hb,fun x hx=>zbg (h.dat x hx) hb⟩
theorem OwnPq.other {base:Nat} {w w':World} {sp:Option Addr} {c r:Nat} {l:List Pq} {cs:Array Value} {T:TypeId} {fr:Nat×Nat} (h:OwnPq base w sp c l) (hg:w.grownBy w' (some r)) (hr:w.heap[r]? = some (.cells cs T fr)) (h1:T≠54) (h2:T≠70):OwnPq base w' sp c l:=⟨zc2 h.row hg hr h1,fun x hx=>zc2 (h.dat x hx) hg hr h2⟩
theorem OwnPq.low {base base':Nat} {w:World} {sp:Option Addr} {c:Nat} {l:List Pq} (h:OwnPq base w sp c l) (hb:base'≤base):OwnPq base' w sp c l:=⟨⟨h.row.1,h.row.2.imp id (fun ⟨g,cap,cur,h1,h2,h3⟩=>⟨g,cap,cur,h1,Nat.le_trans hb h2,h3⟩)⟩,fun x hx=>(h.dat x hx).low hb⟩
theorem zer.low {base base':Nat} {w:World} {sp:Option Addr} {c:Nat} {l:List Rt} (h:zer base w sp c l) (hb:base'≤base):zer base' w sp c l:=⟨h.1,h.2.imp id (fun ⟨g,cap,cur,h1,h2,h3⟩=>⟨g,cap,cur,h1,Nat.le_trans hb h2,h3⟩)⟩
theorem OwnPq.push {base:Nat} {w w':World} {sp sp':Option Addr} {c c':Nat} {l:List Pq} (h:OwnPq base w sp c l) (x:Pq) (hx:zcm base w x.ta x.tc x.po.ts) (hn:za8 base w' sp' c' (l.map Pq.pr++[x.pr])) (hg:w.grownBy w' (blk sp)):OwnPq base w' sp' c' (l++[x]):=by
 have keep:∀ ta tc (ts:List Tg),zcm base w ta tc ts→zcm base w' ta tc ts:=fun ta tc ts ho=>by
  cases hb:blk sp with
  |none =>
   rw[hb] at hg;exact zbg ho ⟨hg.os,hg.tape,hg.output,hg.size,fun g hgl=>hg.block g hgl (by simp)⟩
  |some r =>
   rw[hb] at hg;obtain⟨_,cur,hr⟩:=zd2 h.row hb;exact zc2 ho hg hr (by decide)
 refine⟨by rw[List.map_append];exact hn,fun y hy=>?_⟩;rcases List.mem_append.1 hy with hy|hy
 ·exact keep _ _ _ (h.dat y hy)
 ·obtain rfl:y=x:=by simpa using hy
  exact keep _ _ _ hx
theorem OwnPq.below {base:Nat} {w w':World} {sp:Option Addr} {c:Nat} {l:List Pq} (h:OwnPq base w sp c l) (hg:w.grownBy w' (blk sp)) (hbase:base≤w.heap.size):Below base w w':=by
 cases hb:blk sp with
 |none=>rw[hb] at hg;exact⟨hg.os,hg.tape,hg.output,hg.size,fun g hgl=>hg.block g (Nat.lt_of_lt_of_le hgl hbase) (by simp)⟩
 |some r =>
  rw[hb] at hg;have:=(zd2 h.row hb).1;exact⟨hg.os,hg.tape,hg.output,hg.size,fun g hgl=>hg.block g (Nat.lt_of_lt_of_le hgl hbase) (by intro e;have:=Option.some.inj e;omega)⟩
theorem zqh (l:List Pq) (i:Nat) (hi:i<l.length) (f:Nat) (hf:f<2):(zb9 (l.map Pq.pr))[i*2+f]? = (zeb l[i].pr)[f]?:=by
 rw[zfi (l.map Pq.pr) i f (by simpa using hi) hf];simp
theorem OwnPq.at_ {base:Nat} {w:World} {sp:Option Addr} {c:Nat} {l:List Pq} (h:OwnPq base w sp c l) (hl:∀ x∈l,(∀ t∈x.po.ts,t.2<18446744073709551616)∧x.po.ts.length≤maxLen):PosAt w sp (l.map (·.po))∧l.length≤c:=by
 rcases h.row.2 with⟨hv,h0⟩|⟨g,cap,cur,hv,hb,hg,hle,hmx,hsz,ht⟩
 ·simp only[List.length_map] at h0;refine⟨⟨fun i hi=>?_⟩,by omega⟩;simp only[List.length_map] at hi;omega
 ·simp only[Value.slice.injEq] at hv;obtain⟨rfl,_,rfl⟩:=hv;simp only[List.length_map] at hle ht;have one:∀ i (hi:i<l.length) f,f<2→w.cell? ⟨g,0+i*2+f,none⟩=(zeb l[i].pr)[f]?:=fun i hi f hf=>by
   have hk:=zqh l i hi f hf;rw[Nat.zero_add,cell_of_row w g _ cur _ _ hg,← Array.getElem?_toList];have hj:i*2+f<l.length*2:=by omega
   rw[← ht,List.getElem?_take,if_pos hj] at hk;exact hk
  refine⟨⟨fun i hi=>?_⟩,hle⟩;have hi':i<l.length:=by simpa using hi
  have e:(l.map (·.po))[i]=l[i].po:=by simp
  rw[e];have hm:=List.getElem_mem hi';have ho:=h.dat _ hm;exact⟨g,0,l[i].ta,l[i].tc,rfl,one i hi' 0 (by omega),one i hi' 1 (by omega),ho.at_ (hl _ hm).1,⟨(hl _ hm).2,ho.cap.1⟩,ho.cap.2⟩
theorem zer.at_ {base:Nat} {w:World} {sp:Option Addr} {c:Nat} {l:List Rt} (h:zer base w sp c l) (hs:∀ r∈l,r.h.size≤maxLen∧r.p.size≤maxLen∧r.l.size≤maxLen):RtsAt w sp l∧l.length≤c∧(sp=none→c=0):=by
 cases sp with
 |some a =>
  rcases h.2 with⟨hv,h0⟩|⟨g,cap,cur,hv,r⟩
  ·cases hv
  ·simp only[Value.slice.injEq,Option.some.injEq] at hv;obtain⟨rfl,_,rfl⟩:=hv;exact⟨(zjb h hs).1,(zjb h hs).2,fun e=>by cases e⟩
 |none =>
  rcases h.2 with⟨hv,h0⟩|⟨g,cap,cur,hv,r⟩
  ·simp only[Value.slice.injEq] at hv;exact⟨⟨hs,fun i hi=>by omega⟩,by omega,fun _=>hv.2.2⟩
  ·simp only[Value.slice.injEq] at hv;exact absurd hv.1 (by simp)
structure Ls where
 id:Int
 seq:Int
 e:Int
 ver:Int
def lsV (x:Ls):Value:=.agg #[.int .i64 x.seq,.int .i64 x.e,.int .i64 x.ver]
structure Sm where
 ver:Int
 ps:List Pq
 rs:List Rt
 cl:List Ls
def Sm.cf (x:Sm):Cf:=⟨x.ver,x.rs,x.ps.map Pq.po⟩
def Sm.fp (x:Sm):List (ByteArray×Value):=x.ps.map fun p=>(p.po.nm,pqV p)
def Sm.fr (x:Sm):List (Pl×Value):=x.rs.map fun r=>((r.h,r.p),zdc r)
def Sm.fc (x:Sm):List (Int×Value):=x.cl.map fun c=>(c.id,lsV c)
structure StH where
 S:Nat
 P:Nat
 R:Nat
 C:Nat
structure StAt (w:World) (h:StH) (x:Sm):Prop where
 hd:w.heap[h.S]? = some (.cells #[.int .i64 x.ver,.map (some h.P),.map (some h.R),.map (some h.C)] 79 (0,0))
 pm:MapG kxS w h.P x.fp
 rm:MapG kxP w h.R x.fr
 cm:MapG kxI w h.C x.fc
 tg:∀ p∈x.ps,TgsAt w p.ta p.po.ts
 ne:h.P≠h.R∧h.P≠h.C∧h.R≠h.C
theorem StAt.later {w w':World} {h:StH} {x:Sm} (s:StAt w h x) (hb:Below w.heap.size w w'):StAt w' h x :=
 ⟨zad hb s.hd,s.pm.later hb,s.rm.later hb,s.cm.later hb,fun p hp=>(s.tg p hp).later hb,s.ne⟩
structure SmOk (x:Sm):Prop where
 t:SmallT x.cf
 ver:-9223372036854775808≤x.ver∧x.ver≤9223372036854775807
 cn:x.cl.length≤1000
theorem StAt.cell {w:World} {h:StH} {x:Sm} (s:StAt w h x):w.cell? ⟨h.S,0,none⟩=some (.int .i64 x.ver)∧w.cell? ⟨h.S,1,none⟩=some (.map (some h.P))∧w.cell? ⟨h.S,2,none⟩=some (.map (some h.R))∧w.cell? ⟨h.S,3,none⟩=some (.map (some h.C)) :=
 ⟨zab s.hd 0 _ rfl,zab s.hd 1 _ rfl,zab s.hd 2 _ rfl,zab s.hd 3 _ rfl⟩
theorem zp2 {κ α:Type} [Kord κ]:∀ {fs:List (κ×α)} (_:Kr fs) {x:κ×α} (_:x∈fs),zki x.1 fs=some x.2:=by
 intro fs hr x hx;exact hr.get hx
def zfz (x:Ls):List Value:=[.int .i64 x.id,.int .i64 x.seq,.int .i64 x.e,.int .i64 x.ver]
def zf1 (l:List Ls):List Value:=l.flatMap zfz
theorem zto:(Tryz.prog.info? 123).map (fun i=>(i.zero,i.size,i.bytes))=some (some (.agg #[.int .i64 0,.int .i64 0,.int .i64 0,.int .i64 0]),4,32):=by kernel_rfl
def zjm (base:Nat) (w:World) (sp:Option Addr) (c:Nat) (l:List Ls):Prop:=w.ownsRow base 123 4 (.slice sp l.length c) l.length (zf1 l)
theorem zjm.ofNil (base:Nat) (w:World):zjm base w none 0 []:=w.ownsRow_nil base 123 4
theorem zi9 (x:Ls):∀ u∈zfz x,u.oneCell'=true:=by
 intro u hu;simp only[zfz,List.mem_cons,List.not_mem_nil,or_false] at hu;rcases hu with rfl|rfl|rfl|rfl <;> rfl
theorem zd3:∀ (xs:List Ls) (i f:Nat) (hi:i<xs.length) (_:f<4),(zf1 xs)[i*4+f]? = (zfz xs[i])[f]?
 |x::r,0,f,_,hf=>by
  rw[zf1,List.flatMap_cons,List.getElem?_append_left (by simp[zfz];omega)];simp
 |x::r,i+1,f,hi,hf=>by
  rw[zf1,List.flatMap_cons,List.getElem?_append_right (by simp[zfz];omega)];have:=zd3 r i f (by simpa using hi) hf;rw[show(i+1)*4+f - (zfz x).length=i*4+f by simp[zfz];omega]
  simpa [zf1] using this
theorem zjm.cell {base:Nat} {w:World} {sp:Option Addr} {c:Nat} {l:List Ls} (h:zjm base w sp c l) (i:Nat) (hi:i<l.length) :
  ∃ g,sp=some ⟨g,0,none⟩∧base≤g∧w.cell? ⟨g,i*4,none⟩=some (.int .i64 l[i].id)∧w.cell? ⟨g,i*4+1,none⟩=some (.int .i64 l[i].seq)∧w.cell? ⟨g,i*4+2,none⟩=some (.int .i64 l[i].e)∧w.cell? ⟨g,i*4+3,none⟩=some (.int .i64 l[i].ver):=by
 obtain⟨g,hs,hb,_,_,hc⟩:=ze1 h (by omega);exact⟨g,hs,hb,hc _ _ (zd3 l i 0 hi (by omega)),hc _ _ (zd3 l i 1 hi (by omega)),hc _ _ (zd3 l i 2 hi (by omega)),hc _ _ (zd3 l i 3 hi (by omega))⟩
end
end Go.Proofs.YtjcjleaicjhpeaaGreatDoor
