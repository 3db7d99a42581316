/- Logs: may entries be added one behind the other? -/
import Derived.Test.YtofllbpfajppeaaGreatDoorB14
import Derived.Test.YtofllbpfajppeaaGreatDoorB09
set_option linter.unusedVariables false
set_option maxRecDepth 20000
set_option maxHeartbeats 16000000
namespace Go.Proofs.YtofllbpfajppeaaGreatDoor
section
open Go.ChangeShapes Go.WideShapes Go.ChangeAt Go.RowKit
def zfg (i:Int):List EntI→Bool
 |[]=>true
 |e::r=>(e.2.2.1==i+1)&&zfg e.2.2.1 r
def zcn (c:Wc):List EntI→Bool
 |[]=>true
 |e::r=>zde c e.2.2.1&&zfg e.2.2.1 r
theorem zid (i:Int) (e:EntI) (r:List EntI):zfg i (e::r)=((e.2.2.1==i+1)&&zfg e.2.2.1 r):=rfl
theorem zgy (c:Wc) (e:EntI) (r:List EntI):zcn c (e::r)=(zde c e.2.2.1&&zfg e.2.2.1 r):=rfl
def zvi (c:Wc) (es:List EntI):Nat→Bool
 |0=>zcn c es
 |j+1=>zfg (es.getD j default).2.2.1 (es.drop (j+1))
theorem zxt (c:Wc) (es:List EntI) (j:Nat) (hj:j=0) (h:j<es.length):zvi c es j=(zde c es[j].2.2.1&&zfg es[j].2.2.1 (es.drop (j+1))):=by
 subst hj;cases es with
 |nil=>simp at h
 |cons e r=>rfl
theorem zxs (c:Wc) (es:List EntI) (i j:Nat) (hj:j=i+1) (hjl:j<es.length) (hil:i<es.length):zvi c es j=((es[j].2.2.1==es[i].2.2.1+1)&&zfg es[j].2.2.1 (es.drop (j+1))):=by
 subst hj;show zfg (es.getD i default).2.2.1 (es.drop (i+1))=_
 rw[List.getD_eq_getElem?_getD,List.getElem?_eq_getElem hil,Option.getD_some,List.drop_eq_getElem_cons hjl,zid]
theorem zqm (c:Wc) (es:List EntI) (j:Nat) (hjl:j<es.length):zvi c es (j+1)=zfg es[j].2.2.1 (es.drop (j+1)):=by
 show zfg (es.getD j default).2.2.1 (es.drop (j+1))=_
 rw[List.getD_eq_getElem?_getD,List.getElem?_eq_getElem hjl,Option.getD_some]
section
variable {w:World} {B:Nat} {T:TypeId} {p q:List Value} {c:Wc} {ep:Option Addr} {ec:Nat}
theorem zpt (h:CtAt w B T p q c ep ec) (o:Nat) (ho:p.length=o) (hbi:c.bi≤1099511627776) (hle:c.es.length≤1000000) (a:Option Addr) (n k:Nat) (es:List EntI) (hn:es.length=n) (hm:n≤1000000) (hE:EntsAt w a es) (hi:∀ e∈es,1≤e.2.2.1∧e.2.2.1≤1099511627776) :
  Calls Tryz.prog 65 #[.pointer (some ⟨B,o,none⟩),.slice a n k] w fun e w'=>e=.returned (.bool (zcn c es))∧Below w.heap.size w w':=by
 have HC:=zaa h;have HO:=zaa ho;have HE:=zaa hE;have HN:=zaa hn;have HI:=zaa hi;have FC:=zaa (fun (W:World) (u:Below w.heap.size w W) (i:Int)=>zmo ((za HC).later u) o (za HO) hbi (by omega) i);clear h ho hE hn hi;go_enter Tryz.func65,Tryz.ntmps65
 go_wp2_with fail
 go_loopw [9] (fun i wr=>∃ j:Nat,j≤n∧i=.int .i64 (j:Int)∧Hid (zcn c es=zvi c es j)∧Hid (Below w.heap.size w wr)) (fun i _=>n - (intOf i).toNat)
 case atStart=>exact⟨0,by omega,rfl,zaa rfl,zaa (Below.refl _ _)⟩
 case round =>
  obtain⟨j,hj,rfl,HR,F⟩:=hrel;by_cases hjn:j<n
  ·have y0:(0:Int)≤(j:Int):=by omega
   have y1:(j:Int)<(n:Int):=by omega
   have hjl:j<es.length:=by rw[za HN];exact hjn
   obtain⟨b,off,dp,dc,hab,q0,q1,q2,q3,_⟩:=(za HE).cell j hjl;have p0:=cell_later (za F) q0;have p1:=cell_later (za F) q1;have p2:=cell_later (za F) q2;have p3:=cell_later (za F) q3;have hij:=za HI _ (List.getElem_mem hjl);have v1:Below wr.heap.size wr (wr.alloc (.cells #[.int .i64 es[j].1,.int .i64 es[j].2.1,.int .i64 es[j].2.2.1,.slice dp es[j].2.2.2.length dc] 64)):=(Below.refl _ _).alloc (Nat.le_refl _) _;have X1:=zad wr (.cells #[.int .i64 es[j].1,.int .i64 es[j].2.1,.int .i64 es[j].2.2.1,.slice dp es[j].2.2.2.length dc] 64);have F1:=zaa ((za F).trans (v1.mono (za F).size));have x2:=zab X1 2 _ rfl;have x2':(wr.alloc (.cells #[.int .i64 es[j].1,.int .i64 es[j].2.1,.int .i64 es[j].2.2.1,.slice dp es[j].2.2.2.length dc] 64)).drew.cell? ⟨wr.heap.size,2,none⟩=some (.int .i64 es[j].2.2.1):=x2;clear q0 q1 q2 q3 v1;subst hab;by_cases hj0:j=0
   ·have RF:=zaa (zxt c es j hj0 hjl);have R1:=zaa (zqm c es j hjl);have J1:=zaa (show((j:Int)==0)=true by simp[hj0]);have J2:=zaa (show decide ((0:Int)<(j:Int))=false from decide_eq_false (by omega));have HJ:=zaa hj0;clear hj0;generalize es[j]=x at *;obtain⟨xk,xt,xi,xd⟩:=x;dsimp only at *;have FX:=zaa (za FC _ ((za F1).drew) xi);cases hf:zde c xi with
    |false =>
     rw[hf] at FX RF;have FE:=zaa (show zcn c es=false by rw[za HR,za RF];rfl)
     go_wp2_with fail
     clear p0 p1 p2 p3;generalize wr.alloc _=W1 at *;have j1:=za J1;have j2:=za J2;have j4:decide (0<j)=false:=decide_eq_false (by have:=za HJ;omega);have j5:¬ 0<j:=by have:=za HJ;omega
     refine wp_region_held_drew (S:=fun w'=>w'.cell? ⟨wr.heap.size,2,none⟩=some (.int .i64 xi)) (by kernel_rfl) ?_ (fun hHeld=>?_)
     ·try dsimp only
      first|exact x2'|exact x3
     refine hT 0 ?_;refine hT 1 ?_;refine hT 2 ?_;refine hT 3 ?_;refine hT 4 ?_;refine hT 5 ?_;refine hO 6 (fun K hK=>?_);go_simp
     first
      |(go_at_call 105
        refine(za FX).mono ?_;rintro r V2 ⟨rfl,v2⟩;have x3:=cell_later v2 x2';have F2:=zaa ((za F1).drew.trans (v2.mono (za F1).drew.size))
        clear v2)
     go_wp2_with fail
     refine hK.out _ _ ?_ (fun hHeld=>?_)
     ·try dsimp only
      first|exact x2'|exact x3
     clear hK K;refine hP ?_;refine hT 7 ?_;refine hT 8 ?_;refine hT 9 ?_;refine hN 10 ?_;refine hN 11 ?_;refine hN 12 ?_;refine hN 13 ?_;refine hN 14 ?_;refine hN 15 ?_;refine hN 16 ?_;refine hN 17 ?_;refine hN 18 ?_;refine hN 19 ?_;refine hN 20 ?_;refine hN 21 ?_;refine hN 22 ?_;refine hN 23 ?_;refine hT 24 ?_;refine wpAnyH_done (by kernel_rfl) ?_ _;clear j1 j2 j4 j5
     go_wp2
     go_ret
     exact⟨by rw[za FE];rfl,za F2⟩
    |true =>
     rw[hf] at FX RF;have FE:=zaa (show zcn c es=zvi c es (j+1) by rw[za HR,za RF,za R1];rfl)
     go_wp2_with fail
     clear p0 p1 p2 p3;generalize wr.alloc _=W1 at *;have j1:=za J1;have j2:=za J2;have j4:decide (0<j)=false:=decide_eq_false (by have:=za HJ;omega);have j5:¬ 0<j:=by have:=za HJ;omega
     refine wp_region_held_drew (S:=fun w'=>w'.cell? ⟨wr.heap.size,2,none⟩=some (.int .i64 xi)) (by kernel_rfl) ?_ (fun hHeld=>?_)
     ·try dsimp only
      first|exact x2'|exact x3
     refine hT 0 ?_;refine hT 1 ?_;refine hT 2 ?_;refine hT 3 ?_;refine hT 4 ?_;refine hT 5 ?_;refine hO 6 (fun K hK=>?_);go_simp
     first
      |(go_at_call 105
        refine(za FX).mono ?_;rintro r V2 ⟨rfl,v2⟩;have x3:=cell_later v2 x2';have F2:=zaa ((za F1).drew.trans (v2.mono (za F1).drew.size))
        clear v2)
     go_wp2_with fail
     refine hK.out _ _ ?_ (fun hHeld=>?_)
     ·try dsimp only
      first|exact x2'|exact x3
     clear hK K;refine hP ?_;refine hT 7 ?_;refine hT 8 ?_;refine hT 9 ?_;refine hT 10 ?_;refine hT 11 ?_;refine hT 12 ?_;refine hN 13 ?_;refine hN 14 ?_;refine hN 15 ?_;refine hN 16 ?_;refine hN 17 ?_;refine hN 18 ?_;refine hN 19 ?_;refine hN 20 ?_;refine hN 21 ?_;refine hN 22 ?_;refine hT 23 ?_;refine hT 24 ?_;refine wpAnyH_done (by kernel_rfl) ?_ _;clear j1 j2 j4 j5
     go_wp2
     exact⟨⟨j+1,by omega,by go_num,FE,F2⟩,by simp[intOf];omega⟩
   ·obtain⟨i,hj0⟩:∃ i,j=i+1:=⟨j - 1,by omega⟩
    have HJ:=zaa hj0;have hil:i<es.length:=by omega
    obtain⟨b2,off2,dp2,dc2,hab2,_,_,r2,_⟩:=(za HE).cell i hil;have s2:=cell_later (za F1) r2;have s2':(wr.alloc (.cells #[.int .i64 es[j].1,.int .i64 es[j].2.1,.int .i64 es[j].2.2.1,.slice dp es[j].2.2.2.length dc] 64)).drew.cell? ⟨b2,off2+i*4+2,none⟩=some (.int .i64 es[i].2.2.1):=s2;simp only[Option.some.injEq,Addr.mk.injEq,and_true] at hab2;obtain⟨rfl,rfl⟩:=hab2;have hii:=za HI _ (List.getElem_mem hil);have RF:=zaa (zxs c es i j hj0 hjl hil);have R1:=zaa (zqm c es j hjl);have hik:IntKind.i64.wrap ((j:Int) - 1)=(i:Int):=by
     rw[IntKind.wrap_i64];omega
    have hi0:(0:Int)≤(i:Int):=by omega
    have hi1:(i:Int)<(n:Int):=by omega
    have j0:¬ (j:Int)=0:=by omega
    have j1:((j:Int)==0)=false:=by simp;omega
    have j2:decide ((0:Int)<(j:Int))=true:=decide_eq_true (by omega);have j3:(0:Int)<(j:Int):=by omega
    have j4:decide (0<j)=true:=decide_eq_true (by omega);have j5:0<j:=by omega
    generalize es[i].2.2.1=yi at *;have hwr:IntKind.i64.wrap (yi+1)=yi+1:=by
     rw[IntKind.wrap_i64];omega
    generalize es[j]=x at *;obtain⟨xk,xt,xi,xd⟩:=x;dsimp only at *;clear hj0 r2 s2;cases hq:(xi==yi+1) with
    |false =>
     rw[hq] at RF;have FE:=zaa (show zcn c es=false by rw[za HR,za RF];rfl);have hq':(xi != yi+1)=true:=by simp only[bne,hq];rfl
     go_wp2_with fail
     clear p0 p1 p2 p3;generalize wr.alloc _=W1 at *;refine wp_region_held_drew (S:=fun w'=>w'.cell? ⟨wr.heap.size,2,none⟩=some (.int .i64 xi)∧w'.cell? ⟨b,off+i*4+2,none⟩=some (.int .i64 yi)) (by kernel_rfl) ?_ (fun hHeld=>?_)
     ·try dsimp only
      exact⟨x2',s2'⟩
     refine hT 0 ?_;refine hT 1 ?_;refine hT 2 ?_;refine hN 3 ?_;refine hN 4 ?_;refine hN 5 ?_;refine zir 6 (by kernel_rfl) rfl (by rfl) (by assumption) ?_;refine hP ?_;refine hN 7 ?_;refine hT 8 ?_;refine hT 9 ?_;refine hT 10 ?_;refine hT 11 ?_;refine hT 12 ?_;refine hT 13 ?_;refine hT 14 ?_;refine hT 15 ?_;refine hT 16 ?_;refine hT 17 ?_;refine hT 18 ?_;refine hT 19 ?_;refine hT 20 ?_;refine hT 21 ?_;refine hT 22 ?_;refine hT 23 ?_;refine hT 24 ?_;refine wpAnyH_done (by kernel_rfl) ?_ _
     go_wp2
     go_ret
     exact⟨by rw[za FE];rfl,(za F1).drew⟩
    |true =>
     rw[hq] at RF;have FE:=zaa (show zcn c es=zvi c es (j+1) by rw[za HR,za RF,za R1];rfl);have hq':(xi != yi+1)=false:=by simp only[bne,hq];rfl
     go_wp2_with fail
     clear p0 p1 p2 p3;generalize wr.alloc _=W1 at *;refine wp_region_held_drew (S:=fun w'=>w'.cell? ⟨wr.heap.size,2,none⟩=some (.int .i64 xi)∧w'.cell? ⟨b,off+i*4+2,none⟩=some (.int .i64 yi)) (by kernel_rfl) ?_ (fun hHeld=>?_)
     ·try dsimp only
      exact⟨x2',s2'⟩
     refine hT 0 ?_;refine hT 1 ?_;refine hT 2 ?_;refine hN 3 ?_;refine hN 4 ?_;refine hN 5 ?_;refine zir 6 (by kernel_rfl) rfl (by rfl) (by assumption) ?_;refine hP ?_;refine hN 7 ?_;refine hT 8 ?_;refine hT 9 ?_;refine hT 10 ?_;refine hT 11 ?_;refine hT 12 ?_;refine hT 13 ?_;refine hT 14 ?_;refine hT 15 ?_;refine hT 16 ?_;refine hT 17 ?_;refine hT 18 ?_;refine hT 19 ?_;refine hT 20 ?_;refine hT 21 ?_;refine hT 22 ?_;refine hT 23 ?_;refine hT 24 ?_;refine wpAnyH_done (by kernel_rfl) ?_ _
     go_wp2
     exact⟨⟨j+1,by omega,by go_num,FE,(za F1).drew⟩,by simp[intOf];omega⟩
  ·have hjj:¬ (j:Int)<(n:Int):=by omega
   obtain rfl:j=n:=by omega
   have FE:=zaa (show zcn c es=true by
    rw[za HR];cases j with
    |zero =>
     have:es=[]:=List.eq_nil_of_length_eq_zero (za HN);subst this;rfl
    |succ i =>
     show zfg _ (es.drop (i+1))=true
     rw[List.drop_of_length_le (by rw[za HN];exact Nat.le_refl _)]
     rfl)
   go_wp2
   go_ret
   exact⟨by rw[za FE];rfl,za F⟩
end
end
section
open Go.ChangeShapes Go.WideShapes Go.ChangeAt Go.RowKit Go.Sort
theorem zel (n:Nat) (hn:n<10000000000000) (w:World) (hz:Tz w):Calls Tryz.prog 61 #[.int .i64 (n:Int)] w fun e w'=>e=.returned (.string (str (walNm n)))∧Below w.heap.size w w':=by
 have IC:=zaa (zu6 n (by omega) w hz);have hsz:(str (Lib.decDigits n)).size≤13:=by rw[zb];exact zga 12 n hn
 have HS:=zaa (show(⟨#[119,97,108,45]⟩:ByteArray)++str (Lib.decDigits n)=str (walNm n) from zho walW _);generalize str (Lib.decDigits n)=ds at *;generalize str (walNm n)=nm at *;clear hz;go_enter Tryz.func61,Tryz.ntmps61
 go_wp2_with fail
 go_at_call 97
 refine(za IC).mono ?_;rintro e V ⟨rfl,v1⟩;have B1:=zaa v1;clear v1
 go_wp2
 go_ret
 exact⟨by rw[← za HS];rfl,za B1⟩
theorem zz9 (s:Nm) (hs:s.length≤64):(Lib.trimPrefix s walW).length≤64:=by
 unfold Lib.trimPrefix;split
 ·rw[List.length_drop];omega
 ·exact hs
theorem zh2 (s:Nm) (hs:s.length≤64) (w:World) (hz:Tz w):Calls Tryz.prog 90 #[.string (str s)] w fun e w'=>e=.returned (.int .i64 (zm6 s:Int))∧Below w.heap.size w w':=by
 have CP:=zaa (show ∀ W,Calls Tryz.prog 119 #[.string (str s),.string ⟨#[119,97,108,45]⟩] W fun e w'=>e=.returned (.tuple #[.string (str (Lib.trimPrefix s walW)),.bool (Lib.hasPrefix s walW)])∧w'=W from fun W=>Tryz.strings_CutPrefix (str s) ⟨#[119,97,108,45]⟩ W)
 have NW:=zaa (show zm6 s=(if Lib.hasPrefix s walW=true then (match Lib.atoiAll (Lib.trimPrefix s walW) with
  |.ok v=>if 1≤v∧v≤1099511627776∧walNm v.toNat=s then v.toNat else 0
  |_=>0) else 0) from rfl)
 have htl:=zz9 s hs;have HZ:=zaa hz;generalize zm6 s=nw at *;by_cases hok:∃ v,Lib.atoiAll (Lib.trimPrefix s walW)=.ok v
 ·obtain⟨v,hv⟩:=hok;have AC:=zaa (fun W=>zAt _ htl v hv W);rw[hv] at NW;dsimp only at NW;obtain⟨vb0,vb1⟩:=Lib.atoiAll_bounds hv;generalize Lib.trimPrefix s walW=x at *;clear hv hz htl;cases hp:Lib.hasPrefix s walW with
  |false =>
   rw[hp,if_neg (by simp)] at NW;rw[hp] at CP;clear hp;generalize str x=sx at *;go_enter Tryz.func90,Tryz.ntmps90
   go_wp2_with fail
   go_at_call 119
   refine(za CP _).mono ?_;rintro e V1 ⟨rfl,hV⟩;subst hV
   go_wp2_with fail
   go_at_call 120
   refine(za AC _).mono ?_;rintro e V2 ⟨rfl,v2⟩;have B2:=zaa v2;clear v2
   go_wp2
   go_ret
   exact⟨by rw[za NW];rfl,za B2⟩
  |true =>
   rw[hp,if_pos rfl] at NW;rw[hp] at CP;clear hp;by_cases h1:v<1
   ·rw[if_neg (by omega)] at NW;generalize str x=sx at *;go_enter Tryz.func90,Tryz.ntmps90
    go_wp2_with fail
    go_at_call 119
    refine(za CP _).mono ?_;rintro e V1 ⟨rfl,hV⟩;subst hV
    go_wp2_with fail
    go_at_call 120
    refine(za AC _).mono ?_;rintro e V2 ⟨rfl,v2⟩;have B2:=zaa v2;clear v2
    go_wp2
    go_ret
    exact⟨by rw[za NW];rfl,za B2⟩
   ·by_cases h2:1099511627776<v
    ·rw[if_neg (by omega)] at NW;generalize str x=sx at *;go_enter Tryz.func90,Tryz.ntmps90
     go_wp2_with fail
     go_at_call 119
     refine(za CP _).mono ?_;rintro e V1 ⟨rfl,hV⟩;subst hV
     go_wp2_with fail
     go_at_call 120
     refine(za AC _).mono ?_;rintro e V2 ⟨rfl,v2⟩;have B2:=zaa v2;clear v2
     go_wp2
     go_ret
     exact⟨by rw[za NW];rfl,za B2⟩
    ·obtain⟨n,rfl⟩:∃ n:Nat,v=(n:Int):=⟨v.toNat,by omega⟩
     rw[Int.toNat_natCast] at NW;have FC:=zaa (fun W (u:Below w.heap.size w W)=>zel n (by omega) W ((za HZ).later u));have EQ:=zst (walNm n) s;have hsz1:(str (walNm n)).size≤17:=by rw[zb];exact walNm_len n (by omega)
     have hsz2:(str s).size≤64:=by rw[zb];exact hs
     by_cases h3:walNm n=s
     ·rw[if_pos ⟨by omega,by omega,h3⟩] at NW;rw[decide_eq_true h3] at EQ;clear h3;generalize str x=sx at *;generalize str s=ss at *;generalize str (walNm n)=sn at *;go_enter Tryz.func90,Tryz.ntmps90
      go_wp2_with fail
      go_at_call 119
      refine(za CP _).mono ?_;rintro e V1 ⟨rfl,hV⟩;subst hV
      go_wp2_with fail
      go_at_call 120
      refine(za AC _).mono ?_;rintro e V2 ⟨rfl,v2⟩;have B2:=zaa v2;clear v2
      go_wp2_with fail
      go_at_call 61
      refine(za FC _ (za B2)).mono ?_;rintro e V3 ⟨rfl,v3⟩;have B3:=zaa ((za B2).trans (v3.mono (za B2).size));clear v3
      go_wp2
      go_ret
      exact⟨by rw[za NW];rfl,za B3⟩
     ·rw[if_neg (fun hh=>h3 hh.2.2)] at NW;rw[decide_eq_false h3] at EQ;clear h3;generalize str x=sx at *;generalize str s=ss at *;generalize str (walNm n)=sn at *;go_enter Tryz.func90,Tryz.ntmps90
      go_wp2_with fail
      go_at_call 119
      refine(za CP _).mono ?_;rintro e V1 ⟨rfl,hV⟩;subst hV
      go_wp2_with fail
      go_at_call 120
      refine(za AC _).mono ?_;rintro e V2 ⟨rfl,v2⟩;have B2:=zaa v2;clear v2
      go_wp2_with fail
      go_at_call 61
      refine(za FC _ (za B2)).mono ?_;rintro e V3 ⟨rfl,v3⟩;have B3:=zaa ((za B2).trans (v3.mono (za B2).size));clear v3
      go_wp2
      go_ret
      exact⟨by rw[za NW];rfl,za B3⟩
 ·have hno:∀ v,Lib.atoiAll (Lib.trimPrefix s walW)≠.ok v:=fun v h=>hok ⟨v,h⟩;have AC:=zaa (fun W (u:Below w.heap.size w W)=>zAs _ htl hno W ((za HZ).later u))
  have NZ:=zaa (show nw=0 by
   rw[za NW];split
   ·split
    ·rename_i v hv
     exact absurd hv (hno v)
    ·rfl
   ·rfl)
  generalize Lib.trimPrefix s walW=x at *;generalize Lib.hasPrefix s walW=hp at *;generalize str x=sx at *;clear hok hno hz htl;cases hp with
  |false =>
   go_enter Tryz.func90,Tryz.ntmps90
   go_wp2_with fail
   go_at_call 119
   refine(za CP _).mono ?_;rintro e V1 ⟨rfl,hV⟩;subst hV
   go_wp2_with fail
   go_at_call 120
   refine(za AC _ (Below.refl _ _)).mono ?_;rintro e V2 ⟨v,t,a,rfl,v2⟩;have B2:=zaa v2;clear v2
   go_wp2
   go_ret
   exact⟨by rw[za NZ];rfl,za B2⟩
  |true =>
   go_enter Tryz.func90,Tryz.ntmps90
   go_wp2_with fail
   go_at_call 119
   refine(za CP _).mono ?_;rintro e V1 ⟨rfl,hV⟩;subst hV
   go_wp2_with fail
   go_at_call 120
   refine(za AC _ (Below.refl _ _)).mono ?_;rintro e V2 ⟨v,t,a,rfl,v2⟩;have B2:=zaa v2;clear v2
   go_wp2
   go_ret
   exact⟨by rw[za NZ];rfl,za B2⟩
def zd8:List Nm→Nat→Nat
 |[],m=>m
 |s::l,m=>zd8 l (max m (zm6 s))
theorem zr6 (l:List Nm) (s:Nm) (m:Nat):zd8 (l++[s]) m=max (zd8 l m) (zm6 s):=by
 induction l generalizing m with
 |nil=>rfl
 |cons x l ih=>exact ih _
theorem zxb (s:Nm):zm6 s≤1099511627776:=by
 rcases Nat.eq_zero_or_pos (zm6 s) with h|h
 ·omega
 ·exact(zxa rfl h).2
theorem zw2 (l:List Nm) (m:Nat) (hm:m≤1099511627776):zd8 l m≤1099511627776:=by
 induction l generalizing m with
 |nil=>exact hm
 |cons x l ih=>exact ih _ (by have:=zxb x;omega)
theorem zl1 {base:Nat} {w:World} {sp:Option Addr} {n c:Nat} {l:List Nm} (h:zfv base w sp c l) (hn:l.length=n) (hm:n≤1000) (hl:∀ s∈l,s.length≤64) (hz:Tz w) :
  Calls Tryz.prog 57 #[.slice sp n c] w fun e w'=>e=.returned (.int .i64 (zd8 l 0:Int))∧Below w.heap.size w w':=by
 have H:=zaa h;have HN:=zaa hn;have HL:=zaa hl;have HZ:=zaa hz;clear h hn hl hz;go_enter Tryz.func57,Tryz.ntmps57
 go_wp2_with fail
 go_loopw [3,8] (fun v i wr=>∃ j m:Nat,j≤n∧i=.int .i64 (j:Int)∧v=.int .i64 (m:Int)∧Hid (zd8 (l.take j) 0=m)∧m≤1099511627776∧Hid (Below w.heap.size w wr)) (fun _ i _=>n - (intOf i).toNat)
 case atStart=>exact⟨0,0,by omega,rfl,rfl,zaa rfl,by omega,zaa (Below.refl _ _)⟩
 case round =>
  obtain⟨j,m,hj,rfl,rfl,HG,hmm,F⟩:=hrel;by_cases hjn:j<n
  ·have y0:(0:Int)≤(j:Int):=by omega
   have y1:(j:Int)<(n:Int):=by omega
   have hjl:j<l.length:=by rw[za HN];exact hjn
   obtain⟨g,rfl,q0⟩:=(za H).cell j hjl;have p0:=cell_later (za F) q0;have NC:=zaa (zh2 l[j] (za HL _ (List.getElem_mem hjl)) wr ((za HZ).later (za F)));have TS:=zaa (show zd8 (l.take (j+1)) 0=max m (zm6 l[j]) by rw[List.take_succ_eq_append_getElem hjl,zr6,za HG]);have hnl:=zxb l[j];clear q0;generalize zm6 l[j]=nw at *;generalize str l[j]=sj at *;by_cases hc:m<nw
   ·have TS':=zaa (show zd8 (l.take (j+1)) 0=nw by rw[za TS];omega);have hc':(m:Int)<(nw:Int):=by omega
    have hmx:max (m:Int) (nw:Int)=(nw:Int):=by omega
    go_wp2_with fail
    go_at_call 90
    refine(za NC).mono ?_;rintro e V ⟨rfl,v1⟩;have F1:=zaa ((za F).trans (v1.mono (za F).size));clear v1
    go_wp2
    exact⟨⟨j+1,nw,by omega,by go_num,by first|rfl|go_num,TS',by omega,F1⟩,by simp[intOf];omega⟩
   ·have TS':=zaa (show zd8 (l.take (j+1)) 0=m by rw[za TS];omega);have hc':¬ (m:Int)<(nw:Int):=by omega
    have hmx:max (m:Int) (nw:Int)=(m:Int):=by omega
    go_wp2_with fail
    go_at_call 90
    refine(za NC).mono ?_;rintro e V ⟨rfl,v1⟩;have F1:=zaa ((za F).trans (v1.mono (za F).size));clear v1
    go_wp2
    exact⟨⟨j+1,m,by omega,by go_num,by first|rfl|go_num,TS',by omega,F1⟩,by simp[intOf];omega⟩
  ·have hjj:¬ (j:Int)<(n:Int):=by omega
   obtain rfl:j=n:=by omega
   have FE:=zaa (show zd8 l 0=m by have h:=za HG;rwa [List.take_of_length_le (by rw[za HN];exact Nat.le_refl _)] at h)
   go_wp2
   go_ret
   exact⟨by rw[za FE];rfl,za F⟩
end
section
open Go.ChangeShapes Go.WideShapes Go.ChangeAt Go.RowKit
structure WAt (Av:Nat→Prop) (base:Nat) (w:World) (L d M room N:Nat) (ss:Ds) (c:Wc) (n:Nat) (ep:Option Addr) (ec:Nat) (hs:List (Option Addr×Nat)):Prop where
 dk:DAt (fun g=>Av g∨g=L∨zc6 ep hs g) base w d M room N ss
 lg:CtAt w L 84 [.pointer (some ⟨d,0,none⟩)] [.int .i64 (n:Int)] c ep ec
 ow:OwnL base w ep ec c.es hs
 bl:base≤L
 av:∀ g,Av g→g≠L∧¬ zc6 ep hs g
 ok:WOk c
 nn:n≤1099511627776
 le:c.es.length≤1000000
 tz:∃ w0:World,w0.heap.size=base∧Tz w0∧Below base w0 w
section
variable {Av:Nat→Prop} {base:Nat} {w w':World} {L d M room N N':Nat} {ss ss':Ds} {c:Wc} {n:Nat} {ep:Option Addr} {ec:Nat} {hs:List (Option Addr×Nat)}
theorem WAt.later (z:WAt Av base w L d M room N ss c n ep ec hs) (u:Below w.heap.size w w'):WAt Av base w' L d M room N ss c n ep ec hs :=
 ⟨z.dk.later u,z.lg.later u,z.ow.later u,z.bl,z.av,z.ok,z.nn,z.le,let ⟨w0,h1,h2,h3⟩:=z.tz;⟨w0,h1,h2,h3.trans (u.mono z.dk.le)⟩⟩
theorem WAt.disk (z:WAt Av base w L d M room N ss c n ep ec hs) (hd:DAt (fun g=>Av g∨g=L∨zc6 ep hs g) base w' d M room N' ss') (ha:Asd (fun g=>Av g∨g=L∨zc6 ep hs g) base w w'):WAt Av base w' L d M room N' ss' c n ep ec hs :=
 ⟨hd,z.lg.same (ha.av L (.inr (.inl rfl))),z.ow.same (fun g hg=>ha.av g (.inr (.inr hg))),z.bl,z.av,z.ok,z.nn,z.le,let ⟨w0,h1,h2,h3⟩:=z.tz;⟨w0,h1,h2,h3.trans ha.bel⟩⟩
theorem WAt.asd (z:WAt Av base w L d M room N ss c n ep ec hs) (ha:Asd (fun g=>Av g∨g=L∨zc6 ep hs g) base w w'):Asd (fun g=>Av g∨g=L∨zc6 ep hs g) base w w':=ha
theorem WAt.asdB (z:WAt Av base w L d M room N ss c n ep ec hs) (u:Below w.heap.size w w'):Asd (fun g=>Av g∨g=L∨zc6 ep hs g) base w w':=Asd.of (fun g hg=>z.dk.lt hg) z.dk.le u
theorem WAt.tzw (z:WAt Av base w L d M room N ss c n ep ec hs):Tz w:=by
 obtain⟨w0,h1,h2,h3⟩:=z.tz;exact h2.later (by rw[h1];exact h3)
theorem WAt.more (z:WAt Av base w L d M room N ss c n ep ec hs) (u:Below w.heap.size w w'):WAt (fun g=>Av g∨(w.heap.size≤g∧g<w'.heap.size)) base w' L d M room N ss c n ep ec hs:=by
 have z':=z.later u;refine⟨(z.dk.more u).av (fun g hg=>?_),z'.lg,z'.ow,z.bl,fun g hg=>?_,z.ok,z.nn,z.le,z'.tz⟩
 ·rcases hg with(hg|hg)|hg|hg
  ·exact .inl (.inl hg)
  ·exact .inr hg
  ·exact .inl (.inr (.inl hg))
  ·exact .inl (.inr (.inr hg))
 ·rcases hg with hg|hg
  ·exact z.av g hg
  ·refine⟨fun e=>?_,fun hf=>?_⟩
   ·have:=z.lg.lt;omega
   ·have:=(z.ow.foot g hf).2.1;omega
theorem WAt.sub {Bv:Nat→Prop} (z:WAt Av base w L d M room N ss c n ep ec hs) (hb:∀ g,Bv g→Av g):WAt Bv base w L d M room N ss c n ep ec hs :=
 ⟨z.dk.av (fun g hg=>hg.imp (hb g) id),z.lg,z.ow,z.bl,fun g hg=>z.av g (hb g hg),z.ok,z.nn,z.le,z.tz⟩
theorem WAt.ptr (z:WAt Av base w L d M room N ss c n ep ec hs):w.cell? ⟨L,0,none⟩=some (.pointer (some ⟨d,0,none⟩))∧w.cell? ⟨L,6,none⟩=some (.int .i64 (n:Int))∧w.frozen? ⟨L,6,none⟩=false :=
 ⟨zab z.lg.row 0 _ rfl,zab z.lg.row 6 _ rfl,zbj z.lg.row 6⟩
theorem WAt.ltL (z:WAt Av base w L d M room N ss c n ep ec hs):L<w.heap.size:=z.lg.lt
theorem zay (z:WAt Av base w L d M room N ss c n ep ec hs):Calls Tryz.prog 23 #[.pointer (some ⟨L,0,none⟩)] w fun e w'=>e=.returned (.string (str (walNm n)))∧Below w.heap.size w w':=by
 obtain⟨c0,c6,_⟩:=z.ptr;have FC:=zaa (zel n (by have:=z.nn;omega) w z.tzw);generalize str (walNm n)=nm at *;clear z c0;go_enter Tryz.func23,Tryz.ntmps23
 go_wp2_with fail
 go_at_call 61
 refine(za FC).mono ?_;rintro e V ⟨rfl,v1⟩;have B1:=zaa v1;clear v1
 go_wp2
 go_ret
 exact⟨rfl,za B1⟩
def zns (Av:Nat→Prop) (base L d M room N:Nat) (w:World) (c:Wc) (n:Nat) (ep:Option Addr) (ec:Nat) (hs:List (Option Addr×Nat)) (r:Nat×Ds) (e:Ending) (w':World):Prop :=
 e=.returned (.int .i64 (r.1:Int))∧WAt Av base w' L d M room N r.2 c n ep ec hs∧Asd (fun g=>Av g∨g=L∨zc6 ep hs g) base w w'
theorem zg4 (n:Nat) (hn:n≤1099511627776):(str (walNm n)).size≤maxLen:=by
 rw[zb];have:=walNm_len n (by omega);simp only[maxLen];omega
theorem zii (z:WAt Av base w L d M room N ss c n ep ec hs):Calls Tryz.prog 18 #[.pointer (some ⟨L,0,none⟩)] w (zns Av base L d M room N w c n ep ec hs (zax (walNm n) ss)):=by
 obtain⟨c0,_,_⟩:=z.ptr;have Z:=zaa z;have FC:=zaa (zay (z.later ((Below.refl _ _).drew)));have SC:=zaa (fun (W:World) (u:Below w.heap.size w W)=>zkf (z.dk.later u) (str (walNm n)) (zg4 n z.nn));rw[zam] at SC;have d0:w.drew.cell? ⟨L,0,none⟩=some (.pointer (some ⟨d,0,none⟩)):=c0;generalize str (walNm n)=nm at *;clear z;go_enter Tryz.func18,Tryz.ntmps18
 go_wp2_with fail
 refine wp_region_held_drew (S:=fun w'=>w'.cell? ⟨L,0,none⟩=some (.pointer (some ⟨d,0,none⟩))) (by kernel_rfl) ?_ (fun hHeld=>?_)
 ·try dsimp only
  first|exact d0|exact d1|exact d2
 refine hT 0 ?_;refine hT 1 ?_;refine hT 2 ?_;refine hT 3 ?_;refine hT 4 ?_;refine hO 5 (fun K hK=>?_);go_simp
 first
  |(go_at_call 23
    refine(za FC).mono ?_;rintro e V1 ⟨rfl,v1⟩;have d1:=cell_later v1 d0;have B1:=zaa (show Below w.heap.size w V1 from⟨v1.os,v1.tape,v1.output,v1.size,v1.block⟩)
    clear v1)
  |(go_at_call 52
    refine(za SC _ (za B1)).mono ?_;rintro e V2 ⟨rfl,dk2,as2⟩;have Z2:=zaa (((za Z).later (za B1)).disk dk2 as2);have A2:=zaa (((za Z).asdB (za B1)).trans (((za Z).later (za B1)).asd as2));have d2:=(za Z2).ptr.1
    clear dk2 as2)
 go_wp2_with fail
 refine hK.out _ _ ?_ (fun hHeld=>?_)
 ·try dsimp only
  first|exact d0|exact d1|exact d2
 clear hK K;refine hP ?_;refine hO 6 (fun K hK=>?_);go_simp
 first
  |(go_at_call 23
    refine(za FC).mono ?_;rintro e V1 ⟨rfl,v1⟩;have d1:=cell_later v1 d0;have B1:=zaa (show Below w.heap.size w V1 from⟨v1.os,v1.tape,v1.output,v1.size,v1.block⟩)
    clear v1)
  |(go_at_call 52
    refine(za SC _ (za B1)).mono ?_;rintro e V2 ⟨rfl,dk2,as2⟩;have Z2:=zaa (((za Z).later (za B1)).disk dk2 as2);have A2:=zaa (((za Z).asdB (za B1)).trans (((za Z).later (za B1)).asd as2));have d2:=(za Z2).ptr.1
    clear dk2 as2)
 go_wp2_with fail
 refine hK.out _ _ ?_ (fun hHeld=>?_)
 ·try dsimp only
  first|exact d0|exact d1|exact d2
 clear hK K;refine hP ?_;refine hT 7 ?_;refine wpAnyH_done (by kernel_rfl) ?_ _
 go_wp2
 go_ret
 exact⟨rfl,za Z2,za A2⟩
theorem zig (z:WAt Av base w L d M room N ss c n ep ec hs):Calls Tryz.prog 24 #[.pointer (some ⟨L,0,none⟩)] w fun e w'=>e=.returned (.int .i64 ((c.bi+c.es.length:Nat):Int))∧Below w.heap.size w w':=by
 have LC:=zaa (zjg z.lg 1 rfl z.ok.bi (by have:=z.le;omega));generalize ((c.bi+c.es.length:Nat):Int)=la at *;clear z;go_enter Tryz.func24,Tryz.ntmps24
 go_wp2_with fail
 go_at_call 62
 refine(za LC).mono ?_;rintro e V ⟨rfl,v1⟩;have B1:=zaa v1;clear v1
 go_wp2
 go_ret
 exact⟨rfl,za B1⟩
theorem zs4 (z:WAt Av base w L d M room N ss c n ep ec hs) (i:Int) (hi:-9223372036854775808≤i∧i≤9223372036854775807):Calls Tryz.prog 13 #[.pointer (some ⟨L,0,none⟩),.int .i64 i] w fun e w'=>e=.returned (.tuple #[.int .i64 (zdd c i).1,.bool (zdd c i).2])∧Below w.heap.size w w':=by
 have LC:=zaa (znk z.lg 1 rfl z.ok.bi (by have:=z.le;omega) z.ow i hi);generalize zdd c i=tw at *;obtain⟨t1,t2⟩:=tw;dsimp only at *;clear z;go_enter Tryz.func13,Tryz.ntmps13
 go_wp2_with fail
 go_at_call 49
 refine(za LC).mono ?_;rintro e V ⟨rfl,v1⟩;have B1:=zaa v1;clear v1
 go_wp2
 go_ret2
 exact⟨rfl,za B1⟩
end
def IdxIs (s:Nm) (l:List Nm) (i:Int):Prop:=decide (0≤i)=decide (s∈l)∧i≤1000∧-1≤i
section
variable {base:Nat} {w:World} {sp:Option Addr} {n c:Nat} {l:List Nm}
theorem zp0 (h:zfv base w sp c l) (hn:l.length=n) (hm:n≤1000) (s:Nm) :
  Calls Tryz.prog 154 #[.slice sp n c,.string (str s)] w fun e w'=>(∃ i:Int,e=.returned (.int .i64 i)∧IdxIs s l i)∧w'=w:=by
 have H:=zaa h;have HN:=zaa hn;clear h hn;go_enter Tryz.func154,Tryz.ntmps154
 go_wp2_with fail
 go_loopw [8] (fun i wr=>∃ j:Nat,j≤n∧i=.int .i64 (j:Int)∧Hid (s ∉ l.take j)∧Hid (wr=w)) (fun i _=>n - (intOf i).toNat)
 case atStart=>exact⟨0,by omega,rfl,zaa (by simp),zaa rfl⟩
 case round =>
  obtain⟨j,hj,rfl,HT,HW⟩:=hrel;have hw:=za HW;subst hw;by_cases hjn:j<n
  ·have y0:(0:Int)≤(j:Int):=by omega
   have y1:(j:Int)<(n:Int):=by omega
   have hjl:j<l.length:=by rw[za HN];exact hjn
   obtain⟨g,rfl,q0⟩:=(za H).cell j hjl;have EQ:=zst s l[j];have TS:=zaa (show l.take (j+1)=l.take j++[l[j]] by rw[List.take_succ_eq_append_getElem hjl]);have ME:=zaa (List.getElem_mem hjl);generalize l[j]=x at *;by_cases hx:s=x
   ·rw[decide_eq_true hx] at EQ
    have FE:=zaa (show decide ((0:Int)≤(j:Int))=decide (s∈l) by
     rw[decide_eq_true y0,decide_eq_true (by rw[hx];exact za ME)])
    clear hx;generalize str x=sx at *;generalize str s=sy at *
    go_wp2
    go_ret
    exact⟨⟨_,rfl,za FE,by omega,by omega⟩,rfl⟩
   ·rw[decide_eq_false hx] at EQ
    have HT':=zaa (show s ∉ l.take (j+1) by
     rw[za TS];intro hm;rcases List.mem_append.1 hm with h|h
     ·exact za HT h
     ·rw[List.mem_singleton] at h
      exact hx h)
    clear hx;generalize str x=sx at *;generalize str s=sy at *
    go_wp2
    exact⟨⟨j+1,by omega,by go_num,HT',by first|exact HW|exact zaa trivial|exact zaa rfl⟩,by simp[intOf];omega⟩
  ·have hjj:¬ (j:Int)<(n:Int):=by omega
   obtain rfl:j=n:=by omega
   have FE:=zaa (show decide ((0:Int)≤(-1:Int))=decide (s∈l) by
    have h:=za HT;rw[List.take_of_length_le (by rw[za HN];exact Nat.le_refl _)] at h;rw[decide_eq_false h]
    rfl)
   go_wp2
   go_ret
   exact⟨⟨-1,rfl,za FE,by omega,by omega⟩,rfl⟩
theorem zlz (h:zfv base w sp c l) (hn:l.length=n) (hm:n≤1000) (s:Nm) :
  Calls Tryz.prog 121 #[.slice sp n c,.string (str s)] w fun e w'=>e=.returned (.bool (decide (s∈l)))∧w'=w:=by
 have IC:=zaa (zp0 h hn hm s);obtain⟨dd,hdd⟩:∃ dd,decide (s∈l)=dd:=⟨_,rfl⟩
 have DD:=zaa hdd;rw[hdd];clear hdd h;generalize str s=sy at *;go_enter Tryz.func121,Tryz.ntmps121
 go_wp2_with fail
 go_at_call 154
 refine(za IC).mono ?_;rintro e V ⟨⟨i,rfl,hi⟩,rfl⟩;obtain⟨hd,h1,h2⟩:=hi;have HD:=zaa (hd.trans (za DD));clear hd
 go_wp2
 go_ret
 exact⟨by rw[← za HD];rfl,rfl⟩
end
end
end Go.Proofs.YtofllbpfajppeaaGreatDoor
