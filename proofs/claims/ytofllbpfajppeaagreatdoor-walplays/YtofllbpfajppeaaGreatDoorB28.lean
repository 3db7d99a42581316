/- The document's disk: Write (written by mkre9.py). -/
import Derived.Test.YtofllbpfajppeaaGreatDoorB27
set_option linter.unusedVariables false
set_option maxRecDepth 20000
set_option maxHeartbeats 16000000
namespace Go.Proofs.YtofllbpfajppeaaGreatDoor
open Go.ChangeShapes Go.WideShapes Go.ChangeAt Go.RowKit Go.Maps
theorem zt8 (s:Sp) (k:Nat) (o:List Nat):(wrote s k o).us=s.us++zaj (false,k,o):=by
 unfold wrote;split
 ·rename_i h
  have:o=[]:=List.eq_nil_of_length_eq_zero h;subst this;simp[zaj]
 ·exact zt4 _ _
theorem zt7 (s:Sp) (k:Nat) (o:List Nat):(wrote s k o).la=s.la∧(wrote s k o).y=s.y∧(wrote s k o).cs.length≤s.cs.length+1:=by
 unfold wrote;split
 ·exact⟨rfl,rfl,by omega⟩
 ·exact⟨rfl,rfl,by simp⟩
theorem SOk.wrote {s:Sp} (h:SOk s) (k:Nat) (o:List Nat) (hk:k≤s.now.length) (hm:k+o.length≤262144) (hb:∀ b∈o,b<256):SOk (wrote s k o):=by
 unfold Go.Proofs.YtofllbpfajppeaaGreatDoor.wrote;split
 ·exact h
 ·rename_i h0
  have h8:s.now.length≤262144:=by rw[← h.now];exact h.len _
  refine⟨zfy _ _ _ h.fit hk (by show s.now.length+o.length≤_;omega),?_,h.y8,h.yb,?_⟩
  ·intro c hc;rcases List.mem_append.1 hc with hc|hc
   ·exact h.small c hc
   ·obtain rfl:c=(false,k,o):=by simpa using hc
    exact⟨fun _=>⟨hm,by show 0<o.length;omega⟩,fun e=>by cases e⟩
  ·intro c hc;rcases List.mem_append.1 hc with hc|hc
   ·exact h.cb c hc
   ·obtain rfl:c=(false,k,o):=by simpa using hc
    exact hb
theorem SOk.zero:SOk sp0:=⟨trivial,by simp[sp0],by simp[sp0],by simp[sp0],by simp[sp0]⟩
theorem RfAt.zero (base:Nat) (w:World) (nm:Nm):RfAt base w (nm,⟨sp0,none,0,none,0⟩):=⟨SOk.zero,Bx.ofNil _ _,World.ownsRow_nil _ _ _ _,by simp[sp0,Sp.us,usL]⟩
section
variable {base R room:Nat} {w w':World} {sp:Option Addr} {c:Nat} {rs rs':List Rf}
theorem zvt (h:RefAt base w R room sp c rs) (hbs:base≤w.heap.size) (s:ByteArray) (hs:s.size≤maxLen) (hnl:zgd s.data.toList=true) (i:Nat) (hi:i<rs.length) (he:rs[i].1=s.data.toList) (z:Int) (hz64:z≤9223372036854775807) (xp:Option Addr) (xn xc:Nat) (o:List Nat) (ho:o.length=xn) (hB:BytesAt w xp o) (hxl:xn≤10000000000) (hcs:∀ x∈rs,x.2.s.cs.length≤300) :
  Calls Tryz.prog 110 #[.pointer (some ⟨R,0,none⟩),.string s,.int .i64 z,.slice xp xn xc] w (zhf base R room w sp rs (zai room s.data.toList z o (rss rs))):=by
 have FC:=zaa (zcx h s);have NB:=zaa (fun (W:World)=>zgf s W hs);have VC:=zaa (fun W (hb:Below w.heap.size w W)=>h.later hb);have H:=zaa h;have HS:=zaa hbs;have h16:=h.few;have hsl:(rss rs).length=rs.length:=by simp[rss]
 have hul:usedS (rss rs)≤4194304:=by
  have key:∀ l:List Rf,(∀ x∈l,x.2.s.now.length≤262144)→usedS (rss l)≤l.length*262144:=by
   intro l;induction l with
   |nil=>intro _;simp[rss,usedS]
   |cons x r ih =>
    intro hl;have h1:=ih (fun y hy=>hl y (List.mem_cons_of_mem _ hy));have h2:=hl x List.mem_cons_self;simp only[rss,usedS,List.map_cons,List.sum_cons,List.length_cons] at h1 ⊢;omega
  have:=key rs (fun x hx=>by
   have:=(h.own.dat x hx).ok
   rw[← this.now];exact this.len _)
  exact Nat.le_trans this (Nat.mul_le_mul_right 262144 h.few)
 obtain⟨g,rfl,p0,p1,p2,p3⟩:=h.own.cells i hi;have hi0:¬ ((i:Int)<0):=by omega
 have hi1:(i:Int)<(rs.length:Int):=by omega
 have hi2:(0:Int)≤(i:Int):=by omega
 have DAT:=zaa (fun W (hb:Below w.heap.size w W)=>(za VC W hb).own.dat _ (List.getElem_mem hi));have GI:=zaa (show zcc s.data.toList rs=some rs[i].2 by rw[← he];exact h.getI i hi)
 have FI:=zaa (show ∀ e,zro rs s.data.toList e→e=.returned (.int .i64 (i:Int)) from fun e hF=>by
  rcases hF with⟨j,hj,hje,rfl⟩|⟨hno,_⟩
  ·have hij:j=i:=by
    have h1:=h.rise.one (List.getElem_mem hj) (List.getElem_mem hi) (hje.trans he.symm);have hnd:=h.rise.nodup;have h2:(rs.map (·.1))[j]'(by simpa using hj)=(rs.map (·.1))[i]'(by simpa using hi):=by rw[List.getElem_map,List.getElem_map,h1]
    exact(List.getElem_inj hnd).1 h2
   rw[hij]
  ·exact absurd (he ▸ List.mem_map.2 ⟨_,List.getElem_mem hi,rfl⟩) hno)
 have ZM:=zaa (List.getElem_mem hi);have CL:=zaa (hcs _ (List.getElem_mem hi))
 have KL:=zaa (fun (v:RV)=>show(zbi s.data.toList v rs).length≤16 by
  rw[zg8 h.rise (by rw[← he];exact List.mem_map.2 ⟨_,List.getElem_mem hi,rfl⟩)];exact h.few)
 generalize rs[i]=x at *;obtain⟨nm,t,yp,yc,up,uc⟩:=x;have hnm:nm=s.data.toList:=he;subst hnm;simp only[ze6] at p0;simp only at p1 p2 p3 DAT GI CL;have hg0:(zcc s.data.toList (rss rs)).getD sp0=t:=by rw[zbr,za GI];rfl
 have hgn:(zcc s.data.toList (rss rs)).isNone=false:=by rw[zbr,za GI];rfl
 have FT:=zaa (show ∀ g',Rf.foot (s.data.toList,(⟨t,yp,yc,up,uc⟩:RV)) g'→zew (some ⟨g,0,none⟩) rs g' from fun g' hg=>.inr ⟨_,za ZM,hg⟩);have bz:Below w.heap.size w (w.alloc (.cells #[.string s,.bool false,.slice none 0 0,.slice none 0 0] 116)):=(Below.refl _ _).alloc (Nat.le_refl _) _;have hgl:g<w.heap.size:=World.block_lt_of_cell? _ _ p1;have pz0:=(bz.cell (p:=⟨g,i*4,none⟩) hgl).trans p0;have pz1:=(bz.cell (p:=⟨g,i*4+1,none⟩) hgl).trans p1;have pz2:=(bz.cell (p:=⟨g,i*4+2,none⟩) hgl).trans p2;have pz3:=(bz.cell (p:=⟨g,i*4+3,none⟩) hgl).trans p3;have cz1:=(h.later bz).c1;clear bz hgl p0 p1 p2 p3;have c1:=h.c1;have OK:=zaa (za DAT w (Below.refl _ _)).ok;have hw8:t.now.length≤262144:=by
  have hh:SOk t:=za OK;rw[← hh.now];exact hh.len _
 have hd:zai room s.data.toList z o (rss rs)=if z<0∨z > t.now.length then (2,rss rs) else if (xn:Int) > 262144 - z then (6,rss rs) else if (usedS (rss rs):Int)+max (z+xn - t.now.length) 0 > room then (9,rss rs) else (0,zbi s.data.toList (wrote t z.toNat o) (rss rs)):=by
  unfold zai;rw[if_neg (by simp[hnl]),hg0,hgn,hsl,ho];simp only[Bool.false_eq_true,false_and,false_or]
 obtain⟨r,hr⟩:∃ r,zai room s.data.toList z o (rss rs)=r:=⟨_,rfl⟩
 rw[hr] at hd ⊢;have HD:=zaa hd;have ES:=zaa (fun W (hb:Below w.heap.size w W) (k:Nat) (he:r=(k,rss rs))=>zhf.stay (w:=w) (r:=r) (e:=.returned (.int .i64 (k:Int))) h hb (by rw[he]) (by rw[he]));have b1:Below w.heap.size w (w.alloc (.cells #[.string s,.bool t.la,.slice yp t.y.length yc,.slice up t.us.length uc] 116)):=(Below.refl _ _).alloc (Nat.le_refl _) _;have hs1:(w.alloc (.cells #[.string s,.bool t.la,.slice yp t.y.length yc,.slice up t.us.length uc] 116)).heap.size=w.heap.size+1:=by simp
 have X1:=zaa (zad w (.cells #[.string s,.bool t.la,.slice yp t.y.length yc,.slice up t.us.length uc] 116));have NC:=zaa (zf2 base (w.alloc (.cells #[.string s,.bool t.la,.slice yp t.y.length yc,.slice up t.us.length uc] 116)) (s.data.toList,⟨t,yp,yc,up,uc⟩) (za DAT _ b1));have RC:=zaa (fun W (hb:Below w.heap.size w W)=>show W.cell? ⟨R,1,none⟩=some (.slice (some ⟨g,0,none⟩) rs.length c)∧W.frozen? ⟨R,1,none⟩=false∧W.cell? ⟨R,0,none⟩=some (.int .i64 (room:Int)) from⟨(za VC W hb).c1,(za VC W hb).z1,(za VC W hb).c0⟩)
 have YY:=zaa (show ∀ (k:Nat),k≤t.now.length→k+o.length≤262144→∀ W up' uc',Below w.heap.size w W→zgq (w.heap.size+1) W up' uc' (t.us++zaj (false,k,o))→Calls Tryz.prog 112 #[.slice (some ⟨g,0,none⟩) rs.length c,.agg #[.string s,.bool t.la,.slice yp t.y.length yc,.slice up' (t.us++zaj (false,k,o)).length uc']] W fun e w'=>∃ sp' n' c',e=.returned (.slice sp' n' c')∧zhf base R room w (some ⟨g,0,none⟩) rs (0,zbi s.data.toList (wrote t k o) (rss rs)) (.returned (.int .i64 0)) (w'.setCell ⟨R,1,none⟩ (.slice sp' n' c'))∧Below w.heap.size w w' from fun k hk hkm  W up' uc' hb hU=>by
  have husn:=zt8 t k o;obtain⟨wl,wy,wc⟩:=zt7 t k o;have hsok:=(show SOk t from za OK).wrote k o hk hkm hB.lt;have hle:(t.us++zaj (false,k,o)).length≤100000000:=by
   rw[← husn];have h1:=zAa _ hsok.small;have h2:t.cs.length≤300:=za CL;show(usL (wrote t k o).cs).length≤_
   omega
  have hsu:Bx base W yp yc t.y:=(za DAT W hb).sure
  have:=h.putS hbs s.data.toList ⟨wrote t k o,yp,yc,up',uc'⟩ W hb ⟨hsok,by show Bx base W yp yc (wrote t k o).y;rw[wy];exact hsu,by show zgq base W up' uc' (wrote t k o).us;rw[husn];exact zhn hU (by omega),by show(wrote t k o).us.length≤_;rw[husn];exact hle⟩ (za KL _) (by
   rintro g' (hg|hg)
   ·exact .inl (za FT g' (.inl hg))
   ·exact .inr (by have:=(zb9 hU g' hg).1;omega))
  simp only[husn,ze6,wl,wy] at this;refine this.mono ?_;rintro e W' ⟨sp',n',c',rfl,hD,hbb⟩
  exact⟨sp',n',c',rfl,⟨rfl,_,by rw[zlb],hD⟩,hbb⟩)
 have UC:=zaa (fun W (hb:Below w.heap.size w W)=>zlg (h.later hb).drew);have HX1:=zaa (show ∀ W,Below (w.heap.size+1) (w.alloc (.cells #[.string s,.bool t.la,.slice yp t.y.length yc,.slice up t.us.length uc] 116)) W→W.heap[w.heap.size]? = some (.cells #[.string s,.bool t.la,.slice yp t.y.length yc,.slice up t.us.length uc] 116 (0,0)) from fun W b=>(b.block w.heap.size (by omega)).trans (za X1));have UD:=zaa (show ∀ W,Below w.heap.size w W→zgq base W up uc t.us from fun W b=>(za DAT W b).units);have u8:t.us.length≤100000000:=(za DAT w (Below.refl _ _)).few;have BYT:=zaa (fun W (hb:Below w.heap.size w W)=>hB.later hb);have B1:=zaa b1;unfold zhv at NC;simp only[ze6] at NC;have HO:=zaa ho;clear b1 X1 hd hr hg0 hgn h hbs hB ho hsl hs hcs;obtain⟨n,hn⟩:∃ n,rs.length=n:=⟨_,rfl⟩
 rw[hn] at c1 RC YY h16 hi1 cz1;clear hn;go_enter Tryz.func110,Tryz.ntmps110
 go_wp2_with (go_at_call 144;refine(za NB _).mono ?_;rintro e w' ⟨rfl,rfl⟩)
 refine(za FC).mono ?_;rintro e w2 ⟨rfl,hF⟩;obtain rfl:=za FI _ hF;clear hF FI FC NB
 go_wp2_with fail
 generalize w2.alloc (.cells #[.string s,.bool t.la,.slice yp t.y.length yc,.slice up t.us.length uc] 116)=V1 at *;refine(za NC).mono ?_;rintro e V2 ⟨sp2,n2,c2,rfl,hn2,h8,hX2,b2⟩;rw[hs1] at b2;have B2:=zaa b2;have BV2:=zaa ((za B1).trans (b2.mono (by omega)));have HN2:=zaa (show t.now.length=n2 from hn2);have hd2:r=if z<0∨z > n2 then (2,rss rs) else if (xn:Int) > 262144 - z then (6,rss rs) else if (usedS (rss rs):Int)+max (z+xn - n2) 0 > room then (9,rss rs) else (0,zbi s.data.toList (wrote t z.toNat o) (rss rs)):=by
  have:=za HD;rw[za HN2] at this;exact this
 have HD2:=zaa hd2;obtain⟨q1,q2,q0⟩:=za RC V2 (za BV2);clear hX2 b2 hn2 hd2 HD NC;by_cases hA:z<0∨z > n2
 ·have E3:=zaa (za ES V2 (za BV2) 2 (by rw[za HD2,if_pos hA]));by_cases hz0:z<0
  ·clear hA
   go_wp2
   go_ret
   exact za E3
  ·have hz1:(n2:Int)<z:=by omega
   clear hA
   go_wp2
   go_ret
   exact za E3
 ·obtain⟨k,rfl⟩:∃ k:Nat,z=(k:Int):=⟨z.toNat,by omega⟩
  have hk:k≤n2:=by omega
  have hz0:¬ ((k:Int)<0):=by omega
  have hz1:¬ ((n2:Int)<(k:Int)):=by omega
  obtain⟨A,hAe⟩:∃ A,k+xn=A:=⟨_,rfl⟩
  have hwr:IntKind.i64.wrap ((k:Int)+(xn:Int))=(A:Int):=by rw[IntKind.wrap_i64];omega
  by_cases hg1:n2<A
  ·have hgi:(n2:Int)<(A:Int):=by omega
   by_cases hC:262144<A
   ·have E3:=zaa (za ES V2 (za BV2) 6 (by rw[za HD2,if_neg hA,if_pos (by omega)]));have hCi:(262144:Int)<(A:Int):=by omega
    go_wp2
    go_ret
    exact za E3
   ·have hCd:¬ ((262144:Int)<(A:Int)):=by omega
    have hul2:=hul;generalize hu:usedS (rss rs)=u at hul2;have HU:=zaa hu;clear hu;have hs1':IntKind.i64.wrap ((u:Int) - (n2:Int))=(u:Int) - (n2:Int):=by rw[IntKind.wrap_i64];omega
    have hs2':IntKind.i64.wrap ((u:Int) - (n2:Int)+(A:Int))=(u:Int) - (n2:Int)+(A:Int):=by rw[IntKind.wrap_i64];omega
    have UC2:=zaa (za UC V2 (za BV2));rw[za HU] at UC2;by_cases hD:(u:Int) - (n2:Int)+(A:Int) > (room:Int)
    ·have hD2:(room:Int)<(u:Int) - (n2:Int)+(A:Int):=hD;have E9:=zaa (fun W (hb:Below w2.heap.size w2 W)=>za ES W hb 9 (by rw[za HD2,if_neg hA,if_neg (by omega),za HU,if_pos (by omega)]));clear hC hD
     go_wp2_with fail
     go_region_held3 (fun w'=>w'.cell? ⟨R,0,none⟩=some (.int .i64 (room:Int))) (first|go_keep|exact q0|exact r0) (first
      |(go_at_call 145
        refine(za UC2).mono ?_;rintro e W3 ⟨rfl,b3⟩;have B3:=zaa (show Below w2.heap.size w2 W3 from(za BV2).trans (Below.mono ⟨b3.os,b3.tape,b3.output,b3.size,b3.block⟩ (za BV2).size));obtain⟨_,_,r0⟩:=za RC W3 (za B3);have E3:=zaa (za E9 W3 (za B3))
        clear b3))
     all_goals
      go_wp2
      go_ret
      exact za E3
    ·have hD2:¬ (room:Int)<(u:Int) - (n2:Int)+(A:Int):=hD;have hre:r=(0,zbi s.data.toList (wrote t k o) (rss rs)):=by
      rw[za HD2,if_neg hA,if_neg (by omega),za HU,if_neg (by omega),Int.toNat_natCast]
     have Y2:=zaa (za YY k (by rw[za HN2];omega) (by rw[za HO];omega));rw[← hre] at Y2;clear hC hD hre
     go_wp2_with fail
     go_region_held3 (fun w'=>w'.cell? ⟨R,0,none⟩=some (.int .i64 (room:Int))) (first|go_keep|exact q0|exact r0) (first
      |(go_at_call 145
        refine(za UC2).mono ?_;rintro e W3 ⟨rfl,b3⟩;have B3:=zaa (show Below V2.heap.size V2 W3 from⟨b3.os,b3.tape,b3.output,b3.size,b3.block⟩);obtain⟨_,_,r0⟩:=za RC W3 ((za BV2).trans ((za B3).mono (za BV2).size))
        clear b3))
     all_goals
      have hV2:w2.heap.size+1≤V2.heap.size:=by have:=(za B2).size;omega
      have BW3:=zaa ((za B2).trans ((za B3).mono hV2));have hW3:w2.heap.size+1≤W3.heap.size:=Nat.le_trans hV2 (za B3).size;have A3:=zaa (show Below W3.heap.size W3 (W3.alloc (.cells #[] 150)) from(Below.refl _ _).alloc (Nat.le_refl _) _);have O3:=zaa (zgq.empty W3 (w2.heap.size+1) hW3);have B4:=zaa ((za BW3).trans ((za A3).mono hW3));have BV4:=zaa ((za B1).trans ((za B4).mono (by omega)));have u3:(W3.alloc (.cells #[] 150)).cell? ⟨w2.heap.size,3,none⟩=some (.slice up t.us.length uc):=zan (za HX1 _ (za B4)) 3 _ rfl;have S3:=zaa (za UD _ (za BV4));have u8':=u8;generalize hnu:t.us.length=nu at u3 u8';have HNU:=zaa hnu
      go_wp2_with (at_builtin;refine zbn rfl (.tmp 80) (.tmp 82) rfl (w2.heap.size+1) base (some ⟨W3.heap.size,0,none⟩) up 0 nu 0 uc [] t.us rfl rfl rfl (za HNU) (by exact za O3) (by exact za S3) (by omega) (by exact Nat.le_trans hW3 (za A3).size) ?_;intro sp4 n4 c4 V4 hn4 hO4 hG4;refine za ?_)
      refine zaa ?_;rw[List.nil_append] at hn4 hO4;have B5:=zaa (show Below (w2.heap.size+1) V1 V4 from(za B4).grown hG4.grown (by have:=(za B4).size;omega) (fun g' hg'=>by simp[blk] at hg';omega));have O4:=zaa hO4;have hn48:n4≤100000000:=by have:=za hn4;omega
      clear hO4 hG4 u3 O3 S3
      go_wp2_with fail
      go_loopw [13,14] (fun v i wr=>∃ (j m:Nat) (op:Option Addr) (oc:Nat),j≤xn∧m≤n4+j∧v=.slice op m oc∧i=.int .i64 (j:Int)∧Hid ((t.us++(zaj (false,k,o)).take j).length=m)∧Hid (zgq (w2.heap.size+1) wr op oc (t.us++(zaj (false,k,o)).take j))∧Hid (Below (w2.heap.size+1) V1 wr)) (fun _ i _=>xn - (intOf i).toNat)
      case atStart=>exact⟨0,n4,sp4,c4,by omega,by omega,rfl,rfl,by rw[List.take_zero,List.append_nil];exact hn4,by rw[List.take_zero,List.append_nil];exact O4,B5⟩
      case round =>
       obtain⟨j,m,op,oc,hj,hm,rfl,rfl,HM,HW,HB⟩:=hrel;have BW:=zaa ((za B1).trans ((za HB).mono (by omega)));by_cases hjn:j<xn
       ·have y1:(j:Int)<(xn:Int):=by omega
        have y0:(0:Int)≤(j:Int):=by omega
        have hjo:j<o.length:=by rw[za HO];exact hjn
        have hul':(zaj (false,k,o)).length=o.length:=by rw[zbc];rfl
        obtain⟨bb,off,rfl,p0⟩:=(za BYT wr (za BW)).cell j hjo;rw[List.getD_eq_getElem?_getD,List.getElem?_eq_getElem hjo,Option.getD_some] at p0
        have TK:=zaa (show(zaj (false,k,o)).take (j+1)=(zaj (false,k,o)).take j++[(false,k+j,o[j])] by
         rw[List.take_succ_eq_append_getElem (by omega)]
         congr 2
         simp only[zaj,Bool.false_eq_true,if_false,List.getElem_map,List.getElem_range];rw[List.getD_eq_getElem?_getD,List.getElem?_eq_getElem hjo]
         rfl)
        have hwk:IntKind.i64.wrap ((k:Int)+(j:Int))=((k+j:Nat):Int):=by rw[IntKind.wrap_i64];omega
        generalize o[j]=yy at *;have hWr:w2.heap.size+1≤wr.heap.size:=by have:=(za HB).size;have:=(za B2).size;omega
        have A5:=zaa (show Below wr.heap.size wr (wr.alloc (.cells #[.bool false,.int .i64 ((k+j:Nat):Int),.int .u8 (yy:Int)] 150)) from(Below.refl _ _).alloc (Nat.le_refl _) _);have O5:=zaa (zck (za HW) (fun g hg=>(za A5).block g (zb9 (za HW) g hg).2.1));have S5:=zaa (zgq.one (false,k+j,yy) (zad wr (.cells #[.bool false,.int .i64 ((k+j:Nat):Int),.int .u8 (yy:Int)] 150)));have B6:=zaa ((za HB).trans ((za A5).mono hWr));have YB:=zaa (fun g (hg:blk op=some g)=>(zb9 (za HW) g hg).1);clear hul'
        go_wp2_with (at_builtin;refine zbn rfl (.tmp 90) (.tmp 99) rfl (w2.heap.size+1) 0 op (some ⟨wr.heap.size,0,none⟩) m 1 oc 1 (t.us++(zaj (false,k,o)).take j) [(false,k+j,yy)] rfl rfl (za HM) rfl (by exact za O5) (by exact za S5) (by omega) (by exact Nat.le_trans hWr (za A5).size) ?_;intro sp7 n7 c7 V7 hn7 hO7 hG7;refine za ?_)
        refine zaa ?_;rw[List.append_assoc,← za TK] at hn7 hO7;have O7:=zaa hO7;have B7:=zaa (show Below (w2.heap.size+1) V1 V7 from(za B6).grown hG7.grown (by have:=(za B6).size;have:=(za HB).size;omega) (fun g' hg'=>za YB g' hg'));have hn7b:n7≤m+1:=by
         have h1:=za hn7;have h2:=za HM;rw[za TK] at h1;simp only[List.length_append,List.length_cons,List.length_nil] at h1 h2;omega
        clear hO7 hG7
        go_wp2
        exact⟨⟨j+1,n7,sp7,c7,by omega,by omega,rfl,by go_num,za hn7,za O7,za B7⟩,by simp[intOf];omega⟩
       ·have y1:¬ (j:Int)<(xn:Int):=by omega
        have hul':(zaj (false,k,o)).take j=zaj (false,k,o):=List.take_of_length_le (by rw[zbc];show o.length≤j;rw[za HO];omega);rw[hul'] at HM HW;have hX6:=za HX1 wr (za HB);have w3:=zan hX6 3 _ rfl;have f3:=zio hX6 3;have hX7:(wr.setCell ⟨w2.heap.size,3,none⟩ (.slice op m oc)).heap[w2.heap.size]? = some (.cells #[.string s,.bool t.la,.slice yp t.y.length yc,.slice op m oc] 116 (0,0)):=by
         rw[heap_setCell_same wr w2.heap.size 3 _ 116 _ hX6];rfl
        have BV7:=zaa (show Below w2.heap.size w2 (wr.setCell ⟨w2.heap.size,3,none⟩ (.slice op m oc)) from(za BW).grown (zaf wr w2.heap.size 3 _) (za BW).size (fun g hg=>by have:=Option.some.inj hg;omega))
        have O7:=zaa (zck (w':=wr.setCell ⟨w2.heap.size,3,none⟩ (.slice op m oc)) (za HW) (fun g hg=>heap_setCell_other _ ⟨w2.heap.size,3,none⟩ g _ (fun e=>by
         have e2:g=w2.heap.size:=e;have:=(zb9 (za HW) g hg).1
         omega)))
        have x0:=zan hX7 0 _ rfl;have x1:=zan hX7 1 _ rfl;have x2:=zan hX7 2 _ rfl;have x3:=zan hX7 3 _ rfl;obtain⟨r1,r2,_⟩:=za RC _ (za BV7);clear hX6 hX7 hul'
        go_wp2_with fail
        generalize wr.setCell ⟨w2.heap.size,3,none⟩ (.slice op m oc)=V7 at *
        have UX:=zaa (show ∀ W,Below V7.heap.size V7 W→Calls Tryz.prog 112 #[.slice (some ⟨g,0,none⟩) n c,.agg #[.string s,.bool t.la,.slice yp t.y.length yc,.slice op m oc]] W _ from fun W hb=>by
         have hbb:=(za BV7).trans (hb.mono (za BV7).size);have:=za Y2 W op oc hbb (zck (za O7) (fun g hg=>hb.block g (zb9 (za O7) g hg).2.1));rw[za HM] at this
         exact this)
        go_region_law (go_simp;go_at_call 112;refine(za UX V7.drew ((Below.refl _ _).drew)).mono ?_;rintro e W' ⟨sp',n',c',rfl,hE',b3⟩;have E3:=zaa hE';obtain⟨v1,z1,_⟩:=za RC W' b3;clear hE' b3)
        all_goals
         go_wp2
         go_ret
         exact za E3
  ·have hgi:¬ (n2:Int)<(A:Int):=by omega
   by_cases hC:262144<n2
   ·have E3:=zaa (za ES V2 (za BV2) 6 (by rw[za HD2,if_neg hA,if_pos (by omega)]));exfalso;omega
   ·have hCd:¬ ((262144:Int)<(n2:Int)):=by omega
    have hul2:=hul;generalize hu:usedS (rss rs)=u at hul2;have HU:=zaa hu;clear hu;have hs1':IntKind.i64.wrap ((u:Int) - (n2:Int))=(u:Int) - (n2:Int):=by rw[IntKind.wrap_i64];omega
    have hs2':IntKind.i64.wrap ((u:Int))=(u:Int):=by rw[IntKind.wrap_i64];omega
    have UC2:=zaa (za UC V2 (za BV2));rw[za HU] at UC2;by_cases hD:(u:Int) > (room:Int)
    ·have hD2:(room:Int)<(u:Int):=hD;have E9:=zaa (fun W (hb:Below w2.heap.size w2 W)=>za ES W hb 9 (by rw[za HD2,if_neg hA,if_neg (by omega),za HU,if_pos (by omega)]));clear hC hD
     go_wp2_with fail
     go_region_held3 (fun w'=>w'.cell? ⟨R,0,none⟩=some (.int .i64 (room:Int))) (first|go_keep|exact q0|exact r0) (first
      |(go_at_call 145
        refine(za UC2).mono ?_;rintro e W3 ⟨rfl,b3⟩;have B3:=zaa (show Below w2.heap.size w2 W3 from(za BV2).trans (Below.mono ⟨b3.os,b3.tape,b3.output,b3.size,b3.block⟩ (za BV2).size));obtain⟨_,_,r0⟩:=za RC W3 (za B3);have E3:=zaa (za E9 W3 (za B3))
        clear b3))
     all_goals
      go_wp2
      go_ret
      exact za E3
    ·have hD2:¬ (room:Int)<(u:Int):=hD;have hre:r=(0,zbi s.data.toList (wrote t k o) (rss rs)):=by
      rw[za HD2,if_neg hA,if_neg (by omega),za HU,if_neg (by omega),Int.toNat_natCast]
     have Y2:=zaa (za YY k (by rw[za HN2];omega) (by rw[za HO];omega));rw[← hre] at Y2;clear hC hD hre
     go_wp2_with fail
     go_region_held3 (fun w'=>w'.cell? ⟨R,0,none⟩=some (.int .i64 (room:Int))) (first|go_keep|exact q0|exact r0) (first
      |(go_at_call 145
        refine(za UC2).mono ?_;rintro e W3 ⟨rfl,b3⟩;have B3:=zaa (show Below V2.heap.size V2 W3 from⟨b3.os,b3.tape,b3.output,b3.size,b3.block⟩);obtain⟨_,_,r0⟩:=za RC W3 ((za BV2).trans ((za B3).mono (za BV2).size))
        clear b3))
     all_goals
      have hV2:w2.heap.size+1≤V2.heap.size:=by have:=(za B2).size;omega
      have BW3:=zaa ((za B2).trans ((za B3).mono hV2));have hW3:w2.heap.size+1≤W3.heap.size:=Nat.le_trans hV2 (za B3).size;have A3:=zaa (show Below W3.heap.size W3 (W3.alloc (.cells #[] 150)) from(Below.refl _ _).alloc (Nat.le_refl _) _);have O3:=zaa (zgq.empty W3 (w2.heap.size+1) hW3);have B4:=zaa ((za BW3).trans ((za A3).mono hW3));have BV4:=zaa ((za B1).trans ((za B4).mono (by omega)));have u3:(W3.alloc (.cells #[] 150)).cell? ⟨w2.heap.size,3,none⟩=some (.slice up t.us.length uc):=zan (za HX1 _ (za B4)) 3 _ rfl;have S3:=zaa (za UD _ (za BV4));have u8':=u8;generalize hnu:t.us.length=nu at u3 u8';have HNU:=zaa hnu
      go_wp2_with (at_builtin;refine zbn rfl (.tmp 80) (.tmp 82) rfl (w2.heap.size+1) base (some ⟨W3.heap.size,0,none⟩) up 0 nu 0 uc [] t.us rfl rfl rfl (za HNU) (by exact za O3) (by exact za S3) (by omega) (by exact Nat.le_trans hW3 (za A3).size) ?_;intro sp4 n4 c4 V4 hn4 hO4 hG4;refine za ?_)
      refine zaa ?_;rw[List.nil_append] at hn4 hO4;have B5:=zaa (show Below (w2.heap.size+1) V1 V4 from(za B4).grown hG4.grown (by have:=(za B4).size;omega) (fun g' hg'=>by simp[blk] at hg';omega));have O4:=zaa hO4;have hn48:n4≤100000000:=by have:=za hn4;omega
      clear hO4 hG4 u3 O3 S3
      go_wp2_with fail
      go_loopw [13,14] (fun v i wr=>∃ (j m:Nat) (op:Option Addr) (oc:Nat),j≤xn∧m≤n4+j∧v=.slice op m oc∧i=.int .i64 (j:Int)∧Hid ((t.us++(zaj (false,k,o)).take j).length=m)∧Hid (zgq (w2.heap.size+1) wr op oc (t.us++(zaj (false,k,o)).take j))∧Hid (Below (w2.heap.size+1) V1 wr)) (fun _ i _=>xn - (intOf i).toNat)
      case atStart=>exact⟨0,n4,sp4,c4,by omega,by omega,rfl,rfl,by rw[List.take_zero,List.append_nil];exact hn4,by rw[List.take_zero,List.append_nil];exact O4,B5⟩
      case round =>
       obtain⟨j,m,op,oc,hj,hm,rfl,rfl,HM,HW,HB⟩:=hrel;have BW:=zaa ((za B1).trans ((za HB).mono (by omega)));by_cases hjn:j<xn
       ·have y1:(j:Int)<(xn:Int):=by omega
        have y0:(0:Int)≤(j:Int):=by omega
        have hjo:j<o.length:=by rw[za HO];exact hjn
        have hul':(zaj (false,k,o)).length=o.length:=by rw[zbc];rfl
        obtain⟨bb,off,rfl,p0⟩:=(za BYT wr (za BW)).cell j hjo;rw[List.getD_eq_getElem?_getD,List.getElem?_eq_getElem hjo,Option.getD_some] at p0
        have TK:=zaa (show(zaj (false,k,o)).take (j+1)=(zaj (false,k,o)).take j++[(false,k+j,o[j])] by
         rw[List.take_succ_eq_append_getElem (by omega)]
         congr 2
         simp only[zaj,Bool.false_eq_true,if_false,List.getElem_map,List.getElem_range];rw[List.getD_eq_getElem?_getD,List.getElem?_eq_getElem hjo]
         rfl)
        have hwk:IntKind.i64.wrap ((k:Int)+(j:Int))=((k+j:Nat):Int):=by rw[IntKind.wrap_i64];omega
        generalize o[j]=yy at *;have hWr:w2.heap.size+1≤wr.heap.size:=by have:=(za HB).size;have:=(za B2).size;omega
        have A5:=zaa (show Below wr.heap.size wr (wr.alloc (.cells #[.bool false,.int .i64 ((k+j:Nat):Int),.int .u8 (yy:Int)] 150)) from(Below.refl _ _).alloc (Nat.le_refl _) _);have O5:=zaa (zck (za HW) (fun g hg=>(za A5).block g (zb9 (za HW) g hg).2.1));have S5:=zaa (zgq.one (false,k+j,yy) (zad wr (.cells #[.bool false,.int .i64 ((k+j:Nat):Int),.int .u8 (yy:Int)] 150)));have B6:=zaa ((za HB).trans ((za A5).mono hWr));have YB:=zaa (fun g (hg:blk op=some g)=>(zb9 (za HW) g hg).1);clear hul'
        go_wp2_with (at_builtin;refine zbn rfl (.tmp 90) (.tmp 99) rfl (w2.heap.size+1) 0 op (some ⟨wr.heap.size,0,none⟩) m 1 oc 1 (t.us++(zaj (false,k,o)).take j) [(false,k+j,yy)] rfl rfl (za HM) rfl (by exact za O5) (by exact za S5) (by omega) (by exact Nat.le_trans hWr (za A5).size) ?_;intro sp7 n7 c7 V7 hn7 hO7 hG7;refine za ?_)
        refine zaa ?_;rw[List.append_assoc,← za TK] at hn7 hO7;have O7:=zaa hO7;have B7:=zaa (show Below (w2.heap.size+1) V1 V7 from(za B6).grown hG7.grown (by have:=(za B6).size;have:=(za HB).size;omega) (fun g' hg'=>za YB g' hg'));have hn7b:n7≤m+1:=by
         have h1:=za hn7;have h2:=za HM;rw[za TK] at h1;simp only[List.length_append,List.length_cons,List.length_nil] at h1 h2;omega
        clear hO7 hG7
        go_wp2
        exact⟨⟨j+1,n7,sp7,c7,by omega,by omega,rfl,by go_num,za hn7,za O7,za B7⟩,by simp[intOf];omega⟩
       ·have y1:¬ (j:Int)<(xn:Int):=by omega
        have hul':(zaj (false,k,o)).take j=zaj (false,k,o):=List.take_of_length_le (by rw[zbc];show o.length≤j;rw[za HO];omega);rw[hul'] at HM HW;have hX6:=za HX1 wr (za HB);have w3:=zan hX6 3 _ rfl;have f3:=zio hX6 3;have hX7:(wr.setCell ⟨w2.heap.size,3,none⟩ (.slice op m oc)).heap[w2.heap.size]? = some (.cells #[.string s,.bool t.la,.slice yp t.y.length yc,.slice op m oc] 116 (0,0)):=by
         rw[heap_setCell_same wr w2.heap.size 3 _ 116 _ hX6];rfl
        have BV7:=zaa (show Below w2.heap.size w2 (wr.setCell ⟨w2.heap.size,3,none⟩ (.slice op m oc)) from(za BW).grown (zaf wr w2.heap.size 3 _) (za BW).size (fun g hg=>by have:=Option.some.inj hg;omega))
        have O7:=zaa (zck (w':=wr.setCell ⟨w2.heap.size,3,none⟩ (.slice op m oc)) (za HW) (fun g hg=>heap_setCell_other _ ⟨w2.heap.size,3,none⟩ g _ (fun e=>by
         have e2:g=w2.heap.size:=e;have:=(zb9 (za HW) g hg).1
         omega)))
        have x0:=zan hX7 0 _ rfl;have x1:=zan hX7 1 _ rfl;have x2:=zan hX7 2 _ rfl;have x3:=zan hX7 3 _ rfl;obtain⟨r1,r2,_⟩:=za RC _ (za BV7);clear hX6 hX7 hul'
        go_wp2_with fail
        generalize wr.setCell ⟨w2.heap.size,3,none⟩ (.slice op m oc)=V7 at *
        have UX:=zaa (show ∀ W,Below V7.heap.size V7 W→Calls Tryz.prog 112 #[.slice (some ⟨g,0,none⟩) n c,.agg #[.string s,.bool t.la,.slice yp t.y.length yc,.slice op m oc]] W _ from fun W hb=>by
         have hbb:=(za BV7).trans (hb.mono (za BV7).size);have:=za Y2 W op oc hbb (zck (za O7) (fun g hg=>hb.block g (zb9 (za O7) g hg).2.1));rw[za HM] at this
         exact this)
        go_region_law (go_simp;go_at_call 112;refine(za UX V7.drew ((Below.refl _ _).drew)).mono ?_;rintro e W' ⟨sp',n',c',rfl,hE',b3⟩;have E3:=zaa hE';obtain⟨v1,z1,_⟩:=za RC W' b3;clear hE' b3)
        all_goals
         go_wp2
         go_ret
         exact za E3
theorem zvs (h:RefAt base w R room sp c rs) (hbs:base≤w.heap.size) (s:ByteArray) (hs:s.size≤maxLen) (hnl:zgd s.data.toList=true) (hno:s.data.toList ∉ rs.map (·.1)) (z:Int) (hz64:z≤9223372036854775807) (xp:Option Addr) (xn xc:Nat) (o:List Nat) (ho:o.length=xn) (hB:BytesAt w xp o) (hxl:xn≤10000000000) :
  Calls Tryz.prog 110 #[.pointer (some ⟨R,0,none⟩),.string s,.int .i64 z,.slice xp xn xc] w (zhf base R room w sp rs (zai room s.data.toList z o (rss rs))):=by
 have FC:=zaa (zcx h s);have NB:=zaa (fun (W:World)=>zgf s W hs);have VC:=zaa (fun W (hb:Below w.heap.size w W)=>h.later hb);have H:=zaa h;have HS:=zaa hbs;have h16:=h.few;have hsl:(rss rs).length=rs.length:=by simp[rss]
 have hul:usedS (rss rs)≤4194304:=by
  have key:∀ l:List Rf,(∀ x∈l,x.2.s.now.length≤262144)→usedS (rss l)≤l.length*262144:=by
   intro l;induction l with
   |nil=>intro _;simp[rss,usedS]
   |cons x r ih =>
    intro hl;have h1:=ih (fun y hy=>hl y (List.mem_cons_of_mem _ hy));have h2:=hl x List.mem_cons_self;simp only[rss,usedS,List.map_cons,List.sum_cons,List.length_cons] at h1 ⊢;omega
  have:=key rs (fun x hx=>by
   have:=(h.own.dat x hx).ok
   rw[← this.now];exact this.len _)
  exact Nat.le_trans this (Nat.mul_le_mul_right 262144 h.few)
 have hi0:((-1:Int)<0):=by omega
 have FI:=zaa (show ∀ e,zro rs s.data.toList e→e=.returned (.int .i64 (-1)) from fun e hF=>by
  rcases hF with⟨j,hj,hje,rfl⟩|⟨_,rfl⟩
  ·exact absurd (hje ▸ List.mem_map.2 ⟨_,List.getElem_mem hj,rfl⟩) hno
  ·rfl)
 have GI:=zb8.2 hno;have DAT:=zaa (fun W (_:Below w.heap.size w W)=>RfAt.zero base W s.data.toList);have hg0:(zcc s.data.toList (rss rs)).getD sp0=sp0:=by rw[zbr,GI];rfl
 have hgn:(zcc s.data.toList (rss rs)).isNone=true:=by rw[zbr,GI];rfl
 have KL:=zaa (fun (v:RV)=>show rs.length<16→(zbi s.data.toList v rs).length≤16 from fun h15=>by
  rw[zdb h.rise,if_neg hno];omega)
 have CL:=zaa (show sp0.cs.length≤300 by simp[sp0])
 have FT:=zaa (show ∀ g',Rf.foot (s.data.toList,(⟨sp0,none,0,none,0⟩:RV)) g'→zew sp rs g' from by
  rintro g' (hg|hg)
  ·cases hg
  ·cases hg)
 have c1:=h.c1;have OK:=zaa (za DAT w (Below.refl _ _)).ok;have hw8:sp0.now.length≤262144:=by
  have hh:SOk sp0:=za OK;rw[← hh.now];exact hh.len _
 have hd:zai room s.data.toList z o (rss rs)=if z<0∨z > sp0.now.length then (2,rss rs) else if 16≤rs.length∨(xn:Int) > 262144 - z then (6,rss rs) else if (usedS (rss rs):Int)+max (z+xn - sp0.now.length) 0 > room then (9,rss rs) else (0,zbi s.data.toList (wrote sp0 z.toNat o) (rss rs)):=by
  unfold zai;rw[if_neg (by simp[hnl]),hg0,hgn,hsl,ho];simp only[true_and]
 obtain⟨r,hr⟩:∃ r,zai room s.data.toList z o (rss rs)=r:=⟨_,rfl⟩
 rw[hr] at hd ⊢;have HD:=zaa hd;have ES:=zaa (fun W (hb:Below w.heap.size w W) (k:Nat) (he:r=(k,rss rs))=>zhf.stay (w:=w) (r:=r) (e:=.returned (.int .i64 (k:Int))) h hb (by rw[he]) (by rw[he]));have b1:Below w.heap.size w (w.alloc (.cells #[.string s,.bool false,.slice none 0 0,.slice none 0 0] 116)):=(Below.refl _ _).alloc (Nat.le_refl _) _;have hs1:(w.alloc (.cells #[.string s,.bool false,.slice none 0 0,.slice none 0 0] 116)).heap.size=w.heap.size+1:=by simp
 have X1:=zaa (zad w (.cells #[.string s,.bool false,.slice none 0 0,.slice none 0 0] 116));have NC:=zaa (zf2 base (w.alloc (.cells #[.string s,.bool false,.slice none 0 0,.slice none 0 0] 116)) (s.data.toList,⟨sp0,none,0,none,0⟩) (za DAT _ b1));have RC:=zaa (fun W (hb:Below w.heap.size w W)=>show W.cell? ⟨R,1,none⟩=some (.slice sp rs.length c)∧W.frozen? ⟨R,1,none⟩=false∧W.cell? ⟨R,0,none⟩=some (.int .i64 (room:Int)) from⟨(za VC W hb).c1,(za VC W hb).z1,(za VC W hb).c0⟩)
 have YY:=zaa (show ∀ (k:Nat),k≤sp0.now.length→k+o.length≤262144→rs.length<16→∀ W up' uc',Below w.heap.size w W→zgq (w.heap.size+1) W up' uc' (sp0.us++zaj (false,k,o))→Calls Tryz.prog 112 #[.slice sp rs.length c,.agg #[.string s,.bool false,.slice none 0 0,.slice up' (sp0.us++zaj (false,k,o)).length uc']] W fun e w'=>∃ sp' n' c',e=.returned (.slice sp' n' c')∧zhf base R room w sp rs (0,zbi s.data.toList (wrote sp0 k o) (rss rs)) (.returned (.int .i64 0)) (w'.setCell ⟨R,1,none⟩ (.slice sp' n' c'))∧Below w.heap.size w w' from fun k hk hkm h15 W up' uc' hb hU=>by
  have husn:=zt8 sp0 k o;obtain⟨wl,wy,wc⟩:=zt7 sp0 k o;have hsok:=(show SOk sp0 from za OK).wrote k o hk hkm hB.lt;have hle:(sp0.us++zaj (false,k,o)).length≤100000000:=by
   rw[← husn];have h1:=zAa _ hsok.small;have h2:sp0.cs.length≤300:=za CL;show(usL (wrote sp0 k o).cs).length≤_
   omega
  have hsu:Bx base W none 0 sp0.y:=(za DAT W hb).sure
  have:=h.putS hbs s.data.toList ⟨wrote sp0 k o,none,0,up',uc'⟩ W hb ⟨hsok,by show Bx base W none 0 (wrote sp0 k o).y;rw[wy];exact hsu,by show zgq base W up' uc' (wrote sp0 k o).us;rw[husn];exact zhn hU (by omega),by show(wrote sp0 k o).us.length≤_;rw[husn];exact hle⟩ (za KL _ h15) (by
   rintro g' (hg|hg)
   ·exact .inl (za FT g' (.inl hg))
   ·exact .inr (by have:=(zb9 hU g' hg).1;omega))
  simp only[husn,ze6,wl,wy] at this;refine this.mono ?_;rintro e W' ⟨sp',n',c',rfl,hD,hbb⟩
  exact⟨sp',n',c',rfl,⟨rfl,_,by rw[zlb],hD⟩,hbb⟩)
 have UC:=zaa (fun W (hb:Below w.heap.size w W)=>zlg (h.later hb).drew);have HX1:=zaa (show ∀ W,Below (w.heap.size+1) (w.alloc (.cells #[.string s,.bool false,.slice none 0 0,.slice none 0 0] 116)) W→W.heap[w.heap.size]? = some (.cells #[.string s,.bool false,.slice none 0 0,.slice none 0 0] 116 (0,0)) from fun W b=>(b.block w.heap.size (by omega)).trans (za X1));have UD:=zaa (show ∀ W,Below w.heap.size w W→zgq base W none 0 sp0.us from fun W b=>(za DAT W b).units);have u8:sp0.us.length≤100000000:=(za DAT w (Below.refl _ _)).few;have BYT:=zaa (fun W (hb:Below w.heap.size w W)=>hB.later hb);have B1:=zaa b1;unfold zhv at NC;simp only[ze6] at NC;have HO:=zaa ho;clear b1 X1 hd hr hg0 hgn h hbs hB ho hsl hs hno GI;obtain⟨n,hn⟩:∃ n,rs.length=n:=⟨_,rfl⟩
 rw[hn] at c1 RC YY h16 HD;clear hn;go_enter Tryz.func110,Tryz.ntmps110
 go_wp2_with (go_at_call 144;refine(za NB _).mono ?_;rintro e w' ⟨rfl,rfl⟩)
 refine(za FC).mono ?_;rintro e w2 ⟨rfl,hF⟩;obtain rfl:=za FI _ hF;clear hF FI FC NB
 go_wp2_with fail
 generalize w2.alloc (.cells #[.string s,.bool false,.slice none 0 0,.slice none 0 0] 116)=V1 at *;refine(za NC).mono ?_;rintro e V2 ⟨sp2,n2,c2,rfl,hn2,h8,hX2,b2⟩;rw[hs1] at b2;have B2:=zaa b2;have BV2:=zaa ((za B1).trans (b2.mono (by omega)));have HN2:=zaa (show sp0.now.length=n2 from hn2);have hd2:r=if z<0∨z > n2 then (2,rss rs) else if 16≤n∨(xn:Int) > 262144 - z then (6,rss rs) else if (usedS (rss rs):Int)+max (z+xn - n2) 0 > room then (9,rss rs) else (0,zbi s.data.toList (wrote sp0 z.toNat o) (rss rs)):=by
  have:=za HD;rw[za HN2] at this;exact this
 have HD2:=zaa hd2;obtain⟨q1,q2,q0⟩:=za RC V2 (za BV2);clear hX2 b2 hn2 hd2 HD NC;by_cases hA:z<0∨z > n2
 ·have E3:=zaa (za ES V2 (za BV2) 2 (by rw[za HD2,if_pos hA]));by_cases hz0:z<0
  ·clear hA
   go_wp2
   go_ret
   exact za E3
  ·have hz1:(n2:Int)<z:=by omega
   clear hA
   go_wp2
   go_ret
   exact za E3
 ·obtain⟨k,rfl⟩:∃ k:Nat,z=(k:Int):=⟨z.toNat,by omega⟩
  have hk:k≤n2:=by omega
  have hz0:¬ ((k:Int)<0):=by omega
  have hz1:¬ ((n2:Int)<(k:Int)):=by omega
  obtain⟨A,hAe⟩:∃ A,k+xn=A:=⟨_,rfl⟩
  have hwr:IntKind.i64.wrap ((k:Int)+(xn:Int))=(A:Int):=by rw[IntKind.wrap_i64];omega
  by_cases hg1:n2<A
  ·have hgi:(n2:Int)<(A:Int):=by omega
   by_cases hC:16≤n∨262144<A
   ·have E3:=zaa (za ES V2 (za BV2) 6 (by rw[za HD2,if_neg hA,if_pos (by omega)]));by_cases h16n:16≤n
    ·have h16i:(16:Int)≤(n:Int):=by omega
     go_wp2
     go_ret
     exact za E3
    ·have h16i:¬ (16:Int)≤(n:Int):=by omega
     have hCi:(262144:Int)<(A:Int):=by omega
     go_wp2
     go_ret
     exact za E3
   ·have hCd:¬ ((262144:Int)<(A:Int)):=by omega
    have h15:¬ (16:Int)≤(n:Int):=by omega
    have hul2:=hul;generalize hu:usedS (rss rs)=u at hul2;have HU:=zaa hu;clear hu;have hs1':IntKind.i64.wrap ((u:Int) - (n2:Int))=(u:Int) - (n2:Int):=by rw[IntKind.wrap_i64];omega
    have hs2':IntKind.i64.wrap ((u:Int) - (n2:Int)+(A:Int))=(u:Int) - (n2:Int)+(A:Int):=by rw[IntKind.wrap_i64];omega
    have UC2:=zaa (za UC V2 (za BV2));rw[za HU] at UC2;by_cases hD:(u:Int) - (n2:Int)+(A:Int) > (room:Int)
    ·have hD2:(room:Int)<(u:Int) - (n2:Int)+(A:Int):=hD;have E9:=zaa (fun W (hb:Below w2.heap.size w2 W)=>za ES W hb 9 (by rw[za HD2,if_neg hA,if_neg (by omega),za HU,if_pos (by omega)]));clear hC hD
     go_wp2_with fail
     go_region_held3 (fun w'=>w'.cell? ⟨R,0,none⟩=some (.int .i64 (room:Int))) (first|go_keep|exact q0|exact r0) (first
      |(go_at_call 145
        refine(za UC2).mono ?_;rintro e W3 ⟨rfl,b3⟩;have B3:=zaa (show Below w2.heap.size w2 W3 from(za BV2).trans (Below.mono ⟨b3.os,b3.tape,b3.output,b3.size,b3.block⟩ (za BV2).size));obtain⟨_,_,r0⟩:=za RC W3 (za B3);have E3:=zaa (za E9 W3 (za B3))
        clear b3))
     all_goals
      go_wp2
      go_ret
      exact za E3
    ·have hD2:¬ (room:Int)<(u:Int) - (n2:Int)+(A:Int):=hD;have hre:r=(0,zbi s.data.toList (wrote sp0 k o) (rss rs)):=by
      rw[za HD2,if_neg hA,if_neg (by omega),za HU,if_neg (by omega),Int.toNat_natCast]
     have Y2:=zaa (za YY k (by rw[za HN2];omega) (by rw[za HO];omega) (by omega));rw[← hre] at Y2;clear hC hD hre
     go_wp2_with fail
     go_region_held3 (fun w'=>w'.cell? ⟨R,0,none⟩=some (.int .i64 (room:Int))) (first|go_keep|exact q0|exact r0) (first
      |(go_at_call 145
        refine(za UC2).mono ?_;rintro e W3 ⟨rfl,b3⟩;have B3:=zaa (show Below V2.heap.size V2 W3 from⟨b3.os,b3.tape,b3.output,b3.size,b3.block⟩);obtain⟨_,_,r0⟩:=za RC W3 ((za BV2).trans ((za B3).mono (za BV2).size))
        clear b3))
     all_goals
      have hV2:w2.heap.size+1≤V2.heap.size:=by have:=(za B2).size;omega
      have BW3:=zaa ((za B2).trans ((za B3).mono hV2));have hW3:w2.heap.size+1≤W3.heap.size:=Nat.le_trans hV2 (za B3).size;have A3:=zaa (show Below W3.heap.size W3 (W3.alloc (.cells #[] 150)) from(Below.refl _ _).alloc (Nat.le_refl _) _);have O3:=zaa (zgq.empty W3 (w2.heap.size+1) hW3);have B4:=zaa ((za BW3).trans ((za A3).mono hW3));have BV4:=zaa ((za B1).trans ((za B4).mono (by omega)));have u3:(W3.alloc (.cells #[] 150)).cell? ⟨w2.heap.size,3,none⟩=some (.slice none 0 0):=zan (za HX1 _ (za B4)) 3 _ rfl;have S3:=zaa (za UD _ (za BV4))
      go_wp2_with (at_builtin;refine zbn rfl (.tmp 80) (.tmp 82) rfl (w2.heap.size+1) base (some ⟨W3.heap.size,0,none⟩) none 0 0 0 0 [] sp0.us rfl rfl rfl (rfl) (by exact za O3) (by exact za S3) (by omega) (by exact Nat.le_trans hW3 (za A3).size) ?_;intro sp4 n4 c4 V4 hn4 hO4 hG4;refine za ?_)
      refine zaa ?_;rw[List.nil_append] at hn4 hO4;have B5:=zaa (show Below (w2.heap.size+1) V1 V4 from(za B4).grown hG4.grown (by have:=(za B4).size;omega) (fun g' hg'=>by simp[blk] at hg';omega));have O4:=zaa hO4;have hn48:n4≤100000000:=by have:=za hn4;simp[sp0,Sp.us,usL] at this;omega
      clear hO4 hG4 u3 O3 S3
      go_wp2_with fail
      go_loopw [13,14] (fun v i wr=>∃ (j m:Nat) (op:Option Addr) (oc:Nat),j≤xn∧m≤n4+j∧v=.slice op m oc∧i=.int .i64 (j:Int)∧Hid ((sp0.us++(zaj (false,k,o)).take j).length=m)∧Hid (zgq (w2.heap.size+1) wr op oc (sp0.us++(zaj (false,k,o)).take j))∧Hid (Below (w2.heap.size+1) V1 wr)) (fun _ i _=>xn - (intOf i).toNat)
      case atStart=>exact⟨0,n4,sp4,c4,by omega,by omega,rfl,rfl,by rw[List.take_zero,List.append_nil];exact hn4,by rw[List.take_zero,List.append_nil];exact O4,B5⟩
      case round =>
       obtain⟨j,m,op,oc,hj,hm,rfl,rfl,HM,HW,HB⟩:=hrel;have BW:=zaa ((za B1).trans ((za HB).mono (by omega)));by_cases hjn:j<xn
       ·have y1:(j:Int)<(xn:Int):=by omega
        have y0:(0:Int)≤(j:Int):=by omega
        have hjo:j<o.length:=by rw[za HO];exact hjn
        have hul':(zaj (false,k,o)).length=o.length:=by rw[zbc];rfl
        obtain⟨bb,off,rfl,p0⟩:=(za BYT wr (za BW)).cell j hjo;rw[List.getD_eq_getElem?_getD,List.getElem?_eq_getElem hjo,Option.getD_some] at p0
        have TK:=zaa (show(zaj (false,k,o)).take (j+1)=(zaj (false,k,o)).take j++[(false,k+j,o[j])] by
         rw[List.take_succ_eq_append_getElem (by omega)]
         congr 2
         simp only[zaj,Bool.false_eq_true,if_false,List.getElem_map,List.getElem_range];rw[List.getD_eq_getElem?_getD,List.getElem?_eq_getElem hjo]
         rfl)
        have hwk:IntKind.i64.wrap ((k:Int)+(j:Int))=((k+j:Nat):Int):=by rw[IntKind.wrap_i64];omega
        generalize o[j]=yy at *;have hWr:w2.heap.size+1≤wr.heap.size:=by have:=(za HB).size;have:=(za B2).size;omega
        have A5:=zaa (show Below wr.heap.size wr (wr.alloc (.cells #[.bool false,.int .i64 ((k+j:Nat):Int),.int .u8 (yy:Int)] 150)) from(Below.refl _ _).alloc (Nat.le_refl _) _);have O5:=zaa (zck (za HW) (fun g hg=>(za A5).block g (zb9 (za HW) g hg).2.1));have S5:=zaa (zgq.one (false,k+j,yy) (zad wr (.cells #[.bool false,.int .i64 ((k+j:Nat):Int),.int .u8 (yy:Int)] 150)));have B6:=zaa ((za HB).trans ((za A5).mono hWr));have YB:=zaa (fun g (hg:blk op=some g)=>(zb9 (za HW) g hg).1);clear hul'
        go_wp2_with (at_builtin;refine zbn rfl (.tmp 90) (.tmp 99) rfl (w2.heap.size+1) 0 op (some ⟨wr.heap.size,0,none⟩) m 1 oc 1 (sp0.us++(zaj (false,k,o)).take j) [(false,k+j,yy)] rfl rfl (za HM) rfl (by exact za O5) (by exact za S5) (by omega) (by exact Nat.le_trans hWr (za A5).size) ?_;intro sp7 n7 c7 V7 hn7 hO7 hG7;refine za ?_)
        refine zaa ?_;rw[List.append_assoc,← za TK] at hn7 hO7;have O7:=zaa hO7;have B7:=zaa (show Below (w2.heap.size+1) V1 V7 from(za B6).grown hG7.grown (by have:=(za B6).size;have:=(za HB).size;omega) (fun g' hg'=>za YB g' hg'));have hn7b:n7≤m+1:=by
         have h1:=za hn7;have h2:=za HM;rw[za TK] at h1;simp only[List.length_append,List.length_cons,List.length_nil] at h1 h2;omega
        clear hO7 hG7
        go_wp2
        exact⟨⟨j+1,n7,sp7,c7,by omega,by omega,rfl,by go_num,za hn7,za O7,za B7⟩,by simp[intOf];omega⟩
       ·have y1:¬ (j:Int)<(xn:Int):=by omega
        have hul':(zaj (false,k,o)).take j=zaj (false,k,o):=List.take_of_length_le (by rw[zbc];show o.length≤j;rw[za HO];omega);rw[hul'] at HM HW;have hX6:=za HX1 wr (za HB);have w3:=zan hX6 3 _ rfl;have f3:=zio hX6 3;have hX7:(wr.setCell ⟨w2.heap.size,3,none⟩ (.slice op m oc)).heap[w2.heap.size]? = some (.cells #[.string s,.bool false,.slice none 0 0,.slice op m oc] 116 (0,0)):=by
         rw[heap_setCell_same wr w2.heap.size 3 _ 116 _ hX6];rfl
        have BV7:=zaa (show Below w2.heap.size w2 (wr.setCell ⟨w2.heap.size,3,none⟩ (.slice op m oc)) from(za BW).grown (zaf wr w2.heap.size 3 _) (za BW).size (fun g hg=>by have:=Option.some.inj hg;omega))
        have O7:=zaa (zck (w':=wr.setCell ⟨w2.heap.size,3,none⟩ (.slice op m oc)) (za HW) (fun g hg=>heap_setCell_other _ ⟨w2.heap.size,3,none⟩ g _ (fun e=>by
         have e2:g=w2.heap.size:=e;have:=(zb9 (za HW) g hg).1
         omega)))
        have x0:=zan hX7 0 _ rfl;have x1:=zan hX7 1 _ rfl;have x2:=zan hX7 2 _ rfl;have x3:=zan hX7 3 _ rfl;obtain⟨r1,r2,_⟩:=za RC _ (za BV7);clear hX6 hX7 hul'
        go_wp2_with fail
        generalize wr.setCell ⟨w2.heap.size,3,none⟩ (.slice op m oc)=V7 at *
        have UX:=zaa (show ∀ W,Below V7.heap.size V7 W→Calls Tryz.prog 112 #[.slice sp n c,.agg #[.string s,.bool false,.slice none 0 0,.slice op m oc]] W _ from fun W hb=>by
         have hbb:=(za BV7).trans (hb.mono (za BV7).size);have:=za Y2 W op oc hbb (zck (za O7) (fun g hg=>hb.block g (zb9 (za O7) g hg).2.1));rw[za HM] at this
         exact this)
        go_region_law (go_simp;go_at_call 112;refine(za UX V7.drew ((Below.refl _ _).drew)).mono ?_;rintro e W' ⟨sp',n',c',rfl,hE',b3⟩;have E3:=zaa hE';obtain⟨v1,z1,_⟩:=za RC W' b3;clear hE' b3)
        all_goals
         go_wp2
         go_ret
         exact za E3
  ·have hgi:¬ (n2:Int)<(A:Int):=by omega
   by_cases hC:16≤n∨262144<n2
   ·have E3:=zaa (za ES V2 (za BV2) 6 (by rw[za HD2,if_neg hA,if_pos (by omega)]));by_cases h16n:16≤n
    ·have h16i:(16:Int)≤(n:Int):=by omega
     go_wp2
     go_ret
     exact za E3
    ·exfalso;omega
   ·have hCd:¬ ((262144:Int)<(n2:Int)):=by omega
    have h15:¬ (16:Int)≤(n:Int):=by omega
    have hul2:=hul;generalize hu:usedS (rss rs)=u at hul2;have HU:=zaa hu;clear hu;have hs1':IntKind.i64.wrap ((u:Int) - (n2:Int))=(u:Int) - (n2:Int):=by rw[IntKind.wrap_i64];omega
    have hs2':IntKind.i64.wrap ((u:Int))=(u:Int):=by rw[IntKind.wrap_i64];omega
    have UC2:=zaa (za UC V2 (za BV2));rw[za HU] at UC2;by_cases hD:(u:Int) > (room:Int)
    ·have hD2:(room:Int)<(u:Int):=hD;have E9:=zaa (fun W (hb:Below w2.heap.size w2 W)=>za ES W hb 9 (by rw[za HD2,if_neg hA,if_neg (by omega),za HU,if_pos (by omega)]));clear hC hD
     go_wp2_with fail
     go_region_held3 (fun w'=>w'.cell? ⟨R,0,none⟩=some (.int .i64 (room:Int))) (first|go_keep|exact q0|exact r0) (first
      |(go_at_call 145
        refine(za UC2).mono ?_;rintro e W3 ⟨rfl,b3⟩;have B3:=zaa (show Below w2.heap.size w2 W3 from(za BV2).trans (Below.mono ⟨b3.os,b3.tape,b3.output,b3.size,b3.block⟩ (za BV2).size));obtain⟨_,_,r0⟩:=za RC W3 (za B3);have E3:=zaa (za E9 W3 (za B3))
        clear b3))
     all_goals
      go_wp2
      go_ret
      exact za E3
    ·have hD2:¬ (room:Int)<(u:Int):=hD;have hre:r=(0,zbi s.data.toList (wrote sp0 k o) (rss rs)):=by
      rw[za HD2,if_neg hA,if_neg (by omega),za HU,if_neg (by omega),Int.toNat_natCast]
     have Y2:=zaa (za YY k (by rw[za HN2];omega) (by rw[za HO];omega) (by omega));rw[← hre] at Y2;clear hC hD hre
     go_wp2_with fail
     go_region_held3 (fun w'=>w'.cell? ⟨R,0,none⟩=some (.int .i64 (room:Int))) (first|go_keep|exact q0|exact r0) (first
      |(go_at_call 145
        refine(za UC2).mono ?_;rintro e W3 ⟨rfl,b3⟩;have B3:=zaa (show Below V2.heap.size V2 W3 from⟨b3.os,b3.tape,b3.output,b3.size,b3.block⟩);obtain⟨_,_,r0⟩:=za RC W3 ((za BV2).trans ((za B3).mono (za BV2).size))
        clear b3))
     all_goals
      have hV2:w2.heap.size+1≤V2.heap.size:=by have:=(za B2).size;omega
      have BW3:=zaa ((za B2).trans ((za B3).mono hV2));have hW3:w2.heap.size+1≤W3.heap.size:=Nat.le_trans hV2 (za B3).size;have A3:=zaa (show Below W3.heap.size W3 (W3.alloc (.cells #[] 150)) from(Below.refl _ _).alloc (Nat.le_refl _) _);have O3:=zaa (zgq.empty W3 (w2.heap.size+1) hW3);have B4:=zaa ((za BW3).trans ((za A3).mono hW3));have BV4:=zaa ((za B1).trans ((za B4).mono (by omega)));have u3:(W3.alloc (.cells #[] 150)).cell? ⟨w2.heap.size,3,none⟩=some (.slice none 0 0):=zan (za HX1 _ (za B4)) 3 _ rfl;have S3:=zaa (za UD _ (za BV4))
      go_wp2_with (at_builtin;refine zbn rfl (.tmp 80) (.tmp 82) rfl (w2.heap.size+1) base (some ⟨W3.heap.size,0,none⟩) none 0 0 0 0 [] sp0.us rfl rfl rfl (rfl) (by exact za O3) (by exact za S3) (by omega) (by exact Nat.le_trans hW3 (za A3).size) ?_;intro sp4 n4 c4 V4 hn4 hO4 hG4;refine za ?_)
      refine zaa ?_;rw[List.nil_append] at hn4 hO4;have B5:=zaa (show Below (w2.heap.size+1) V1 V4 from(za B4).grown hG4.grown (by have:=(za B4).size;omega) (fun g' hg'=>by simp[blk] at hg';omega));have O4:=zaa hO4;have hn48:n4≤100000000:=by have:=za hn4;simp[sp0,Sp.us,usL] at this;omega
      clear hO4 hG4 u3 O3 S3
      go_wp2_with fail
      go_loopw [13,14] (fun v i wr=>∃ (j m:Nat) (op:Option Addr) (oc:Nat),j≤xn∧m≤n4+j∧v=.slice op m oc∧i=.int .i64 (j:Int)∧Hid ((sp0.us++(zaj (false,k,o)).take j).length=m)∧Hid (zgq (w2.heap.size+1) wr op oc (sp0.us++(zaj (false,k,o)).take j))∧Hid (Below (w2.heap.size+1) V1 wr)) (fun _ i _=>xn - (intOf i).toNat)
      case atStart=>exact⟨0,n4,sp4,c4,by omega,by omega,rfl,rfl,by rw[List.take_zero,List.append_nil];exact hn4,by rw[List.take_zero,List.append_nil];exact O4,B5⟩
      case round =>
       obtain⟨j,m,op,oc,hj,hm,rfl,rfl,HM,HW,HB⟩:=hrel;have BW:=zaa ((za B1).trans ((za HB).mono (by omega)));by_cases hjn:j<xn
       ·have y1:(j:Int)<(xn:Int):=by omega
        have y0:(0:Int)≤(j:Int):=by omega
        have hjo:j<o.length:=by rw[za HO];exact hjn
        have hul':(zaj (false,k,o)).length=o.length:=by rw[zbc];rfl
        obtain⟨bb,off,rfl,p0⟩:=(za BYT wr (za BW)).cell j hjo;rw[List.getD_eq_getElem?_getD,List.getElem?_eq_getElem hjo,Option.getD_some] at p0
        have TK:=zaa (show(zaj (false,k,o)).take (j+1)=(zaj (false,k,o)).take j++[(false,k+j,o[j])] by
         rw[List.take_succ_eq_append_getElem (by omega)]
         congr 2
         simp only[zaj,Bool.false_eq_true,if_false,List.getElem_map,List.getElem_range];rw[List.getD_eq_getElem?_getD,List.getElem?_eq_getElem hjo]
         rfl)
        have hwk:IntKind.i64.wrap ((k:Int)+(j:Int))=((k+j:Nat):Int):=by rw[IntKind.wrap_i64];omega
        generalize o[j]=yy at *;have hWr:w2.heap.size+1≤wr.heap.size:=by have:=(za HB).size;have:=(za B2).size;omega
        have A5:=zaa (show Below wr.heap.size wr (wr.alloc (.cells #[.bool false,.int .i64 ((k+j:Nat):Int),.int .u8 (yy:Int)] 150)) from(Below.refl _ _).alloc (Nat.le_refl _) _);have O5:=zaa (zck (za HW) (fun g hg=>(za A5).block g (zb9 (za HW) g hg).2.1));have S5:=zaa (zgq.one (false,k+j,yy) (zad wr (.cells #[.bool false,.int .i64 ((k+j:Nat):Int),.int .u8 (yy:Int)] 150)));have B6:=zaa ((za HB).trans ((za A5).mono hWr));have YB:=zaa (fun g (hg:blk op=some g)=>(zb9 (za HW) g hg).1);clear hul'
        go_wp2_with (at_builtin;refine zbn rfl (.tmp 90) (.tmp 99) rfl (w2.heap.size+1) 0 op (some ⟨wr.heap.size,0,none⟩) m 1 oc 1 (sp0.us++(zaj (false,k,o)).take j) [(false,k+j,yy)] rfl rfl (za HM) rfl (by exact za O5) (by exact za S5) (by omega) (by exact Nat.le_trans hWr (za A5).size) ?_;intro sp7 n7 c7 V7 hn7 hO7 hG7;refine za ?_)
        refine zaa ?_;rw[List.append_assoc,← za TK] at hn7 hO7;have O7:=zaa hO7;have B7:=zaa (show Below (w2.heap.size+1) V1 V7 from(za B6).grown hG7.grown (by have:=(za B6).size;have:=(za HB).size;omega) (fun g' hg'=>za YB g' hg'));have hn7b:n7≤m+1:=by
         have h1:=za hn7;have h2:=za HM;rw[za TK] at h1;simp only[List.length_append,List.length_cons,List.length_nil] at h1 h2;omega
        clear hO7 hG7
        go_wp2
        exact⟨⟨j+1,n7,sp7,c7,by omega,by omega,rfl,by go_num,za hn7,za O7,za B7⟩,by simp[intOf];omega⟩
       ·have y1:¬ (j:Int)<(xn:Int):=by omega
        have hul':(zaj (false,k,o)).take j=zaj (false,k,o):=List.take_of_length_le (by rw[zbc];show o.length≤j;rw[za HO];omega);rw[hul'] at HM HW;have hX6:=za HX1 wr (za HB);have w3:=zan hX6 3 _ rfl;have f3:=zio hX6 3;have hX7:(wr.setCell ⟨w2.heap.size,3,none⟩ (.slice op m oc)).heap[w2.heap.size]? = some (.cells #[.string s,.bool false,.slice none 0 0,.slice op m oc] 116 (0,0)):=by
         rw[heap_setCell_same wr w2.heap.size 3 _ 116 _ hX6];rfl
        have BV7:=zaa (show Below w2.heap.size w2 (wr.setCell ⟨w2.heap.size,3,none⟩ (.slice op m oc)) from(za BW).grown (zaf wr w2.heap.size 3 _) (za BW).size (fun g hg=>by have:=Option.some.inj hg;omega))
        have O7:=zaa (zck (w':=wr.setCell ⟨w2.heap.size,3,none⟩ (.slice op m oc)) (za HW) (fun g hg=>heap_setCell_other _ ⟨w2.heap.size,3,none⟩ g _ (fun e=>by
         have e2:g=w2.heap.size:=e;have:=(zb9 (za HW) g hg).1
         omega)))
        have x0:=zan hX7 0 _ rfl;have x1:=zan hX7 1 _ rfl;have x2:=zan hX7 2 _ rfl;have x3:=zan hX7 3 _ rfl;obtain⟨r1,r2,_⟩:=za RC _ (za BV7);clear hX6 hX7 hul'
        go_wp2_with fail
        generalize wr.setCell ⟨w2.heap.size,3,none⟩ (.slice op m oc)=V7 at *
        have UX:=zaa (show ∀ W,Below V7.heap.size V7 W→Calls Tryz.prog 112 #[.slice sp n c,.agg #[.string s,.bool false,.slice none 0 0,.slice op m oc]] W _ from fun W hb=>by
         have hbb:=(za BV7).trans (hb.mono (za BV7).size);have:=za Y2 W op oc hbb (zck (za O7) (fun g hg=>hb.block g (zb9 (za O7) g hg).2.1));rw[za HM] at this
         exact this)
        go_region_law (go_simp;go_at_call 112;refine(za UX V7.drew ((Below.refl _ _).drew)).mono ?_;rintro e W' ⟨sp',n',c',rfl,hE',b3⟩;have E3:=zaa hE';obtain⟨v1,z1,_⟩:=za RC W' b3;clear hE' b3)
        all_goals
         go_wp2
         go_ret
         exact za E3
end
end Go.Proofs.YtofllbpfajppeaaGreatDoor
