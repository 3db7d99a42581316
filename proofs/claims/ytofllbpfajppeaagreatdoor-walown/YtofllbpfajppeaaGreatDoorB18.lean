/- Logs: load. -/
import Derived.Test.YtofllbpfajppeaaGreatDoorB17
import Derived.Test.YtofllbpfajppeaaGreatDoorB10
import Derived.Test.YtofllbpfajppeaaGreatDoorB01
import Derived.Test.YtofllbpfajppeaaGreatDoorB06
set_option linter.unusedVariables false
set_option maxRecDepth 20000
set_option maxHeartbeats 16000000
namespace Go.Proofs.YtofllbpfajppeaaGreatDoor
section
open Go.ChangeShapes Go.WideShapes Go.ChangeAt Go.RowKit
theorem set5L {w:World} {g:Nat} {o a b c d e f x y z u v:Value} {T:TypeId} (h:w.heap[g]? = some (.cells #[o,a,b,c,d,e,f] T (0,0))):(((((w.setCell ⟨g,1,none⟩ x).setCell ⟨g,2,none⟩ y).setCell ⟨g,3,none⟩ z).setCell ⟨g,4,none⟩ u).setCell ⟨g,5,none⟩ v).heap[g]? = some (.cells #[o,x,y,z,u,v,f] T (0,0))∧w.grownBy (((((w.setCell ⟨g,1,none⟩ x).setCell ⟨g,2,none⟩ y).setCell ⟨g,3,none⟩ z).setCell ⟨g,4,none⟩ u).setCell ⟨g,5,none⟩ v) (some g):=by
 have h1:=heap_setCell_same w g 1 #[o,a,b,c,d,e,f] T x h;have h2:=heap_setCell_same _ g 2 _ T y h1;have h3:=heap_setCell_same _ g 3 _ T z h2;have h4:=heap_setCell_same _ g 4 _ T u h3;have h5:=heap_setCell_same _ g 5 _ T v h4;exact⟨h5,((((zaf w g 1 x).trans (zaf _ g 2 y)).trans (zaf _ g 3 z)).trans (zaf _ g 4 u)).trans (zaf _ g 5 v)⟩
section
variable {Av:Nat→Prop} {base:Nat} {w w':World} {L d M room N N':Nat} {ss ss':Ds} {c:Wc} {n:Nat} {ep:Option Addr} {ec:Nat} {hs:List (Option Addr×Nat)}
theorem zmz (z:WAt Av base w L d M room N ss c n ep ec hs) (hN:N+1≤1000000) :
  Calls Tryz.prog 60 #[.pointer (some ⟨L,0,none⟩)] w (ze0 Av base L d M room (N+1) w (zf5 n c ss)):=by
 have WL:=zaa (show zf5 n c ss=(if zex (walNm n) ss≠0 then (8,ss,c,n)
  else match zc4 (zdq (zdn (walNm n) ss)).1 with
  |none=>(4,ss,c,n)
  |some c2 =>
   if (zf (walNm n) ((zdq (zdn (walNm n) ss)).2:Int) ss).1≠0 then ((zf (walNm n) ((zdq (zdn (walNm n) ss)).2:Int) ss).1,(zf (walNm n) ((zdq (zdn (walNm n) ss)).2:Int) ss).2,c,n)
   else ((zax (walNm n) (zf (walNm n) ((zdq (zdn (walNm n) ss)).2:Int) ss).2).1,(zax (walNm n) (zf (walNm n) ((zdq (zdn (walNm n) ss)).2:Int) ss).2).2,c2,n)) from rfl)
 generalize zf5 n c ss=wl at *;have hnn:=z.nn;have Z:=zaa z;have FS:=zaa (show ∀ (r:Nat) W,Below w.heap.size w W→ze0 Av base L d M room (N+1) w (r,ss,c,n) (.returned (.int .i64 (r:Int))) W from fun r W u=>⟨rfl,⟨ep,ec,hs,(z.later u).monoN (by omega) hN⟩,(z.asdB u).sub (fun g hg=>.inl hg)⟩);obtain⟨c0,_,_⟩:=z.ptr;have d0:w.drew.cell? ⟨L,0,none⟩=some (.pointer (some ⟨d,0,none⟩)):=c0;have FC:=zaa (zay (z.later ((Below.refl _ _).drew)));have DC:=zaa (fun (W:World) (u:Below w.heap.size w W)=>zia (z.dk.later u) (str (walNm n)) (zg4 n z.nn));rw[zam] at DC;have RO:=zts (walNm n) ss;have ND:=zaa (show ∀ W:World,W.heap.size=W.heap.size from fun _=>rfl);generalize hNW:str (walNm n)=nm at *;generalize hR:zex (walNm n) ss=e1 at *;generalize zdn (walNm n) ss=lb at *;clear z;go_enter Tryz.func60,Tryz.ntmps60
 go_wp2_with fail
 refine wp_region_held_drew (S:=fun w'=>w'.cell? ⟨L,0,none⟩=some (.pointer (some ⟨d,0,none⟩))) (by kernel_rfl) ?_ (fun hHeld=>?_)
 ·try dsimp only
  first|exact d0|exact d1|exact d2
 refine hT 0 ?_;refine hT 1 ?_;refine hT 2 ?_;refine hT 3 ?_;refine hT 4 ?_;refine hO 5 (fun K hK=>?_);go_simp
 first
  |(go_at_call 23
    refine(za FC).mono ?_;rintro e V1 ⟨rfl,v1⟩;have d1:=cell_later v1 d0;have B1:=zaa (show Below w.heap.size w V1 from⟨v1.os,v1.tape,v1.output,v1.size,v1.block⟩)
    clear v1)
  |(go_at_call 44
    refine(za DC _ (za B1)).mono ?_;rintro e V2 ⟨sp,k,rfl,hk,hk2,o2,v2⟩;have d2:=cell_later v2 d1;have B2:=zaa ((za B1).trans (v2.mono (za B1).size));have HK:=zaa hk;have O2:=zaa o2
    clear v2 o2 hk)
 go_wp2_with fail
 refine hK.out _ _ ?_ (fun hHeld=>?_)
 ·try dsimp only
  first|exact d0|exact d1|exact d2
 clear hK K;refine hP ?_;refine hO 6 (fun K hK=>?_);go_simp
 first
  |(go_at_call 23
    refine(za FC).mono ?_;rintro e V1 ⟨rfl,v1⟩;have d1:=cell_later v1 d0;have B1:=zaa (show Below w.heap.size w V1 from⟨v1.os,v1.tape,v1.output,v1.size,v1.block⟩)
    clear v1)
  |(go_at_call 44
    refine(za DC _ (za B1)).mono ?_;rintro e V2 ⟨sp,k,rfl,hk,hk2,o2,v2⟩;have d2:=cell_later v2 d1;have B2:=zaa ((za B1).trans (v2.mono (za B1).size));have HK:=zaa hk;have O2:=zaa o2
    clear v2 o2 hk)
 go_wp2_with fail
 refine hK.out _ _ ?_ (fun hHeld=>?_)
 ·try dsimp only
  first|exact d0|exact d1|exact d2
 clear hK K;refine hP ?_;refine hT 7 ?_;refine hT 8 ?_;refine hT 9 ?_;refine hT 10 ?_;refine hT 11 ?_;refine wpAnyH_done (by kernel_rfl) ?_ _;clear FC DC d0 c0 d1 d2;rcases RO with h1|h1
 ·subst h1;rw[if_neg (by simp)] at WL;have hk:=za HK;subst hk;have AC:=zaa (zwh sp lb.length lb V2 (by omega) (Nat.le_refl _) (za O2).bytes)
  go_wp2_with fail
  go_at_call 94
  refine(za AC).mono ?_;rintro e V3 ⟨v3,rs,kk,rfl,b3,o3,st,ne,hkl⟩;have RA:=zaa (zog st ne hkl);rw[za RA] at WL;dsimp only at WL;obtain⟨sp3,c3,rfl⟩:=o3.form;have SL:=st.length_le;have B3:=zaa ((za B2).trans (b3.mono (za B2).size));have CC:=zaa (zki sp3 rs.length c3 rs V3 rfl (by omega) (fun r hr=>by have:=zou st r hr;omega) o3.rows);have HC:=zaa (fun c2 h=>zyw (rs:=rs) (c:=c2) h o3.lt);have S8:=zaa (show rs.length≤1000000 by omega);clear st ne b3 o3 AC SL
  go_wp2_with fail
  go_at_call 95
  refine(za CC).mono ?_;cases hcr:zc4 rs with
  |none =>
   rw[hcr] at WL;rintro e V4 ⟨b4,rfl⟩;have B4:=zaa ((za B3).trans (b4.mono (za B3).size));have B5:=zaa (show Below w.heap.size w (V4.alloc (.cells #[.int .i64 0,.int .i64 0,.int .i64 0,.int .i64 0,.slice none 0 0] 82)) from(za B4).alloc (za B4).size _);have FE:=zaa (za FS 4 _ (za B5));clear b4 hcr
   go_wp2
   go_ret
   rw[za WL];exact za FE
  |some c2 =>
   rw[hcr] at WL;have OK2:=zaa (za HC c2 hcr);try dsimp only at WL
   rintro e V4 ⟨b4,ep2,ec2,hs2,rfl,o4,hbi,hln⟩;have B4:=zaa ((za B3).trans (b4.mono (za B3).size));have U5:=zaa (show Below V4.heap.size V4 (V4.alloc (.cells #[.int .i64 (c2.bi:Int),.int .i64 (c2.bt:Int),.int .i64 (c2.ht:Int),.int .i64 (c2.hv:Int),.slice ep2 c2.es.length ec2] 82)) from(Below.refl _ _).alloc (Nat.le_refl _) _);have X5:=zaa (zad V4 (.cells #[.int .i64 (c2.bi:Int),.int .i64 (c2.bt:Int),.int .i64 (c2.ht:Int),.int .i64 (c2.hv:Int),.slice ep2 c2.es.length ec2] 82));have O4:=zaa o4;have S3:=zaa (show w.heap.size≤V3.heap.size from(za B3).size);have S4:=zaa (show w.heap.size≤V4.heap.size from(za B4).size);have LE2:=zaa (show c2.es.length≤1000000 by have:=za S8;omega);clear b4 o4 hcr hbi hln CC HC
   go_wp2_with fail
   generalize V4.alloc _=V5 at *;have B5:=zaa ((za B4).trans ((za U5).mono (za B4).size));have O5:=zaa (((za O4).later (za U5)).mono (base':=base) (Nat.le_trans (za Z).dk.le (za S3)))
   have FT:=zaa (show ∀ g,zc6 ep2 hs2 g→w.heap.size≤g∧g<V5.heap.size from fun g hg=>by
    obtain⟨h1,h2,_⟩:=((za O4).later (za U5)).foot g hg
    exact⟨Nat.le_trans (za S3) h1,h2⟩)
   have Z5:=zaa ((za Z).more (za B5));have A5:=zaa (((za Z).asdB (za B5)).sub (Bv:=Av) (fun g hg=>.inl hg));have VL:=zaa (show V4.heap.size<V5.heap.size from(Array.getElem?_eq_some_iff.1 (za X5)).1);have c0:=(za Z5).ptr.1;have d0:V5.drew.cell? ⟨L,0,none⟩=some (.pointer (some ⟨d,0,none⟩)):=c0;have FC:=zaa (zay ((za Z5).later ((Below.refl _ _).drew)));have DC:=zaa (fun (W:World) (u:Below V5.heap.size V5 W)=>zud ((za Z5).dk.later u) hN (str (walNm n)) (zg4 n hnn) (kk:Int));rw[zam] at DC;rw[hNW] at FC DC;generalize zf (walNm n) (kk:Int) ss=r6 at *;obtain⟨e6,s6⟩:=r6;try dsimp only at WL
   refine wp_region_held_drew (S:=fun w'=>w'.cell? ⟨L,0,none⟩=some (.pointer (some ⟨d,0,none⟩))) (by kernel_rfl) ?_ (fun hHeld=>?_)
   ·try dsimp only
    first|exact d0|exact d1|exact d2
   refine hT 0 ?_;refine hT 1 ?_;refine hT 2 ?_;refine hT 3 ?_;refine hT 4 ?_;refine hT 6 ?_;refine hO 5 (fun K hK=>?_);go_simp
   first
    |(go_at_call 23
      refine(za FC).mono ?_;rintro e V6 ⟨rfl,v6⟩;have d1:=cell_later v6 d0;have B6:=zaa (show Below V5.heap.size V5 V6 from⟨v6.os,v6.tape,v6.output,v6.size,v6.block⟩)
      clear v6)
    |(go_at_call 96
      refine(za DC _ (za B6)).mono ?_;rintro e V7 ⟨rfl,dk7,as7⟩;have Z7:=zaa (((za Z5).later (za B6)).disk dk7 as7);have A7:=zaa (((za Z5).asdB (za B6)).trans (((za Z5).later (za B6)).asd as7));have d2:=(za Z7).ptr.1
      clear dk7 as7)
   go_wp2_with fail
   refine hK.out _ _ ?_ (fun hHeld=>?_)
   ·try dsimp only
    first|exact d0|exact d1|exact d2
   clear hK K;refine hP ?_;refine hO 7 (fun K hK=>?_);go_simp
   first
    |(go_at_call 23
      refine(za FC).mono ?_;rintro e V6 ⟨rfl,v6⟩;have d1:=cell_later v6 d0;have B6:=zaa (show Below V5.heap.size V5 V6 from⟨v6.os,v6.tape,v6.output,v6.size,v6.block⟩)
      clear v6)
    |(go_at_call 96
      refine(za DC _ (za B6)).mono ?_;rintro e V7 ⟨rfl,dk7,as7⟩;have Z7:=zaa (((za Z5).later (za B6)).disk dk7 as7);have A7:=zaa (((za Z5).asdB (za B6)).trans (((za Z5).later (za B6)).asd as7));have d2:=(za Z7).ptr.1
      clear dk7 as7)
   go_wp2_with fail
   refine hK.out _ _ ?_ (fun hHeld=>?_)
   ·try dsimp only
    first|exact d0|exact d1|exact d2
   clear hK K;refine hP ?_;refine hT 8 ?_;refine wpAnyH_done (by kernel_rfl) ?_ _;clear FC DC d0 c0 d1 d2;have A8:=zaa ((za A5).trans ((za A7).sub (Bv:=Av) (fun g hg=>.inl (.inl hg))));have X7:=zaa (((za A7).av V4.heap.size (.inl (.inr ⟨za S4,za VL⟩))).trans (za X5));have O7:=zaa ((za O5).same (w':=V7) (fun g hg=>(za A7).av g (.inl (.inr (za FT g hg)))));try dsimp only at WL
   by_cases h6:e6=0
   ·subst h6;rw[if_neg (by simp)] at WL;rw[show((0:Nat):Int)=0 from rfl];have R7:=zaa (za Z7).lg.row;obtain⟨l1,l2⟩:=set5L (x:=.int .i64 (c2.bi:Int)) (y:=.int .i64 (c2.bt:Int)) (z:=.int .i64 (c2.ht:Int)) (u:=.int .i64 (c2.hv:Int)) (v:=.slice ep2 c2.es.length ec2) (za R7);obtain⟨p1,p2⟩:=(za Z7).put (c2:=c2) (n':=n) (hs2:=hs2) ⟨l1⟩ l2 (za O7) (fun g hg=>.inl (.inr (za FT g hg))) (za OK2) hnn (za LE2);have Z8:=zaa (p1.sub (Bv:=Av) (fun g hg=>⟨.inl hg,fun hf=>by have h1:=(za FT g hf).1;have h2:=(za Z).dk.lt (.inl hg);omega⟩));have A9:=zaa ((za A8).trans (p2.sub (Bv:=Av) (fun g hg=>.inl hg)));have SC:=zaa (zii (za Z8));generalize zax (walNm n) s6=r9 at *;obtain⟨e9,s9⟩:=r9;try dsimp only at WL
    have x0:V7.cell? ⟨V4.heap.size,0,none⟩=some (.int .i64 (c2.bi:Int)):=zab (za X7) 0 _ rfl;have x1:V7.cell? ⟨V4.heap.size,1,none⟩=some (.int .i64 (c2.bt:Int)):=zab (za X7) 1 _ rfl;have x2:V7.cell? ⟨V4.heap.size,2,none⟩=some (.int .i64 (c2.ht:Int)):=zab (za X7) 2 _ rfl;have x3:V7.cell? ⟨V4.heap.size,3,none⟩=some (.int .i64 (c2.hv:Int)):=zab (za X7) 3 _ rfl;have x4:V7.cell? ⟨V4.heap.size,4,none⟩=some (.slice ep2 c2.es.length ec2):=zab (za X7) 4 _ rfl;have m1:V7.cell? ⟨L,1,none⟩=some (.int .i64 (c.bi:Int)):=zab (za R7) 1 _ rfl;have m2:V7.cell? ⟨L,2,none⟩=some (.int .i64 (c.bt:Int)):=zab (za R7) 2 _ rfl;have m3:V7.cell? ⟨L,3,none⟩=some (.int .i64 (c.ht:Int)):=zab (za R7) 3 _ rfl;have m4:V7.cell? ⟨L,4,none⟩=some (.int .i64 (c.hv:Int)):=zab (za R7) 4 _ rfl;have m5:V7.cell? ⟨L,5,none⟩=some (.slice ep c.es.length ec):=zab (za R7) 5 _ rfl;have f1:=zbj (za R7) 1;have f2:=zbj (za R7) 2;have f3:=zbj (za R7) 3;have f4:=zbj (za R7) 4;have f5:=zbj (za R7) 5;clear p1 p2 l1 l2
    go_wp2_with fail
    clear x0 x1 x2 x3 x4 m1 m2 m3 m4 m5 f1 f2 f3 f4 f5;generalize ((((V7.setCell _ _).setCell _ _).setCell _ _).setCell _ _).setCell _ _=V8 at *;go_at_call 18
    refine(za SC).mono ?_;rintro e V9 ⟨rfl,z9,a9⟩
    have FE:=zaa (show ze0 Av base L d M room (N+1) w wl (.returned (.int .i64 (e9:Int))) V9 by
     rw[za WL]
     exact⟨rfl,⟨ep2,ec2,hs2,z9⟩,(za A9).trans (a9.sub (fun g hg=>.inl hg))⟩)
    clear z9 a9
    go_wp2
    go_ret
    exact za FE
   ·rw[if_pos h6] at WL;have h6':((e6:Int)==0)=false:=by simp;omega
    have h6'':¬ (e6:Int)=0:=by omega
    have FE:=zaa (show ze0 Av base L d M room (N+1) w wl (.returned (.int .i64 (e6:Int))) V7 by
     rw[za WL]
     exact⟨rfl,⟨ep,ec,hs,(za Z7).sub (fun g hg=>.inl hg)⟩,za A8⟩)
    go_wp2
    go_ret
    exact za FE
 ·subst h1;rw[if_pos (by simp)] at WL;have FE:=zaa (za FS 8 V2 (za B2))
  go_wp2
  go_ret
  rw[za WL];exact za FE
end
def zfr (r:Nat×Ds×Wc×Nat):Nat×Ds×Option (Wc×Nat):=if r.1≠0 then (r.1,r.2.1,none) else (0,r.2.1,some (r.2.2.1,r.2.2.2))
def zfc (room:Nat) (ss:Ds):Nat×Ds×Option (Wc×Nat) :=
 if zd8 (ss.map (·.1)) 0≠0 then zfr (zf5 (zd8 (ss.map (·.1)) 0) wc0 (zjy (zd8 (ss.map (·.1)) 0) (ss.map (·.1)) ss))
 else if (zbm room 0 (za7 wc0) (zjy 0 (ss.map (·.1)) ss)).1≠0 then ((zbm room 0 (za7 wc0) (zjy 0 (ss.map (·.1)) ss)).1,(zbm room 0 (za7 wc0) (zjy 0 (ss.map (·.1)) ss)).2,none)
 else zfr (zf5 1 wc0 (zbm room 0 (za7 wc0) (zjy 0 (ss.map (·.1)) ss)).2)
theorem zj2:WOk wc0:=⟨by simp[wc0],by simp[wc0],by simp[wc0],by simp[wc0],by simp[wc0]⟩
def zyp (Av:Nat→Prop) (base d M room N:Nat) (w:World) (r:Nat×Ds×Option (Wc×Nat)) (e:Ending) (w':World):Prop :=
 Asd Av base w w'∧match r.2.2 with
 |none=>e=.returned (.tuple #[.pointer none,.int .i64 (r.1:Int)])∧DAt Av base w' d M room N r.2.1
 |some (c,n)=>∃ L ep ec hs,e=.returned (.tuple #[.pointer (some ⟨L,0,none⟩),.int .i64 0])∧WAt Av base w' L d M room N r.2.1 c n ep ec hs∧w.heap.size≤L
section
variable {Av:Nat→Prop} {base:Nat} {w w':World} {L d M room N N':Nat} {ss ss':Ds} {c:Wc} {n:Nat} {ep:Option Addr} {ec:Nat} {hs:List (Option Addr×Nat)}
theorem DAt.log (h:DAt Av base w d M room N ss) (ht:∃ w0:World,w0.heap.size=base∧Tz w0∧Below base w0 w) (n:Nat) (hn:n≤1099511627776) :
  WAt Av base (w.alloc (.cells #[.pointer (some ⟨d,0,none⟩),.int .i64 0,.int .i64 0,.int .i64 0,.int .i64 0,.slice none 0 0,.int .i64 (n:Int)] 84)) w.heap.size d M room N ss wc0 n none 0 []:=by
 have u:Below w.heap.size w (w.alloc (.cells #[.pointer (some ⟨d,0,none⟩),.int .i64 0,.int .i64 0,.int .i64 0,.int .i64 0,.slice none 0 0,.int .i64 (n:Int)] 84)):=(Below.refl _ _).alloc (Nat.le_refl _) _;have hs:(w.alloc (.cells #[.pointer (some ⟨d,0,none⟩),.int .i64 0,.int .i64 0,.int .i64 0,.int .i64 0,.slice none 0 0,.int .i64 (n:Int)] 84)).heap.size=w.heap.size+1:=by simp
 have nf:∀ g,¬ zc6 none [] g:=fun g hg=>by
  rcases hg with hg|⟨x,hx,_⟩
  ·cases hg
  ·simp at hx
 refine⟨(h.more u).av (fun g hg=>?_),⟨zad w _⟩,OwnL.ofNil _ _,h.le,fun g hg=>⟨fun e=>?_,nf g⟩,zj2,hn,by simp[wc0],?_⟩
 ·rcases hg with hg|rfl|hg
  ·exact .inl hg
  ·exact .inr ⟨Nat.le_refl _,by rw[hs];omega⟩
  ·exact absurd hg (nf g)
 ·have:=h.lt hg;omega
 ·obtain⟨w0,h1,h2,h3⟩:=ht;exact⟨w0,h1,h2,h3.trans (u.mono h.le)⟩
theorem zey (h:DAt Av base w d M room N ss) (ht:∃ w0:World,w0.heap.size=base∧Tz w0∧Below base w0 w) (hN:N+2≤1000000) :
  Calls Tryz.prog 21 #[.pointer (some ⟨d,0,none⟩)] w (zyp Av base d M room (N+2) w (zfc room ss)):=by
 have WO:=zaa (show zfc room ss=(if zd8 (ss.map (·.1)) 0≠0 then zfr (zf5 (zd8 (ss.map (·.1)) 0) wc0 (zjy (zd8 (ss.map (·.1)) 0) (ss.map (·.1)) ss))
  else if (zbm room 0 (za7 wc0) (zjy 0 (ss.map (·.1)) ss)).1≠0 then ((zbm room 0 (za7 wc0) (zjy 0 (ss.map (·.1)) ss)).1,(zbm room 0 (za7 wc0) (zjy 0 (ss.map (·.1)) ss)).2,none)
  else zfr (zf5 1 wc0 (zbm room 0 (za7 wc0) (zjy 0 (ss.map (·.1)) ss)).2)) from rfl)
 generalize zfc room ss=wo at *;have NC:=zaa (zep h);have H:=zaa h;have HT:=zaa ht;have LN:=zaa h.len;have NM:=zaa h.nmlen;clear h ht;go_enter Tryz.func21,Tryz.ntmps21
 go_wp2_with fail
 go_at_call 41
 refine(za NC).mono ?_;rintro e V1 ⟨sp1,n1,k1,rfl,hn1,o1,v1⟩
 have TW:=zaa (show Tz V1 from by
  obtain⟨w0,q1,q2,q3⟩:=za HT
  exact q2.later (by rw[q1];exact q3.trans (v1.mono (za H).le)))
 have GC:=zaa (zl1 o1 (show(ss.map (·.1)).length=n1 by rw[List.length_map];exact hn1) (by have:=za LN;omega) (fun s hs=>by
  obtain⟨x,hx,rfl⟩:=List.mem_map.1 hs
  exact za NM x hx) (za TW))
 have B1:=zaa v1;clear o1 v1 hn1 NC;have GL:=zaa (zw2 (ss.map (·.1)) 0 (by omega));generalize hgw:zd8 (ss.map (·.1)) 0=gw at *
 go_wp2_with fail
 go_at_call 57
 refine(za GC).mono ?_;rintro e V2 ⟨rfl,v2⟩;have B2:=zaa ((za B1).trans (v2.mono (za B1).size));have Z3:=zaa (((za H).later (za B2)).log (let ⟨w0,q1,q2,q3⟩:=za HT;⟨w0,q1,q2,q3.trans ((za B2).mono (za H).le)⟩) gw (za GL));have A3:=zaa ((show Asd Av base w V2 from Asd.of (fun g hg=>(za H).lt hg) (za H).le (za B2)).trans (Asd.of (fun g hg=>Nat.lt_of_lt_of_le ((za H).lt hg) (za B2).size) (Nat.le_trans (za H).le (za B2).size) ((Below.refl V2.heap.size V2).alloc (Nat.le_refl _) (.cells #[.pointer (some ⟨d,0,none⟩),.int .i64 0,.int .i64 0,.int .i64 0,.int .i64 0,.slice none 0 0,.int .i64 (gw:Int)] 84))));have SL:=zaa (show w.heap.size≤V2.heap.size from(za B2).size);clear v2 GC
 go_wp2_with fail
 generalize V2.alloc _=V3 at *;generalize V2.heap.size=L at *;have RC:=zaa (ziy (za Z3))
 go_wp2_with fail
 go_at_call 58
 refine(za RC).mono ?_;rintro e V4 ⟨rfl,z4,a4⟩;have Z4:=zaa z4;have A4:=zaa ((za A3).trans a4);clear z4 a4 RC;obtain⟨_,c6,_⟩:=(za Z4).ptr
 have TE:=zaa (show ∀ (r:Nat×Ds×Wc×Nat) W,(∃ ep ec hs,WAt Av base W L d M room (N+2) r.2.1 r.2.2.1 r.2.2.2 ep ec hs)→Asd Av base w W→(r.1=0→zyp Av base d M room (N+2) w (zfr r) (.returned (.tuple #[.pointer (some ⟨L,0,none⟩),.int .i64 0])) W)∧(r.1≠0→zyp Av base d M room (N+2) w (zfr r) (.returned (.tuple #[.pointer none,.int .i64 (r.1:Int)])) W) from fun r W hz ha=>by
  obtain⟨ep,ec,hs,z⟩:=hz;unfold zfr;refine⟨fun h0=>?_,fun h0=>?_⟩
  ·rw[if_neg (by simp[h0])];exact⟨ha,L,ep,ec,hs,rfl,z,za SL⟩
  ·rw[if_pos h0]
   exact⟨ha,rfl,z.dk.av (fun g hg=>.inl hg)⟩)
 by_cases h0:gw=0
 ·subst h0;rw[if_neg (by simp)] at WO
  have AC:=zaa (zgl (c2:=wc0) (ep2:=none) (ec2:=0) (hs2:=[]) (za Z4) (by omega) (OwnL.ofNil _ _) (fun g hg=>by
   rcases hg with hg|⟨x,hx,_⟩
   ·cases hg
   ·simp at hx) zj2 (by simp[wc0]))
  rw[show(#[.pointer (some ⟨L,0,none⟩),.agg #[.int .i64 (wc0.bi:Int),.int .i64 (wc0.bt:Int),.int .i64 (wc0.ht:Int),.int .i64 (wc0.hv:Int),.slice none wc0.es.length 0]]:Array Value)=#[.pointer (some ⟨L,0,none⟩),.agg #[.int .i64 0,.int .i64 0,.int .i64 0,.int .i64 0,.slice none 0 0]] from rfl] at AC;rw[show((0:Nat):Int)=0 from rfl] at c6;generalize zbm room 0 (za7 wc0) (zjy 0 (ss.map (·.1)) ss)=r3 at *;obtain⟨e3,s3⟩:=r3;try dsimp only at WO
  try rw[show((0:Nat):Int)=0 from rfl]
  go_wp2_with fail
  clear c6;go_at_call 59
  refine(za AC).mono ?_;rintro e V6 ⟨rfl,a6,y6,n6⟩;have A6:=zaa ((za A4).trans a6);clear a6 AC;try dsimp only at y6 n6 ⊢
  by_cases h3:e3=0
  ·subst h3;rw[if_neg (by simp)] at WO
   have Z6:=zaa ((y6 rfl).2.sub (Bv:=Av) (fun g hg=>⟨hg,fun hf=>by
    rcases hf with hf|⟨x,hx,_⟩
    ·cases hf
    ·simp at hx⟩))
   clear y6 n6;rw[show((0:Nat):Int)=0 from rfl];have LC:=zaa (zmz (za Z6) hN);rw[Nat.zero_add] at LC;generalize zf5 1 wc0 s3=r5 at *;obtain⟨e5,s5,c5,n5⟩:=r5
   go_wp2_with fail
   go_at_call 60
   refine(za LC).mono ?_;rintro e V5 ⟨rfl,z5,a5⟩;have T5:=zaa (za TE (e5,s5,c5,n5) V5 z5 ((za A6).trans a5));clear z5 a5 LC;dsimp only;by_cases h5:e5=0
   ·subst h5;have FE:=zaa ((za T5).1 rfl);rw[show((0:Nat):Int)=0 from rfl]
    go_wp2
    go_ret2
    rw[za WO];exact za FE
   ·have FE:=zaa ((za T5).2 h5);have h5':((e5:Int)==0)=false:=by simp;omega
    have h5'':¬ (e5:Int)=0:=by omega
    go_wp2
    go_ret2
    rw[za WO];exact za FE
  ·rw[if_pos h3] at WO;have h3':((e3:Int)==0)=false:=by simp;omega
   have h3'':¬ (e3:Int)=0:=by omega
   have FE:=zaa (show zyp Av base d M room (N+2) w wo (.returned (.tuple #[.pointer none,.int .i64 (e3:Int)])) V6 by
    rw[za WO]
    exact⟨za A6,rfl,((n6 h3).dk.mono (by omega) hN).av (fun g hg=>.inl hg)⟩)
   clear y6 n6
   go_wp2
   go_ret2
   exact za FE
 ·rw[if_pos h0] at WO;have h0':((gw:Int)==0)=false:=by simp;omega
  have h0'':¬ (gw:Int)=0:=by omega
  have LC:=zaa (zmz ((za Z4).monoN (N':=N+1) (by omega) (by omega)) hN);generalize zf5 gw wc0 (zjy gw (ss.map (·.1)) ss)=r5 at *;obtain⟨e5,s5,c5,n5⟩:=r5
  go_wp2_with fail
  go_at_call 60
  refine(za LC).mono ?_;rintro e V5 ⟨rfl,z5,a5⟩;have T5:=zaa (za TE (e5,s5,c5,n5) V5 z5 ((za A4).trans a5));clear z5 a5 LC;dsimp only;by_cases h5:e5=0
  ·subst h5;have FE:=zaa ((za T5).1 rfl);rw[show((0:Nat):Int)=0 from rfl]
   go_wp2
   go_ret2
   rw[za WO];exact za FE
  ·have FE:=zaa ((za T5).2 h5);have h5':((e5:Int)==0)=false:=by simp;omega
   have h5'':¬ (e5:Int)=0:=by omega
   go_wp2
   go_ret2
   rw[za WO];exact za FE
end
def zrm (room n:Nat) (c c2:Wc) (ss:Ds):Nat×Ds×Wc×Nat :=
 if (zbm room n (za7 c2) ss).1≠0 then ((zbm room n (za7 c2) ss).1,(zbm room n (za7 c2) ss).2,c,n) else (0,(zbm room n (za7 c2) ss).2,c2,n+1)
theorem zem (i:Int) (w:World):Calls Tryz.prog 77 #[.int .i64 i] w fun e w'=>e=.returned (.bool (decide (0≤i∧i≤1099511627776)))∧w'=w:=by
 by_cases h1:0≤i
 ·by_cases h2:i≤1099511627776
  ·rw[decide_eq_true ⟨h1,h2⟩];go_enter Tryz.func77,Tryz.ntmps77
   go_wp2
   go_ret
   exact⟨rfl,rfl⟩
  ·rw[decide_eq_false (fun h=>h2 h.2)];go_enter Tryz.func77,Tryz.ntmps77
   go_wp2
   go_ret
   exact⟨rfl,rfl⟩
 ·rw[decide_eq_false (fun h=>h1 h.1)];go_enter Tryz.func77,Tryz.ntmps77
  go_wp2
  go_ret
  exact⟨rfl,rfl⟩
section
variable {Av:Nat→Prop} {base:Nat} {w w':World} {L d M room N N':Nat} {ss ss':Ds} {c:Wc} {n:Nat} {ep:Option Addr} {ec:Nat} {hs:List (Option Addr×Nat)}
theorem znq.lg {c2:Wc} {ep2:Option Addr} {ec2:Nat} {hs2:List (Option Addr×Nat)} {Bv:Nat→Prop} {w0:World} {e:Ending} (ha:Asd Bv base w0 w) (hs1:∀ g,Bv g→Av g∧¬ zc6 ep2 hs2 g) (h:znq Av base L d M room N w c n ep ec hs c2 ep2 ec2 hs2 (zbm room n (za7 c2) ss) e w'):ze0 Bv base L d M room N w0 (zrm room n c c2 ss) e w':=by
 obtain⟨rfl,a,y,x⟩:=h;unfold zrm;have A:=ha.trans (a.sub (fun g hg=>(hs1 g hg).1));by_cases h0:(zbm room n (za7 c2) ss).1=0
 ·rw[if_neg (by simp[h0])];exact⟨by rw[h0],⟨ep2,ec2,hs2,(y h0).2.sub hs1⟩,A⟩
 ·rw[if_pos h0];exact⟨rfl,⟨ep,ec,hs,(x h0).sub (fun g hg=>(hs1 g hg).1)⟩,A⟩
theorem zzt (z:WAt Av base w L d M room N ss c n ep ec hs) (i t:Int) (h:¬ ((0≤i∧i≤1099511627776)∧0≤t∧t≤1099511627776)) :
  Calls Tryz.prog 36 #[.pointer (some ⟨L,0,none⟩),.agg #[.int .i64 i,.int .i64 t]] w (ze0 Av base L d M room N w (2,ss,c,n)):=by
 have U1:=zaa (show Below w.heap.size w (w.alloc (.cells #[.int .i64 i,.int .i64 t] 31)) from(Below.refl _ _).alloc (Nat.le_refl _) _);have X1:=zad w (.cells #[.int .i64 i,.int .i64 t] 31);have x0:(w.alloc (.cells #[.int .i64 i,.int .i64 t] 31)).cell? ⟨w.heap.size,0,none⟩=some (.int .i64 i):=zab X1 0 _ rfl;have x1:(w.alloc (.cells #[.int .i64 i,.int .i64 t] 31)).cell? ⟨w.heap.size,1,none⟩=some (.int .i64 t):=zab X1 1 _ rfl;have FE:=zaa (show ze0 Av base L d M room N w (2,ss,c,n) (.returned (.int .i64 2)) (w.alloc (.cells #[.int .i64 i,.int .i64 t] 31)) from⟨rfl,⟨ep,ec,hs,z.later (za U1)⟩,(z.asdB (za U1)).sub (fun g hg=>.inl hg)⟩);have NI:=zaa (zem i);have NT:=zaa (zem t);have DI:(decide (0≤i∧i≤1099511627776)=false)∨(decide (0≤i∧i≤1099511627776)=true∧decide (0≤t∧t≤1099511627776)=false):=by
  by_cases h1:0≤i∧i≤1099511627776
  ·exact .inr ⟨decide_eq_true h1,decide_eq_false (fun h2=>h ⟨h1,h2⟩)⟩
  ·exact .inl (decide_eq_false h1)
 generalize decide (0≤i∧i≤1099511627776)=di at *;generalize decide (0≤t∧t≤1099511627776)=dt at *;clear z X1 h;rcases DI with rfl|⟨rfl,rfl⟩
 ·go_enter Tryz.func36,Tryz.ntmps36
  go_wp2_with fail
  go_at_call 77
  refine(za NI _).mono ?_;rintro e V1 ⟨rfl,hV⟩;subst hV
  go_wp2
  go_ret
  exact za FE
 ·go_enter Tryz.func36,Tryz.ntmps36
  go_wp2_with fail
  go_at_call 77
  refine(za NI _).mono ?_;rintro e V1 ⟨rfl,hV⟩;subst hV
  go_wp2_with fail
  go_at_call 77
  refine(za NT _).mono ?_;rintro e V2 ⟨rfl,hV⟩;subst hV
  go_wp2
  go_ret
  exact za FE
theorem zxr (z:WAt Av base w L d M room N ss c n ep ec hs) (hN:N+1≤1000000) (i t:Nat) (hi:i≤1099511627776) (ht:t≤1099511627776) :
  Calls Tryz.prog 36 #[.pointer (some ⟨L,0,none⟩),.agg #[.int .i64 (i:Int),.int .i64 (t:Int)]] w (ze0 Av base L d M room (N+1) w (zrm room n c ⟨i,t,c.ht,c.hv,[]⟩ ss)):=by
 have U1:=zaa (show Below w.heap.size w (w.alloc (.cells #[.int .i64 (i:Int),.int .i64 (t:Int)] 31)) from(Below.refl _ _).alloc (Nat.le_refl _) _);have X1:=zaa (zad w (.cells #[.int .i64 (i:Int),.int .i64 (t:Int)] 31));have x0:(w.alloc (.cells #[.int .i64 (i:Int),.int .i64 (t:Int)] 31)).cell? ⟨w.heap.size,0,none⟩=some (.int .i64 (i:Int)):=zab (za X1) 0 _ rfl;have x1:(w.alloc (.cells #[.int .i64 (i:Int),.int .i64 (t:Int)] 31)).cell? ⟨w.heap.size,1,none⟩=some (.int .i64 (t:Int)):=zab (za X1) 1 _ rfl;have NI:=zaa (zem (i:Int));have NT:=zaa (zem (t:Int));rw[decide_eq_true ⟨by omega,by omega⟩] at NI NT;have Z1:=zaa (z.more (za U1));have A1:=zaa ((z.asdB (za U1)).sub (Bv:=Av) (fun g hg=>.inl hg));have nf:∀ g,¬ zc6 none [] g:=fun g hg=>by
  rcases hg with hg|⟨x,hx,_⟩
  ·cases hg
  ·simp at hx
 have AC:=zaa (zgl (c2:=⟨i,t,c.ht,c.hv,[]⟩) (ep2:=none) (ec2:=0) (hs2:=[]) ((za Z1).later ((Below.refl _ _).drew)) hN (OwnL.ofNil _ _) (fun g hg=>absurd hg (nf g)) ⟨hi,ht,z.ok.ht,z.ok.hv,fun e he=>by simp at he⟩ (by simp));have A2:=zaa ((za A1).trans (((za Z1).asdB ((Below.refl _ _).drew)).sub (Bv:=Av) (fun g hg=>.inl (.inl hg))));have FL:=zaa (show ∀ e W,znq (fun g=>Av g∨(w.heap.size≤g∧g<(w.alloc (.cells #[.int .i64 (i:Int),.int .i64 (t:Int)] 31)).heap.size)) base L d M room (N+1) (w.alloc (.cells #[.int .i64 (i:Int),.int .i64 (t:Int)] 31)).drew c n ep ec hs ⟨i,t,c.ht,c.hv,[]⟩ none 0 [] (zbm room n (za7 ⟨i,t,c.ht,c.hv,[]⟩) ss) e W→ze0 Av base L d M room (N+1) w (zrm room n c ⟨i,t,c.ht,c.hv,[]⟩ ss) e W from fun e W h=>znq.lg (za A2) (fun g hg=>⟨.inl hg,nf g⟩) h);have SZ:=zaa (show w.heap.size<(w.alloc (.cells #[.int .i64 (i:Int),.int .i64 (t:Int)] 31)).heap.size from(Array.getElem?_eq_some_iff.1 (za X1)).1);dsimp only at AC;rw[show(([]:List EntN).length)=0 from rfl] at AC;have l3:(w.alloc (.cells #[.int .i64 (i:Int),.int .i64 (t:Int)] 31)).cell? ⟨L,3,none⟩=some (.int .i64 (c.ht:Int)):=zab (za Z1).lg.row 3 _ rfl;have l4:(w.alloc (.cells #[.int .i64 (i:Int),.int .i64 (t:Int)] 31)).cell? ⟨L,4,none⟩=some (.int .i64 (c.hv:Int)):=zab (za Z1).lg.row 4 _ rfl;have NF:=zaa nf;clear z X1 nf;go_enter Tryz.func36,Tryz.ntmps36
 go_wp2_with fail
 go_at_call 77
 refine(za NI _).mono ?_;rintro e V1 ⟨rfl,hV⟩;subst hV
 go_wp2_with fail
 go_at_call 77
 refine(za NT _).mono ?_;rintro e V2 ⟨rfl,hV⟩;subst hV
 go_wp2_with fail
 generalize w.alloc _=W1 at *;have d0:W1.drew.cell? ⟨w.heap.size,0,none⟩=some (.int .i64 (i:Int)):=x0;have d1:W1.drew.cell? ⟨w.heap.size,1,none⟩=some (.int .i64 (t:Int)):=x1;have d3:W1.drew.cell? ⟨L,3,none⟩=some (.int .i64 (c.ht:Int)):=l3;have d4:W1.drew.cell? ⟨L,4,none⟩=some (.int .i64 (c.hv:Int)):=l4;clear x0 x1 l3 l4;generalize zrm room n c ⟨i,t,c.ht,c.hv,[]⟩ ss=wn at *;generalize zbm room n (za7 ⟨i,t,c.ht,c.hv,[]⟩) ss=r6 at *;refine wp_region_held_drew (S:=fun w'=>w'.cell? ⟨w.heap.size,0,none⟩=some (.int .i64 (i:Int))∧w'.cell? ⟨w.heap.size,1,none⟩=some (.int .i64 (t:Int))∧w'.cell? ⟨L,3,none⟩=some (.int .i64 (c.ht:Int))∧w'.cell? ⟨L,4,none⟩=some (.int .i64 (c.hv:Int))) (by kernel_rfl) ?_ (fun hHeld=>?_)
 ·try dsimp only
  first|exact⟨d0,d1,d3,d4⟩|exact⟨g0,g1,g3,g4⟩
 refine hT 0 ?_;refine hT 1 ?_;refine hT 2 ?_;refine hT 3 ?_;refine hT 4 ?_;refine hT 5 ?_;refine hT 6 ?_;refine hT 7 ?_;refine hO 8 (fun K hK=>?_);go_simp
 first
  |(go_at_call 59
    refine(za AC).mono ?_;rintro e V6 hA;have FE:=zaa (za FL _ _ hA);obtain⟨rfl,a6,y6,n6⟩:=hA;have hk6:=a6.av w.heap.size (.inr ⟨Nat.le_refl _,za SZ⟩);have g0:=(World.cell?_of_block (a:=⟨w.heap.size,0,none⟩) hk6).trans d0;have g1:=(World.cell?_of_block (a:=⟨w.heap.size,1,none⟩) hk6).trans d1;have g34:V6.cell? ⟨L,3,none⟩=some (.int .i64 (c.ht:Int))∧V6.cell? ⟨L,4,none⟩=some (.int .i64 (c.hv:Int)):=by
     by_cases h0:r6.1=0
     ·exact⟨zab (y6 h0).2.lg.row 3 _ rfl,zab (y6 h0).2.lg.row 4 _ rfl⟩
     ·exact⟨zab (n6 h0).lg.row 3 _ rfl,zab (n6 h0).lg.row 4 _ rfl⟩
    have g3:=g34.1;have g4:=g34.2
    clear a6 y6 n6 hk6 g34)
 go_wp2_with fail
 refine hK.out _ _ ?_ (fun hHeld=>?_)
 ·try dsimp only
  first|exact⟨d0,d1,d3,d4⟩|exact⟨g0,g1,g3,g4⟩
 clear hK K;refine hP ?_;refine hT 9 ?_;refine wpAnyH_done (by kernel_rfl) ?_ _
 go_wp2
 go_ret
 exact za FE
end
theorem zyy (l:List Nat) (n:Nat) (hl:l.length≤65536) (hn:n<8+l.length):zca ((zbl l).take n) 0=3:=by
 unfold zca;have hlen:((zbl l).take n).length=n:=by rw[List.length_take,zcg];omega
 rw[hlen,Nat.sub_zero,List.drop_zero];by_cases h8:n<8
 ·rw[if_pos h8]
 ·have hd:(zbl l).drop 0=zdr l.length++(zdr (ztc l.length l)++(l++[])):=by rw[List.drop_zero,List.append_nil];rfl
  have hnum:zf3 ((zbl l).take n)=l.length:=by
   have e:zf3 (((zbl l).take n).take 4)=zf3 ((zbl l).take 4):=by rw[List.take_take,Nat.min_eq_left (by omega)]
   rw[zkz,zkz] at e;rw[e];exact zjj l.length _
  rw[if_neg h8,hnum,if_neg (by omega),if_pos (by omega)]
def cat:List (List Nat)→List Nat
 |[]=>[]
 |h::r=>zbl h++cat r
theorem zsa (ahead l:List Nat) (k:Nat):zca (ahead++l) (ahead.length+k)=zca l k:=by
 unfold zca;have d:∀ j,(ahead++l).drop (ahead.length+j)=l.drop j:=fun j=>by rw[← List.drop_drop,List.drop_left]
 rw[Nat.add_assoc,Nat.add_assoc,d,d,d,List.length_append,show ahead.length+l.length - (ahead.length+k)=l.length - k by omega]
theorem zq7:∀ (hs:List (List Nat)) (ahead behind:List Nat),(∀ h∈hs,h.length≤65536)→zhu (ahead++(cat hs++behind)) ahead.length hs (ahead.length+(cat hs).length)
 |[],ahead,behind,_=>by simp[zhu,cat]
 |h::r,ahead,behind,hl=>by
  have hh:=hl h (by simp);have e:ahead++(cat (h::r)++behind)=ahead++(zbl h++(cat r++behind)):=by simp only[cat,List.append_assoc]
  obtain⟨h1,h2⟩:=zuz ahead h (cat r++behind) hh;refine⟨by rw[e];exact h1,by rw[e];exact h2,?_⟩;have ih:=zq7 r (ahead++zbl h) behind (fun x hx=>hl x (by simp[hx]));have e2:ahead++(cat (h::r)++behind)=(ahead++zbl h)++(cat r++behind):=by simp only[cat,List.append_assoc]
  rw[e2];have e3:(ahead++zbl h).length=ahead.length+8+h.length:=by rw[List.length_append,zcg];omega
  have e4:ahead.length+(cat (h::r)).length=(ahead++zbl h).length+(cat r).length:=by simp only[cat,List.length_append];omega
  rw[e4];rw[e3] at ih ⊢;exact ih
theorem zzw (hs:List (List Nat)) (t:List Nat) (hl:∀ h∈hs,h.length≤65536) (ht:zca t 0=3):zhu (cat hs++t) 0 hs (cat hs).length∧0<zca (cat hs++t) (cat hs).length:=by
 have h1:=zq7 hs [] t hl;rw[List.nil_append,List.length_nil,Nat.zero_add] at h1;have h2:=zsa (cat hs) t 0;rw[Nat.add_zero] at h2;exact⟨h1,by omega⟩
theorem zkx:zca [] 0=3:=by decide
theorem zAf:∀ (hs:List (List Nat)) (N:Nat),(∀ h∈hs,h.length≤65536)→N≤(cat hs).length→∃ m t,m≤hs.length∧(cat hs).take N=cat (hs.take m)++t∧zca t 0=3∧(∀ k,k<m→(cat (hs.take (k+1))).length≤N)∧(m<hs.length→N<(cat (hs.take (m+1))).length)
 |[],N,_,hN=>by
  have:N=0:=by simpa [cat] using hN
  subst this;exact⟨0,[],Nat.le_refl _,by simp[cat],zkx,fun k hk=>by omega,fun h=>by simp at h⟩
 |h::r,N,hl,hN=>by
  have hh:=hl h (by simp);have hF:=zcg h;by_cases hc:N<8+h.length
  ·refine⟨0,(zbl h).take N,Nat.zero_le _,?_,zyy h N hh hc,fun k hk=>by omega,fun _=>?_⟩
   ·simp only[cat,List.take_zero,List.nil_append];rw[List.take_append_of_le_length (by omega)]
   ·simp only[cat,List.take_succ_cons,List.take_zero,List.append_nil];omega
  ·have hN':N - (8+h.length)≤(cat r).length:=by
    simp only[cat,List.length_append] at hN;omega
   obtain⟨m,t,h1,h2,h3,h4,h5⟩:=zAf r (N - (8+h.length)) (fun x hx=>hl x (by simp[hx])) hN';refine⟨m+1,t,by simpa using h1,?_,h3,fun k hk=>?_,fun hm=>?_⟩
   ·simp only[cat,List.take_succ_cons,List.append_assoc];rw[← h2,List.take_append,List.take_of_length_le (by omega),hF]
   ·cases k with
    |zero=>simp only[cat,List.take_succ_cons,List.take_zero,List.append_nil];omega
    |succ k =>
     have:=h4 k (by omega);simp only[cat,List.take_succ_cons,List.length_append];omega
   ·have:=h5 (by simpa using hm);simp only[cat,List.take_succ_cons,List.length_append];omega
def Ix (c:Wc):Prop:=∀ j (hj:j<c.es.length),c.es[j].2.2.1=c.bi+1+j
def zxo (e:EntN):List Nat:=3::zct e.1 e.2.1 e.2.2.1 e.2.2.2
def zAk (t v:Nat):List Nat:=2::(za2 t++za2 v)
def zAl (i t:Nat):List Nat:=1::(za2 i++za2 t)
def zue (c:Wc):List (List Nat):=zAl c.bi c.bt::zAk c.ht c.hv::c.es.map zxo
theorem zgu:∀ (a b:List (List Nat)),cat (a++b)=cat a++cat b
 |[],b=>rfl
 |x::a,b=>by simp only[List.cons_append,cat,zgu a b,List.append_assoc]
theorem zs8:∀ es:List EntN,cat (es.map zxo)=zft es
 |[]=>rfl
 |e::es=>by
  rw[List.map_cons,cat,zs8 es];rfl
theorem zj9 (c:Wc):cat (zue c)=za7 c:=by
 unfold zue za7;rw[cat,cat,zs8,List.append_assoc];rfl
theorem zq8 {c:Wc} {e:EntN} (he:EOk e) (hf:zde c (e.2.2.1:Int)=true):zcz c (zxo e)=some (zfb c e):=by
 obtain⟨k,t,i,d⟩:=e;have h:=zwu (show zub k t i d from he);unfold zxo;rw[zeh,if_neg (by omega),if_neg (by omega),if_pos rfl];unfold zuq;rw[show zct k t i d=zjb k t i d from rfl,h];dsimp only;exact if_pos hf
theorem zni (c:Wc) {t v:Nat} (ht:t≤1099511627776) (hv:v≤9):zcz c (zAk t v)=some { c with ht:=t,hv:=v }:=by
 unfold zAk;rw[zeh,if_neg (by omega),if_pos rfl];unfold zje;rw[zzd ht hv]
theorem zv4 (c:Wc) {i t:Nat} (hi:i≤1099511627776) (ht:t≤1099511627776):zcz c (zAl i t)=some ⟨i,t,c.ht,c.hv,[]⟩:=by
 unfold zAl;rw[zeh,if_pos rfl];unfold zjh;rw[zhp (l:=za2 i++za2 t) (a:=[]) (b:=za2 t) (k:=0) (n:=i) (by simp) rfl hi];dsimp only;rw[zhp (l:=za2 i++za2 t) (a:=za2 i) (b:=[]) (n:=t) (by simp) (by simp) ht];dsimp only;rw[if_neg (by rw[List.length_append];omega)]
theorem ztt {e:EntN} (he:EOk e):(zxo e).length≤65536:=by
 obtain⟨_,⟨_,b2⟩,⟨_,c2⟩,_,d2⟩:=he;have h6:=zhi e.1 e.2.1 e.2.2.1 e.2.2.2 b2 c2 d2;unfold zxo;rw[List.length_cons];omega
theorem ztu {t v:Nat} (ht:t≤1099511627776) (hv:v≤9):(zAk t v).length≤65536:=by
 have h1:=zbt t ht;have h2:=zbt v (by omega);unfold zAk;rw[List.length_cons,List.length_append];omega
theorem zzs {i t:Nat} (hi:i≤1099511627776) (ht:t≤1099511627776):(zAl i t).length≤65536:=by
 have h1:=zbt i hi;have h2:=zbt t ht;unfold zAl;rw[List.length_cons,List.length_append];omega
theorem zs7 {c:Wc} (h:WOk c):∀ r∈zue c,r.length≤65536:=by
 intro r hr;unfold zue at hr;rcases List.mem_cons.1 hr with rfl|hr
 ·exact zzs h.bi h.bt
 rcases List.mem_cons.1 hr with rfl|hr
 ·exact ztu h.ht h.hv
 obtain⟨e,he,rfl⟩:=List.mem_map.1 hr;exact ztt (h.es e he)
theorem zph {a b:List (List Nat)} {c c':Wc} (h:zc4 a=some c) (h2:zb4 c b=some c'):zc4 (a++b)=some c':=by
 cases a with
 |nil=>cases h
 |cons r a =>
  change (if zcq r=true then zb4 wc0 (r::a) else none)=some c at h;show(if zcq r=true then zb4 wc0 (r::(a++b)) else none)=some c'
  split at h
  ·rename_i hm
   rw[if_pos hm,← List.cons_append,zfz,h];exact h2
  ·cases h
theorem zuh {a b:List (List Nat)} {c c':Wc} (h:zc4 a=some c) (h2:zc4 (a++b)=some c'):zb4 c b=some c':=by
 cases a with
 |nil=>cases h
 |cons r a =>
  change (if zcq r=true then zb4 wc0 (r::a) else none)=some c at h;change (if zcq r=true then zb4 wc0 (r::(a++b)) else none)=some c' at h2;split at h
  ·rename_i hm
   rw[if_pos hm,← List.cons_append,zfz,h] at h2;exact h2
  ·cases h
theorem zuy {rs:List (List Nat)} {c c':Wc} (m:Nat) (h:zb4 c rs=some c'):∃ c1,zb4 c (rs.take m)=some c1:=by
 rw[← List.take_append_drop m rs,zfz] at h;cases h1:zb4 c (rs.take m) with
 |none=>rw[h1] at h;cases h
 |some c1=>exact⟨c1,rfl⟩
theorem Ix.nil {i t a b:Nat} : Ix ⟨i,t,a,b,[]⟩:=fun j hj=>by simp at hj
theorem Ix.add {c:Wc} {e:EntN} (h:Ix c) (h1:c.bi<e.2.2.1) (h2:e.2.2.1≤c.bi+c.es.length+1):Ix (zfb c e):=by
 intro j hj;have hl:(c.es.take (e.2.2.1 - c.bi - 1)).length=e.2.2.1 - c.bi - 1:=by rw[List.length_take];omega
 have hj':j<(c.es.take (e.2.2.1 - c.bi - 1)++[e]).length:=hj;show(c.es.take (e.2.2.1 - c.bi - 1)++[e])[j].2.2.1=c.bi+1+j
 by_cases hlt:j<e.2.2.1 - c.bi - 1
 ·rw[List.getElem_append_left (by omega),List.getElem_take];exact h j (by omega)
 ·have:j=e.2.2.1 - c.bi - 1:=by
   rw[List.length_append,hl] at hj';simp only[List.length_singleton] at hj';omega
  rw[List.getElem_append_right (by omega)];simp only[List.getElem_singleton];omega
theorem zta {c:Wc} {i:Nat} (h1:c.bi<i) (h2:i≤c.bi+c.es.length+1):zde c (i:Int)=true:=by
 unfold zde;rw[Bool.and_eq_true,decide_eq_true_eq,decide_eq_true_eq];omega
theorem zpw:∀ (es:List EntN) (c:Wc),(∀ e∈es,EOk e)→(∀ j (hj:j<es.length),es[j].2.2.1=c.bi+1+c.es.length+j)→zb4 c (es.map zxo)=some { c with es:=c.es++es }
 |[],c,_,_=>by simp[zb4]
 |e::es,c,h,hi=>by
  have h0:=hi 0 (by simp);simp only[List.getElem_cons_zero] at h0;rw[List.map_cons,zb5,zq8 (h e (by simp)) (zta (by omega) (by omega))];dsimp only;have ha:zfb c e = { c with es:=c.es++[e] }:=by
   unfold zfb;rw[List.take_of_length_le (by omega)]
  rw[ha,zpw es _ (fun x hx=>h x (by simp[hx])) (fun j hj=>?_)]
  ·simp
  ·have:=hi (j+1) (by simpa using hj);simp only[List.getElem_cons_succ] at this;rw[this,List.length_append];simp only[List.length_singleton];omega
theorem zmk {c:Wc} (h:WOk c) (hi:Ix c):zc4 (zue c)=some c:=by
 show(if zcq (zAl c.bi c.bt)=true then zb4 wc0 (zAl c.bi c.bt::zAk c.ht c.hv::c.es.map zxo) else none)=_
 rw[if_pos (show zcq (zAl c.bi c.bt)=true from rfl),zb5,zv4 wc0 h.bi h.bt];dsimp only;rw[zb5,zni _ h.ht h.hv];dsimp only;rw[zpw c.es _ h.es (fun j hj=>by simp only[List.length_nil];exact hi j hj)];simp
theorem zqe:∀ {es:List EntI} {b:List Nat},zcl es=.ok b→b=cat (es.map fun e=>zxo (toN e))
 |[],b,h=>by cases h;rfl
 |e::es,b,h=>by
  rw[zdh] at h;cases hp:zi6 e with
  |error x=>rw[hp] at h;cases h
  |ok y =>
   rw[hp] at h;dsimp only at h;cases hr:zcl es with
   |error x=>rw[hr] at h;cases h
   |ok m =>
    rw[hr] at h;cases h
    obtain⟨k,t,i,h1,h2,h3,_,_,h6,_⟩:=zk1 hp;obtain⟨ek,et,ei,ed⟩:=e;dsimp only at h1 h2 h3 h6;subst h1 h2 h3 h6;rw[List.map_cons,cat,← zqe hr];rfl
theorem zkp {c:Wc} {es:List EntI} (hk:∀ e∈es,EOk (toN e)) (hf:∀ j (hj:j<es.length),c.bi<es[j].2.2.1.toNat∧es[j].2.2.1.toNat≤c.bi+(zbk c (es.take j)).es.length+1):∀ j,j≤es.length→zb4 c ((es.take j).map fun e=>zxo (toN e))=some (zbk c (es.take j))
 |0,_=>by rw[List.take_zero];rfl
 |j+1,hj=>by
  have ih:=zkp hk hf j (by omega);have hb:=(zgr c (es.take j)).1;obtain⟨h1,h2⟩:=hf j (by omega);rw[zf7 c es j (by omega),List.take_succ_eq_append_getElem (by omega),List.map_append,List.map_singleton,zjc _ _ _ _ ih];exact zq8 (hk _ (List.getElem_mem _)) (zta (by rw[hb];exact h1) (by rw[hb];exact h2))
def zym:List Chg→List Nat→List Nat→Prop
 |[],_,b=>b=[]
 |c::cs,y,b=>c.1=false∧c.2.1=y.length∧∃ b',b=c.2.2++b'∧zym cs (y++c.2.2) b'
theorem zzp (y o:List Nat):zcj y y.length o=y++o:=by
 unfold zcj;rw[List.take_length,List.drop_of_length_le (by omega),List.append_nil]
theorem ztl {c:Chg} {y:List Nat} (h1:c.1=false) (h2:c.2.1=y.length) (u:Nat):zc5 c y u=y++c.2.2.take u:=by
 unfold zc5;rw[h1,h2];exact zzp _ _
theorem zym.now:∀ {cs:List Chg} {y b:List Nat},zym cs y b→zji cs y=y++b
 |[],y,b,h=>by rw[show b=[] from h,List.append_nil];rfl
 |c::cs,y,b,h=>by
  obtain⟨h1,h2,b',rfl,h4⟩:=h;have hu:zap c=c.2.2.length:=by unfold zap;rw[h1];rfl
  rw[zji,ztl h1 h2,hu,List.take_length,h4.now,List.append_assoc]
theorem zym.snoc:∀ {cs:List Chg} {y b:List Nat} (o:List Nat),zym cs y b→zym (cs++[(false,(y++b).length,o)]) y (b++o)
 |[],y,b,o,h=>by
  obtain rfl:b=[]:=h;exact⟨rfl,by simp,[],by simp,rfl⟩
 |c::cs,y,b,o,h=>by
  obtain⟨h1,h2,b',rfl,h4⟩:=h;refine⟨h1,h2,b'++o,by rw[List.append_assoc],?_⟩;have:=h4.snoc o;rw[List.append_assoc] at this;exact this
theorem zym.crash:∀ {cs:List Chg} {y b:List Nat} (U:Nat),zym cs y b→(za3 cs y U).1=y++b.take U
 |[],y,b,U,h=>by rw[show b=[] from h];simp[za3]
 |c::cs,y,b,U,h=>by
  obtain⟨h1,h2,b',rfl,h4⟩:=h;have hu:zap c=c.2.2.length:=by unfold zap;rw[h1];rfl
  unfold za3;by_cases h0:U=0
  ·rw[if_pos h0,h0];simp
  ·rw[if_neg h0,hu,ztl h1 h2];by_cases h3:U≤c.2.2.length
   ·rw[show U - min U c.2.2.length=0 by omega,ze2,show min U c.2.2.length=U by omega];show y++_=_
    rw[List.take_append_of_le_length h3]
   ·rw[show min U c.2.2.length=c.2.2.length by omega,List.take_length,h4.crash,List.append_assoc,List.take_append,List.take_of_length_le (show c.2.2.length≤U by omega)]
end
end Go.Proofs.YtofllbpfajppeaaGreatDoor
