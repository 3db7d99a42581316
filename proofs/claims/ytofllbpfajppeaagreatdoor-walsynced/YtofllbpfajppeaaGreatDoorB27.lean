/- The document's disk: Rename. -/
import Derived.Test.YtofllbpfajppeaaGreatDoorB26
set_option linter.unusedVariables false
set_option maxRecDepth 20000
set_option maxHeartbeats 16000000
namespace Go.Proofs.YtofllbpfajppeaaGreatDoor
open Go.ChangeShapes Go.WideShapes Go.ChangeAt Go.RowKit Go.Maps
theorem zq {α:Type} {k:Nm} {v:α} : ∀ {fs:List (Nm×α)},zbf fs→(k,v)∈fs→zbi k v (zdm k fs)=fs
 |[],_,h=>by simp at h
 |x::r,hr,hm=>by
  have h1:=List.pairwise_cons.1 hr;rcases List.mem_cons.1 hm with rfl|hm
  ·have hd:zdm k ((k,v)::r)=r:=by
    unfold zdm;rw[List.filter_cons,if_neg (by simp),List.filter_eq_self];intro y hy;have:y.1≠k:=fun e=>zbd k (by have:=h1.1 y hy;rw[e] at this;exact this)
    simpa using this
   rw[hd];cases r with
   |nil=>rfl
   |cons y r =>
    have hy:k<y.1:=h1.1 y List.mem_cons_self;have e1:¬ y.1<k:=fun e=>zbd _ (zis e hy);have e2:¬ y.1=k:=fun e=>zbd k (by rw[e] at hy;exact hy);simp[zbi,e1,e2]
  ·have hx:x.1<k:=h1.1 (k,v) hm;have hne:x.1≠k:=fun e=>zbd _ (e ▸ hx);have hd:zdm k (x::r)=x::zdm k r:=by
    unfold zdm;rw[List.filter_cons,if_pos (by simpa using hne)]
   have e:zbi k v (x::zdm k r)=if x.1<k then x::zbi k v (zdm k r) else if x.1=k then (k,v)::zdm k r else (k,v)::x::zdm k r:=rfl
   rw[hd,e,if_pos hx,zq h1.2 hm]
section
variable {base R room:Nat} {w w':World} {sp:Option Addr} {c:Nat} {rs rs':List Rf}
theorem zoo (h:RefAt base w R room sp c rs) (hbs:base≤w.heap.size) (s b:ByteArray) (hb:b.size≤maxLen) :
  Calls Tryz.prog 114 #[.pointer (some ⟨R,0,none⟩),.string s,.string b] w (zhf base R room w sp rs (zak s.data.toList b.data.toList (rss rs))):=by
 have FC:=zaa (zcx h s)
 have EN:=zaa (show s.data.toList ∉ rs.map (·.1)→zhf base R room w sp rs (zak s.data.toList b.data.toList (rss rs)) (.returned (.int .i64 8)) w from fun hn=>by
  have hg:=zb8.2 hn
  exact zhf.stay h (Below.refl _ _) (by simp[zak,zbr,hg]) (by simp[zak,zbr,hg]))
 have VC:=zaa (fun W (hb:Below w.heap.size w W)=>h.later hb);have H:=zaa h;have HS:=zaa hbs;have NB:=zaa (fun (W:World)=>zgf b W hb);clear h hbs hb;go_enter Tryz.func114,Tryz.ntmps114
 go_wp2_with fail
 refine(za FC).mono ?_;rintro e w2 ⟨rfl,hF⟩;rcases hF with⟨i,hi,he,rfl⟩|⟨hno,rfl⟩
 ·have hi0:¬ ((i:Int)<0):=by omega
  have hi1:(i:Int)<(rs.length:Int):=by omega
  have hi2:(0:Int)≤(i:Int):=by omega
  obtain⟨g,rfl,p0,p1,p2,p3⟩:=(za H).own.cells i hi;have c1:=(za H).c1;have DAT:=zaa (fun W (hb:Below w2.heap.size w2 W)=>(za VC W hb).own.dat _ (List.getElem_mem hi));have GI:=zaa (show zcc s.data.toList rs=some rs[i].2 by rw[← he];exact(za H).getI i hi);have ZM:=zaa (List.getElem_mem hi);have HE:=zaa he;clear he;generalize rs[i]=x at *;obtain⟨nm,t,yp,yc,up,uc⟩:=x;have hnm:nm=s.data.toList:=za HE;subst hnm;simp only[ze6] at p0;simp only at p1 p2 p3 DAT GI;have RC:=zaa (fun W (hb:Below w2.heap.size w2 W)=>show W.cell? ⟨R,1,none⟩=some (.slice (some ⟨g,0,none⟩) rs.length c)∧W.frozen? ⟨R,1,none⟩=false from⟨(za VC W hb).c1,(za VC W hb).z1⟩)
  have UX0:=zaa (show zgd b.data.toList=true→∀ W,Below w2.heap.size w2 W→Calls Tryz.prog 129 #[.slice (some ⟨g,0,none⟩) rs.length c,.string s] W fun e W1=>∃ sp1 n1 c1,e=.returned (.slice sp1 n1 c1)∧Below w2.heap.size w2 W1∧Below W.heap.size W W1∧Calls Tryz.prog 112 #[.slice sp1 n1 c1,.agg #[.string b,.bool t.la,.slice yp t.y.length yc,.slice up t.us.length uc]] W1 fun e w'=>∃ sp' n' c',e=.returned (.slice sp' n' c')∧zhf base R room w2 (some ⟨g,0,none⟩) rs (zak s.data.toList b.data.toList (rss rs)) (.returned (.int .i64 0)) (w'.setCell ⟨R,1,none⟩ (.slice sp' n' c'))∧Below w2.heap.size w2 w' from fun hnl W hbW=>by
   refine(zh6 base W (some ⟨g,0,none⟩) c rs s (za VC W hbW).own (za H).few (Nat.le_trans (za HS) hbW.size)).mono ?_;rintro e W1 ⟨sp1,n1,c1,rfl,hn1,ho1,hg1,hb1⟩;subst hn1;have hb11:=hbW.trans (hb1.mono hbW.size);refine⟨sp1,_,c1,rfl,hb11,hb1,?_⟩;have hd:=zgb (k:=s.data.toList) (za H).rise;rw[if_pos (List.mem_map.2 ⟨_,za ZM,rfl⟩)] at hd;have h16:=(za H).few
   have:=zjo base W1 sp1 c1 (zdm s.data.toList rs) (b.data.toList,⟨t,yp,yc,up,uc⟩) ho1 ((za H).rise.del _) (by omega) (by
    have hq:=za DAT W1 hb11
    exact⟨hq.ok,hq.sure,hq.units,hq.few⟩) (Nat.le_trans (za HS) hb11.size)
   unfold zhv at this;simp only[ze6] at this;refine this.mono ?_;rintro e W' ⟨sp',n',c',rfl,hn',ho',hg',hb'⟩;have hbb:=hb11.trans (hb'.mono hb11.size);refine⟨sp',n',c',rfl,⟨by simp[zak,zbr,za GI,hnl],_,?_,(za H).stored hbb ho' hn' (((za H).rise.del _).put _ _) (by rw[zdb ((za H).rise.del _)];split <;> omega) ?_⟩,hbb⟩
   ·rw[zlb,zxz];simp[zak,zbr,za GI,hnl]
   ·rintro g' (hg|⟨x,hx,hg⟩)
    ·exact .inr (Nat.le_trans hb11.size (hg' g' hg))
    ·rcases(zb3 ((za H).rise.del _) x).1 hx with rfl|⟨hx,_⟩
     ·exact .inl (.inr ⟨_,za ZM,hg⟩)
     ·exact .inl (.inr ⟨x,((zbq x).1 hx).1,hg⟩))
  have E14:=zaa (show zgd b.data.toList=false→zhf base R room w2 (some ⟨g,0,none⟩) rs (zak s.data.toList b.data.toList (rss rs)) (.returned (.int .i64 14)) w2 from fun hnl=>zhf.stay (za H) (Below.refl _ _) (by simp[zak,zbr,za GI,hnl]) (by simp[zak,zbr,za GI,hnl]))
  have E0:=zaa (show zgd b.data.toList=true→s.data.toList=b.data.toList→zhf base R room w2 (some ⟨g,0,none⟩) rs (zak s.data.toList b.data.toList (rss rs)) (.returned (.int .i64 0)) w2 from fun hnl hsb=>by
   have hr:zbf (rss rs):=(za H).rise.map (fun v:RV=>v.s);have hm:(s.data.toList,t)∈rss rs:=List.mem_map.2 ⟨_,za ZM,rfl⟩;refine zhf.stay (za H) (Below.refl _ _) (by simp[zak,zbr,za GI,hnl]) ?_;rw[← hsb] at hnl ⊢;simp only[zak,zbr,za GI,Option.map_some,hnl,if_true]
   exact zq hr hm)
  have b1:Below w2.heap.size w2 (w2.alloc (.cells #[.string b,.bool t.la,.slice yp t.y.length yc,.slice up t.us.length uc] 116)):=(Below.refl _ _).alloc (Nat.le_refl _) _;have B1:=zaa b1;have X1:=zad w2 (.cells #[.string b,.bool t.la,.slice yp t.y.length yc,.slice up t.us.length uc] 116);have x0:=zan X1 0 _ rfl;have x1:=zan X1 1 _ rfl;have x2:=zan X1 2 _ rfl;have x3:=zan X1 3 _ rfl;obtain⟨r1,r2⟩:=za RC _ b1;have XX:=zaa (show ∀ W,Below (w2.alloc (.cells #[.string b,.bool t.la,.slice yp t.y.length yc,.slice up t.us.length uc] 116)).heap.size (w2.alloc (.cells #[.string b,.bool t.la,.slice yp t.y.length yc,.slice up t.us.length uc] 116)) W→W.heap[w2.heap.size]? = some (.cells #[.string b,.bool t.la,.slice yp t.y.length yc,.slice up t.us.length uc] 116 (0,0)) from fun W hb=>(hb.block w2.heap.size (by simp)).trans X1);clear b1 X1 HE hi;generalize rs.length=n at c1 hi1 RC UX0 r1;cases hnl:zgd b.data.toList with
  |false =>
   have E3:=zaa (za E14 hnl)
   go_wp2_with (go_at_call 144;refine(za NB _).mono ?_;rintro e w' ⟨rfl,rfl⟩)
   go_ret
   exact za E3
  |true =>
   by_cases hsb:s.data.toList=b.data.toList
   ·have E3:=zaa (za E0 hnl hsb);have hq:(s.toList==b.toList)=true:=by
     rw[ByteArray.toList_eq,ByteArray.toList_eq,hsb];simp
    clear hsb
    go_wp2_with (go_at_call 144;refine(za NB _).mono ?_;rintro e w' ⟨rfl,rfl⟩)
    go_ret
    exact za E3
   ·have hq:(s.toList==b.toList)=false:=by
     rw[ByteArray.toList_eq,ByteArray.toList_eq];simpa using hsb
    have UX:=zaa (za UX0 hnl);clear hsb UX0 E14 E0
    go_wp2_with (go_at_call 144;refine(za NB _).mono ?_;rintro e w' ⟨rfl,rfl⟩)
    generalize w'.alloc (.cells #[.string b,.bool t.la,.slice yp t.y.length yc,.slice up t.us.length uc] 116)=V7 at *
    go_region_law (first
     |(go_simp
       go_at_call 129
       refine(za UX V7.drew (za B1).drew).mono ?_;rintro e W1 ⟨sp1,n1,k1,rfl,hb1,hb2,hP⟩;have UP:=zaa hP;obtain⟨s1,s2⟩:=za RC W1 hb1;have Y1:=za XX W1 ⟨hb2.os,hb2.tape,hb2.output,hb2.size,hb2.block⟩;have y0:=zan Y1 0 _ rfl;have y1:=zan Y1 1 _ rfl;have y2:=zan Y1 2 _ rfl;have y3:=zan Y1 3 _ rfl
       clear hP hb1 hb2 Y1)
     |(go_simp
       go_at_call 112
       refine(za UP).mono ?_;rintro e W' ⟨sp',n',c',rfl,hE,b3⟩;have E3:=zaa hE;obtain⟨v1,z1⟩:=za RC W' b3
       clear hE b3))
    all_goals
     go_wp2
     go_ret
     exact za E3
 ·have E3:=zaa (za EN hno);clear hno
  go_wp2
  go_ret
  exact za E3
end
end Go.Proofs.YtofllbpfajppeaaGreatDoor
