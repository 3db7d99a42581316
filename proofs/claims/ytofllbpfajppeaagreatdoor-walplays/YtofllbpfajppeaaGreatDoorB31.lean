/- The document's log: records at the file's end (written by wip/mkwxh.py). -/
import Derived.Test.YtofllbpfajppeaaGreatDoorB30
import Derived.Test.YtofllbpfajppeaaGreatDoorB16
import Derived.Test.YtofllbpfajppeaaGreatDoorB19
import Derived.Laws.OwnMore
import Derived.Laws.AppendOwnNone
import Derived.Test.YtofllbpfajppeaaGreatDoorB18
set_option linter.unusedVariables false
set_option maxRecDepth 20000
set_option maxHeartbeats 16000000
namespace Go.Proofs.YtofllbpfajppeaaGreatDoor
section
open Go.ChangeShapes Go.WideShapes Go.ChangeAt Go.RowKit
def zdp (room n:Nat) (c:Wc) (b:List Nat) (ss:Ds):Nat×Ds×Nat :=
 if 262144<(zdn (walNm n) ss).length+b.length then
  (if (zcb room n (za7 c) ss).1≠0 then ((zcb room n (za7 c) ss).1,(zcb room n (za7 c) ss).2,n)
   else ((zai room (walNm (n+1)) ((zdn (walNm (n+1)) (zcb room n (za7 c) ss).2).length:Int) b (zcb room n (za7 c) ss).2).1,(zai room (walNm (n+1)) ((zdn (walNm (n+1)) (zcb room n (za7 c) ss).2).length:Int) b (zcb room n (za7 c) ss).2).2,n+1))
 else ((zai room (walNm n) ((zdn (walNm n) ss).length:Int) b ss).1,(zai room (walNm n) ((zdn (walNm n) ss).length:Int) b ss).2,n)
theorem zht.put {k:Nm} {v:Sp} {m:Nat} {ss:Ds} (hr:zbf ss) (h:zht m ss) (hv:v.cs.length≤m):zht m (zbi k v ss):=fun x hx=>by
 rcases(zb3 hr x).1 hx with rfl|⟨hx,_⟩
 ·exact hv
 ·exact h x hx
theorem zht.del {k:Nm} {n:Nat} {ss:Ds} (h:zht n ss):zht n (zdm k ss):=fun x hx=>h x ((zbq x).1 hx).1
theorem zui (k:Nm) (ss:Ds):(zat k ss).2=ss∨(zat k ss).2=zdm k ss:=by
 unfold zat;split
 ·exact .inl rfl
 ·exact .inr rfl
theorem zht.remove {k:Nm} {n:Nat} {ss:Ds} (h:zht n ss):zht n (zat k ss).2:=by
 rcases zui k ss with e|e
 ·rw[e];exact h
 ·rw[e];exact h.del
theorem zt {room n:Nat} {b:List Nat} {ss:Ds} (hr:zbf ss) (h:zht 300 ss) (h0:(zcb room n b ss).1=0):zht 300 (zcb room n b ss).2:=by
 have key:(zai room zau 0 b ss).1=0→zht 300 (zak zau (walNm (n+1)) (zax zau (zai room zau 0 b ss).2).2).2:=fun h1=>by
  have hw:∃ v,(zai room zau 0 b ss).2=zbi zau v ss:=by
   unfold zai at h1 ⊢;split at h1
   ·cases h1
   split at h1
   ·cases h1
   split at h1
   ·cases h1
   split at h1
   ·cases h1
   rename_i a b' c' d'
   rw[if_neg a,if_neg b',if_neg c',if_neg d'];exact⟨_,rfl⟩
  obtain⟨v,hv⟩:=hw;rw[hv];have hs:zax zau (zbi zau v ss)=(0,zbi zau ⟨true,v.now,[]⟩ (zbi zau v ss)):=by
   unfold zax;rw[zfj hr,if_pos rfl]
  rw[hs];have h2:zht 300 (zdm zau (zbi zau ⟨true,v.now,[]⟩ (zbi zau v ss))):=fun x hx=>by
   have h3:=(zbq x).1 hx;rcases(zb3 (hr.put _ _) x).1 h3.1 with rfl|⟨h4,_⟩
   ·exact absurd rfl h3.2
   ·rcases(zb3 hr x).1 h4 with rfl|⟨h5,_⟩
    ·exact absurd rfl h3.2
    ·exact h x h5
  have h6:zht 300 (zbi zau ⟨true,v.now,[]⟩ (zbi zau v ss)):=fun x hx=>by
   rcases(zb3 (hr.put _ _) x).1 hx with rfl|⟨h4,h5⟩
   ·simp
   ·exact h2 x ((zbq x).2 ⟨hx,h5⟩)
  unfold zak;rw[zfj (hr.put _ _),if_pos rfl];dsimp only;split
  ·exact h2.put ((hr.put _ _).put _ _ |>.del _) (by simp)
  ·exact h6
 unfold zcb at h0 ⊢;by_cases h1:(zai room zau 0 b ss).1≠0
 ·rw[if_pos h1] at h0;exact absurd h0 h1
 ·rw[if_neg h1] at h0 ⊢;have hk:=key (by omega);by_cases h2:(zak zau (walNm (n+1)) (zax zau (zai room zau 0 b ss).2).2).1≠0
  ·rw[if_pos h2] at h0;exact absurd h0 h2
  ·rw[if_neg h2] at h0 ⊢;split
   ·exact hk.remove
   ·exact hk
section
variable {Fv Gv:Nat→Prop} {w w':World} {Lr R room n:Nat} {ss:Ds} {c:Wc}
theorem RL.sub (h:RL Fv w Lr R room ss n c) (hs:∀ g,Fv g→Gv g) (h1:¬ Gv Lr) (h2:¬ Gv R):RL Gv w Lr R room ss n c:=by
 obtain⟨sp,k,q1,q2⟩:=h.lg;exact⟨h.dk.sub hs,h.ne,h1,h2,⟨sp,k,q1,q2.sub hs⟩,h.ok,h.ix,h.le,h.nn⟩
theorem Grew2.transW {w1 w2:World} {B:Nat} {o:Option Nat} (h:Grew2 B o w w1) (k:Grew2 B o w1 w2):Grew2 B o w w2:=⟨k.os.trans h.os,k.tape.trans h.tape,k.output.trans h.output,Nat.le_trans h.size k.size,fun i hi a b=>(k.block i (Nat.lt_of_lt_of_le hi h.size) a b).trans (h.block i hi a b)⟩
theorem RL.anew (h:RL Fv w Lr R room ss n c) {V V2:World} (hv:Below w.heap.size w V) {c2:Wc} {sp:Option Addr} {k:Nat} (hE:EntsIn (fun g=>Fv g∨(w.heap.size≤g∧g<V.heap.size)) V sp (c2.es.map toI)) (hok:WOk c2) (hix:Ix c2) (hle:c2.es.length≤1000000) (hn:n+1<1099511627776) {uu:Ds} (hR:RAt (fun g=>(Fv g∨(w.heap.size≤g∧g<V.heap.size))∨(V.heap.size≤g∧g<V2.heap.size)) V2 R room uu) (hg:Grew2 Lr (some R) V V2) (hrow:V2.heap[Lr]? = some (.cells (zhw R (n+1) c2 sp k) 79 (0,0))) :
  RL (fun g=>Fv g∨(w.heap.size≤g∧g<V2.heap.size)) V2 Lr R room uu (n+1) c2:=by
 have hl:=h.ltL;have hRl:=h.dk.ltR;have s1:=hv.size;have s2:=hg.size;refine⟨hR.sub (fun g q=>?_),h.ne,fun q=>?_,fun q=>?_,⟨sp,k,hrow,(hE.both.same (fun g q=>hg.block g q.2 (fun e=>?_) (fun e=>?_))).sub (fun g q=>?_)⟩,hok,hix,hle,hn⟩
 ·rcases q with(q|q)|q
  ·exact .inl q
  ·exact .inr ⟨q.1,by omega⟩
  ·exact .inr ⟨by omega,q.2⟩
 ·rcases q with q|q
  ·exact h.nL q
  ·omega
 ·rcases q with q|q
  ·exact h.nR q
  ·omega
 ·rw[e] at q;rcases q.1 with z|z
  ·exact h.nL z
  ·omega
 ·have e2:=Option.some.inj e;rw[← e2] at q;rcases q.1 with z|z
  ·exact h.nR z
  ·omega
 ·rcases q.1 with z|z
  ·exact .inl z
  ·exact .inr ⟨z.1,by omega⟩
theorem RL.anewBad (h:RL Fv w Lr R room ss n c) {V V2:World} (hv:Below w.heap.size w V) {uu:Ds} (hR:RAt (fun g=>(Fv g∨(w.heap.size≤g∧g<V.heap.size))∨(V.heap.size≤g∧g<V2.heap.size)) V2 R room uu) (hg:Grew2 Lr (some R) V V2) (hrow:V2.heap[Lr]? = V.heap[Lr]?) :
  RL (fun g=>Fv g∨(w.heap.size≤g∧g<V2.heap.size)) V2 Lr R room uu n c:=by
 have hl:=h.ltL;have hRl:=h.dk.ltR;have s1:=hv.size;have s2:=hg.size;obtain⟨sp,k,q1,q2⟩:=h.lg;refine⟨hR.sub (fun g q=>?_),h.ne,fun q=>?_,fun q=>?_,⟨sp,k,hrow.trans (zac hv q1),((q2.both.later hv).same (fun g q=>hg.block g (by have:=q.2;omega) (fun e=>?_) (fun e=>?_))).sub (fun g q=>.inl q.1)⟩,h.ok,h.ix,h.le,h.nn⟩
 ·rcases q with(q|q)|q
  ·exact .inl q
  ·exact .inr ⟨q.1,by omega⟩
  ·exact .inr ⟨by omega,q.2⟩
 ·rcases q with q|q
  ·exact h.nL q
  ·omega
 ·rcases q with q|q
  ·exact h.nR q
  ·omega
 ·rw[e] at q;exact h.nL q.1
 ·have e2:=Option.some.inj e;rw[← e2] at q;exact h.nR q.1
theorem zl (h:RL Fv w Lr R room ss n c) (hc:zht 300 ss) (hn1:n+1<1099511627776) (q:Option Addr) (m z:Nat) (l:List Nat) (hm:l.length=m) (hB:BytesAt w q l) (hbk:∀ b off,q=some ⟨b,off,none⟩→0<l.length→b≠R∧b≠Lr) (hml:m≤1000000000) :
  Calls Tryz.prog 71 #[.pointer (some ⟨Lr,0,none⟩),.slice q m z] w (zc7 Fv w Lr R room ((zdp room n c l ss).1,(zdp room n c l ss).2.1,c,(zdp room n c l ss).2.2)):=by
 obtain⟨sp,k,h1,h2⟩:=h.lg;have FC:=zaa (fun V (u:Below w.heap.size w V)=>zdv (h.later u));have HH:=zaa h;have H:=zaa ((RSo.start h.dk).below ((Below.refl _ _).drew:Below w.heap.size w w.drew));have U:=zaa ((Below.refl _ _).drew:Below w.heap.size w w.drew);have XL:=zaa (show w.drew.heap[Lr]? = some (.cells (zhw R n c sp k) 79 (0,0)) from h1);have HNE:=zaa h.ne;have HM:=zaa hm;have HBV:=zaa (fun V (u:Below w.heap.size w V)=>hB.later u);have HEV:=zaa (fun V (u:Below w.heap.size w V)=>h2.later u);have HBK:=zaa hbk;have FEW:=zaa hc;have RI:=zaa h.dk.rise;have NS:=zaa (show(walNm n).length≤17 from walNm_len n (by omega))
 have RA:=zaa (show zdp room n c l ss=(if 262144<(zdn (walNm n) ss).length+l.length then
  (if (zcb room n (za7 c) ss).1≠0 then ((zcb room n (za7 c) ss).1,(zcb room n (za7 c) ss).2,n)
   else ((zai room (walNm (n+1)) ((zdn (walNm (n+1)) (zcb room n (za7 c) ss).2).length:Int) l (zcb room n (za7 c) ss).2).1,(zai room (walNm (n+1)) ((zdn (walNm (n+1)) (zcb room n (za7 c) ss).2).length:Int) l (zcb room n (za7 c) ss).2).2,n+1))
 else ((zai room (walNm n) ((zdn (walNm n) ss).length:Int) l ss).1,(zai room (walNm n) ((zdn (walNm n) ss).length:Int) l ss).2,n)) from rfl)
 rw[hm] at RA;generalize zdp room n c l ss=RR at *;clear h h1 h2 hm hB hbk hc;go_enter Tryz.func71,Tryz.ntmps71
 go_wp2_with fail
 refine wp_region_held_drew (S:=fun u=>u.cell? ⟨Lr,0,none⟩=some (.pointer (some ⟨R,0,none⟩))) (by kernel_rfl) ?_ (fun hHeld=>?_)
 ·try dsimp only
  exact zab (za XL) 0 _ rfl
 refine hT 0 ?_;refine hT 1 ?_;refine hT 2 ?_;refine hT 3 ?_;refine hT 4 ?_;refine hO 5 (fun K hK=>?_);go_simp
 first
  |(have hV:ND=ND:=rfl;clear hV;refine(ze5 (za H) (str (walNm n))).mono ?_;rintro e V ⟨rp,rn,rc,rx,rfl,hrn,hr8,_,h3,v⟩;have H:=zaa h3;have XL:=zaa (zac v (za XL));have U:=zaa ((za U).trans (v.mono (za U).size));have HRN:=zaa hrn;have HR8:=zaa hr8;clear h3 v hrn hr8)
  |(refine(za FC _ (za U)).mono ?_;rintro e V ⟨rfl,v⟩;have ND:=zaa (rfl:V=V);have H:=zaa ((za H).below v);have XL:=zaa (zac v (za XL));have U:=zaa ((za U).trans (v.mono (za U).size));clear v)
 go_wp2_with fail
 refine hK.out _ _ ?_ (fun hHeld=>?_)
 ·try dsimp only
  exact zab (za XL) 0 _ rfl
 clear hK K;refine hP ?_;refine hO 6 (fun K hK=>?_);go_simp
 first
  |(have hV:ND=ND:=rfl;clear hV;refine(ze5 (za H) (str (walNm n))).mono ?_;rintro e V ⟨rp,rn,rc,rx,rfl,hrn,hr8,_,h3,v⟩;have H:=zaa h3;have XL:=zaa (zac v (za XL));have U:=zaa ((za U).trans (v.mono (za U).size));have HRN:=zaa hrn;have HR8:=zaa hr8;clear h3 v hrn hr8)
  |(refine(za FC _ (za U)).mono ?_;rintro e V ⟨rfl,v⟩;have ND:=zaa (rfl:V=V);have H:=zaa ((za H).below v);have XL:=zaa (zac v (za XL));have U:=zaa ((za U).trans (v.mono (za U).size));clear v)
 go_wp2_with fail
 refine hK.out _ _ ?_ (fun hHeld=>?_)
 ·try dsimp only
  exact zab (za XL) 0 _ rfl
 clear hK K;refine hP ?_;refine hT 7 ?_;refine hT 8 ?_;refine hT 9 ?_;refine hT 10 ?_;refine hT 11 ?_;refine wpAnyH_done (by kernel_rfl) ?_ _;clear ND;rw[zam] at HRN;rw[za HRN] at RA;have hr8:=za HR8;by_cases hbig:262144<rn+m
 ·rw[if_pos hbig] at RA;have y1:(262144:Int)<(rn:Int)+(m:Int):=by omega
  have AC:=zaa (zk3 (Lr:=Lr) (n:=n) (za H).at_ (za FEW) (za HNE) (fun q=>by
   rcases q with q|q
   ·exact(za HH).nL q
   ·have:=(za HH).ltL;omega) (by unfold zhw at XL;exact za XL) (by omega) c sp k (za HEV _ (za U)).at_ (za HH).ok (za HH).le)
  unfold zb1 at AC;have k2:V.cell? ⟨Lr,2,none⟩=some (.int .i64 (c.bi:Int)):=zab (za XL) 2 _ rfl;have k3:V.cell? ⟨Lr,3,none⟩=some (.int .i64 (c.bt:Int)):=zab (za XL) 3 _ rfl;have k4:V.cell? ⟨Lr,4,none⟩=some (.int .i64 (c.ht:Int)):=zab (za XL) 4 _ rfl;have k5:V.cell? ⟨Lr,5,none⟩=some (.int .i64 (c.hv:Int)):=zab (za XL) 5 _ rfl;have k6:V.cell? ⟨Lr,6,none⟩=some (.slice sp c.es.length k):=zab (za XL) 6 _ rfl
  go_wp2_with fail
  clear k2 k3 k4 k5 k6;go_at_call 76
  refine(za AC).mono ?_;rintro e V2 ⟨rfl,hR2,hg2,hcase⟩;rcases hcase with⟨hx,hrow⟩|⟨hx,hrow⟩
  ·as_aux_lemma =>
   rw[if_pos hx] at RA
   have FF:=zaa (show zc7 Fv w Lr R room (RR.1,RR.2.1,c,RR.2.2) (.returned (.int .i64 (((zcb room n (za7 c) ss).1:Nat):Int))) V2 from by
    rw[za RA]
    exact⟨rfl,(za HH).anewBad (za U) hR2 hg2 hrow,(Grew2.ofBelow (za U)).transW hg2⟩)
   have y2:¬ (((zcb room n (za7 c) ss).1:Nat):Int)=0:=by omega
   have y3:((((zcb room n (za7 c) ss).1:Nat):Int)==0)=false:=by simp;omega
   generalize (((zcb room n (za7 c) ss).1:Nat):Int)=ei at *;clear hR2 hg2 hrow hx AC
   go_wp2_with fail
   go_ret
   exact za FF
  ·as_aux_lemma =>
   rw[if_neg (by omega)] at RA;have HL2:=zaa ((za HH).anew (za U) (sp:=sp) (k:=k) ((za HEV _ (za U)).sub (fun g hg=>.inl hg)) (za HH).ok (za HH).ix (za HH).le hn1 hR2 hg2 hrow);have FEW:=zaa (zt (za RI) (za FEW) hx);have G2:=zaa ((Grew2.ofBelow (za U)).transW hg2:Grew2 Lr (some R) w V2)
   have HB2:=zaa (show BytesAt V2 q l from⟨(za HBV _ (za U)).lt,fun i hi=>by
    obtain⟨b,off,e,hcl⟩:=(za HBV _ (za U)).cell i hi;have hb:=za HBK b off e (by omega);have hlt:b<V.heap.size:=zg hcl
    exact⟨b,off,e,(World.cell?_of_block (a:=⟨b,off+i,none⟩) (hg2.block b hlt hb.2 (fun e2=>hb.1 (Option.some.inj e2).symm))).trans hcl⟩⟩)
   rw[hx,show((0:Nat):Int)=0 from rfl];generalize zcb room n (za7 c) ss=AA at *;obtain⟨aa1,s2⟩:=AA;dsimp only at *;have FC:=zaa (fun W (u:Below V2.heap.size V2 W)=>zdv ((za HL2).later u));have HBV:=zaa (fun W (u:Below V2.heap.size V2 W)=>(za HB2).later u);have NS:=zaa (show(walNm (n+1)).length≤17 from walNm_len (n+1) (by omega));have H:=zaa ((RSo.start (za HL2).dk).below ((Below.refl _ _).drew:Below V2.heap.size V2 V2.drew));have U:=zaa ((Below.refl _ _).drew:Below V2.heap.size V2 V2.drew);have XL:=zaa (show V2.drew.heap[Lr]? = some (.cells (zhw R (n+1) c sp k) 79 (0,0)) from hrow);clear hR2 hg2 hrow hx AC HRN HR8 hr8 HB2
   go_wp2_with fail
   refine wp_region_held_drew (S:=fun u=>u.cell? ⟨Lr,0,none⟩=some (.pointer (some ⟨R,0,none⟩))) (by kernel_rfl) ?_ (fun hHeld=>?_)
   ·try dsimp only
    exact zab (za XL) 0 _ rfl
   refine hT 0 ?_;refine hT 1 ?_;refine hT 2 ?_;refine hT 3 ?_;refine hT 4 ?_;refine hO 5 (fun K hK=>?_);go_simp
   first
    |(have hV:ND=ND:=rfl;clear hV;refine(ze5 (za H) (str (walNm (n+1)))).mono ?_;rintro e V ⟨rp,rn,rc,rx,rfl,hrn,hr8,_,h3,v⟩;have H:=zaa h3;have XL:=zaa (zac v (za XL));have U:=zaa ((za U).trans (v.mono (za U).size));have HRN:=zaa hrn;have HR8:=zaa hr8;clear h3 v hrn hr8)
    |(refine(za FC _ (za U)).mono ?_;rintro e V ⟨rfl,v⟩;have ND:=zaa (rfl:V=V);have H:=zaa ((za H).below v);have XL:=zaa (zac v (za XL));have U:=zaa ((za U).trans (v.mono (za U).size));clear v)
   go_wp2_with fail
   refine hK.out _ _ ?_ (fun hHeld=>?_)
   ·try dsimp only
    exact zab (za XL) 0 _ rfl
   clear hK K;refine hP ?_;refine hO 6 (fun K hK=>?_);go_simp
   first
    |(have hV:ND=ND:=rfl;clear hV;refine(ze5 (za H) (str (walNm (n+1)))).mono ?_;rintro e V ⟨rp,rn,rc,rx,rfl,hrn,hr8,_,h3,v⟩;have H:=zaa h3;have XL:=zaa (zac v (za XL));have U:=zaa ((za U).trans (v.mono (za U).size));have HRN:=zaa hrn;have HR8:=zaa hr8;clear h3 v hrn hr8)
    |(refine(za FC _ (za U)).mono ?_;rintro e V ⟨rfl,v⟩;have ND:=zaa (rfl:V=V);have H:=zaa ((za H).below v);have XL:=zaa (zac v (za XL));have U:=zaa ((za U).trans (v.mono (za U).size));clear v)
   go_wp2_with fail
   refine hK.out _ _ ?_ (fun hHeld=>?_)
   ·try dsimp only
    exact zab (za XL) 0 _ rfl
   clear hK K;refine hP ?_;refine hT 7 ?_;refine hT 8 ?_;refine hT 9 ?_;refine hT 10 ?_;refine wpAnyH_done (by kernel_rfl) ?_ _;clear ND;rw[zam] at HRN;rw[za HRN] at RA;have hr8:=za HR8
   go_wp2_with fail
   have H:=zaa ((za H).below ((Below.refl _ _).drew:Below V.heap.size V V.drew));have U:=zaa ((za U).trans (((Below.refl _ _).drew:Below V.heap.size V V.drew).mono (za U).size));have XL:=zaa (show V.drew.heap[Lr]? = some (.cells (zhw R (n+1) c sp k) 79 (0,0)) from za XL);refine wp_region_held_drew (S:=fun u=>u.cell? ⟨Lr,0,none⟩=some (.pointer (some ⟨R,0,none⟩))) (by kernel_rfl) ?_ (fun hHeld=>?_)
   ·try dsimp only
    exact zab (za XL) 0 _ rfl
   refine hT 0 ?_;refine hT 1 ?_;refine hT 2 ?_;refine hT 3 ?_;refine hT 4 ?_;refine hT 6 ?_;refine hT 7 ?_;refine hT 8 ?_;refine hO 5 (fun K hK=>?_);go_simp
   first
    |(have hV:ND=ND:=rfl;clear hV;refine(zd3 (za H) (za FEW) (str (walNm (n+1))) (by rw[zb];have:=za NS;simp only[maxLen];omega) (rn:Int) (by have:=za HR8;omega) q m z l (za HM) (za HBV _ (za U)) (by omega)).mono ?_;rintro e V ⟨rfl,h3,g3⟩;have H:=zaa h3;have XL:=zaa (zao g3 (za XL) (za HNE));clear h3 g3)
    |(refine(za FC _ (za U)).mono ?_;rintro e V ⟨rfl,v⟩;have ND:=zaa (rfl:V=V);have H:=zaa ((za H).below v);have XL:=zaa (zac v (za XL));have U:=zaa ((za U).trans (v.mono (za U).size));clear v)
   go_wp2_with fail
   refine hK.out _ _ ?_ (fun hHeld=>?_)
   ·try dsimp only
    exact zab (za XL) 0 _ rfl
   clear hK K;refine hP ?_;refine hO 9 (fun K hK=>?_);go_simp
   first
    |(have hV:ND=ND:=rfl;clear hV;refine(zd3 (za H) (za FEW) (str (walNm (n+1))) (by rw[zb];have:=za NS;simp only[maxLen];omega) (rn:Int) (by have:=za HR8;omega) q m z l (za HM) (za HBV _ (za U)) (by omega)).mono ?_;rintro e V ⟨rfl,h3,g3⟩;have H:=zaa h3;have XL:=zaa (zao g3 (za XL) (za HNE));clear h3 g3)
    |(refine(za FC _ (za U)).mono ?_;rintro e V ⟨rfl,v⟩;have ND:=zaa (rfl:V=V);have H:=zaa ((za H).below v);have XL:=zaa (zac v (za XL));have U:=zaa ((za U).trans (v.mono (za U).size));clear v)
   go_wp2_with fail
   refine hK.out _ _ ?_ (fun hHeld=>?_)
   ·try dsimp only
    exact zab (za XL) 0 _ rfl
   clear hK K;refine hP ?_;refine hT 10 ?_;refine wpAnyH_done (by kernel_rfl) ?_ _;rw[zam] at H ⊢
   have FF:=zaa (show zc7 Fv w Lr R room (RR.1,RR.2.1,c,RR.2.2) (.returned (.int .i64 (((zai room (walNm (n+1)) (rn:Int) l s2).1:Nat):Int))) V from by
    rw[za RA];have hl:=(za HH).ltL;have hRl:=(za HH).dk.ltR;have g2:=(za G2).size;have g3:=(za H).grown.size;refine⟨rfl,((za HL2).disk (za H)).sub (fun g hg=>?_) (fun q=>?_) (fun q=>?_),(za G2).transW (Grew2.ofGrown (za H).grown)⟩
    ·rcases hg with(hg|hg)|hg
     ·exact .inl hg
     ·exact .inr ⟨hg.1,by omega⟩
     ·exact .inr ⟨by omega,hg.2⟩
    ·rcases q with q|q
     ·exact(za HH).nL q
     ·omega
    ·rcases q with q|q
     ·exact(za HH).nR q
     ·omega)
   go_wp2_with fail
   go_ret
   exact za FF
 ·as_aux_lemma =>
  rw[if_neg hbig] at RA;have y1:¬ (262144:Int)<(rn:Int)+(m:Int):=by omega
  go_wp2_with fail
  have H:=zaa ((za H).below ((Below.refl _ _).drew:Below V.heap.size V V.drew));have U:=zaa ((za U).trans (((Below.refl _ _).drew:Below V.heap.size V V.drew).mono (za U).size));have XL:=zaa (show V.drew.heap[Lr]? = some (.cells (zhw R n c sp k) 79 (0,0)) from za XL);refine wp_region_held_drew (S:=fun u=>u.cell? ⟨Lr,0,none⟩=some (.pointer (some ⟨R,0,none⟩))) (by kernel_rfl) ?_ (fun hHeld=>?_)
  ·try dsimp only
   exact zab (za XL) 0 _ rfl
  refine hT 0 ?_;refine hT 1 ?_;refine hT 2 ?_;refine hT 3 ?_;refine hT 4 ?_;refine hT 6 ?_;refine hT 7 ?_;refine hT 8 ?_;refine hO 5 (fun K hK=>?_);go_simp
  first
   |(have hV:ND=ND:=rfl;clear hV;refine(zd3 (za H) (za FEW) (str (walNm n)) (by rw[zb];have:=za NS;simp only[maxLen];omega) (rn:Int) (by have:=za HR8;omega) q m z l (za HM) (za HBV _ (za U)) (by omega)).mono ?_;rintro e V ⟨rfl,h3,g3⟩;have H:=zaa h3;have XL:=zaa (zao g3 (za XL) (za HNE));clear h3 g3)
   |(refine(za FC _ (za U)).mono ?_;rintro e V ⟨rfl,v⟩;have ND:=zaa (rfl:V=V);have H:=zaa ((za H).below v);have XL:=zaa (zac v (za XL));have U:=zaa ((za U).trans (v.mono (za U).size));clear v)
  go_wp2_with fail
  refine hK.out _ _ ?_ (fun hHeld=>?_)
  ·try dsimp only
   exact zab (za XL) 0 _ rfl
  clear hK K;refine hP ?_;refine hO 9 (fun K hK=>?_);go_simp
  first
   |(have hV:ND=ND:=rfl;clear hV;refine(zd3 (za H) (za FEW) (str (walNm n)) (by rw[zb];have:=za NS;simp only[maxLen];omega) (rn:Int) (by have:=za HR8;omega) q m z l (za HM) (za HBV _ (za U)) (by omega)).mono ?_;rintro e V ⟨rfl,h3,g3⟩;have H:=zaa h3;have XL:=zaa (zao g3 (za XL) (za HNE));clear h3 g3)
   |(refine(za FC _ (za U)).mono ?_;rintro e V ⟨rfl,v⟩;have ND:=zaa (rfl:V=V);have H:=zaa ((za H).below v);have XL:=zaa (zac v (za XL));have U:=zaa ((za U).trans (v.mono (za U).size));clear v)
  go_wp2_with fail
  refine hK.out _ _ ?_ (fun hHeld=>?_)
  ·try dsimp only
   exact zab (za XL) 0 _ rfl
  clear hK K;refine hP ?_;refine hT 10 ?_;refine wpAnyH_done (by kernel_rfl) ?_ _;rw[zam] at H ⊢
  have FF:=zaa (show zc7 Fv w Lr R room (RR.1,RR.2.1,c,RR.2.2) (.returned (.int .i64 (((zai room (walNm n) (rn:Int) l ss).1:Nat):Int))) V from by
   rw[za RA]
   exact⟨rfl,(za HH).disk (za H),Grew2.ofGrown (za H).grown⟩)
  go_wp2_with fail
  go_ret
  exact za FF
end
theorem zvq {w:World} (t ty e:TypeId) (i:TypeInfo) (z:Value) (size bytes:Nat) (ht:Tryz.prog.underlying t=some (.slice e)) (hi:Tryz.prog.info? e=some i) (hz:i.zero=some z) (hsize:i.size=size) (hby:i.bytes=bytes) (hzs:z.cells.size=size) (hsz:0<size)
  (E:Nat) (hE:w.heap[E]? = some (.cells #[] e (0,0))) (ad:Option Addr) (m c:Nat) (hn:ad=none→m=0∧c=0) (news:List Value) (hl:news.length=m*size)
  (hnews:∀ b,ad=some b→∀ j u,news[j]? = some u→w.cell? (b.add j)=some u) (h1:∀ u∈news,u.oneCell'=true) (hm:m≤1000000) (hbytes:m*bytes≤140737488355328) :
  ∃ g c' w',(Builtin.append_ #[t,t] ty #[.slice (some ⟨E,0,none⟩) 0 0,.slice ad m c]).run Tryz.prog w=.ok (.slice (some ⟨g,0,none⟩) m c') w'∧w'.ownsRow E e size (.slice (some ⟨g,0,none⟩) m c') m news∧w.grownBy w' (some E)∧(g=E∨g=w.heap.size):=by
 have he:w.ownsRow E e size (.slice (some ⟨E,0,none⟩) 0 0) 0 []:=⟨by simp,.inr ⟨E,0,#[],rfl,Nat.le_refl _,hE,Nat.le_refl _,by simp[maxLen],by simp,by simp⟩⟩
 have hEl:E<w.heap.size:=(Array.getElem?_eq_some_iff.1 hE).1;cases ad with
 |none =>
  obtain⟨rfl,rfl⟩:=hn rfl;have hz:news=[]:=List.eq_nil_of_length_eq_zero (by simpa using hl);subst hz;have hrun:=run_append_owned_none (P:=Tryz.prog) (w:=w) E t ty e i size ht hi _ _ _ he;exact⟨E,0,w,hrun,he,zdf _ _,.inl rfl⟩
 |some b =>
  obtain⟨v',w',hrun,h2,h3,h4,h5⟩:=run_append_own_at (P:=Tryz.prog) w E t ty e i z size bytes ht hi hz hsize hby hzs hsz _ _ _ he b m c news hl (hnews b rfl) h1 (by simp only[maxLen];omega) (by rw[Nat.zero_add];exact hbytes) (by omega);rcases h2.2 with⟨hv,h0⟩|⟨g,cap,cur,hv,r⟩
  ·have:=(h4.1 hv).1;cases this
  ·subst hv;rw[Nat.zero_add,List.nil_append] at h2;exact⟨g,cap,w',by rw[hrun,Nat.zero_add],h2,h3,h5.imp (fun e=>Option.some.inj e) (fun e=>Option.some.inj e)⟩
theorem zrz (ad:Addr) (n c:Nat) (w:World):(binOp .eql 27 (.slice (some ad) n c) (.slice none 0 0)).run Tryz.prog w=.ok (.bool false) w:=by kernel_rfl
theorem znb:∀ (es:List EntN) (hs:List (Option Addr×Nat)) (k:Nat),hs.length=es.length→zet (es.drop k) (hs.drop k)=(zet es hs).drop (k*4)
 |es,hs,0,_=>by simp
 |[],[],k+1,_=>by simp[zet]
 |e::es,h::hs,k+1,hl=>by
  rw[List.drop_succ_cons,List.drop_succ_cons,znb es hs k (by simpa using hl)];have hc:zet (e::es) (h::hs)=zc8 e h++zet es hs:=rfl;rw[hc,show(k+1)*4=4+k*4 by omega,List.drop_append,List.drop_of_length_le (show(zc8 e h).length≤4+k*4 by show 4≤4+k*4;omega),List.nil_append,show 4+k*4 - (zc8 e h).length=k*4 from by show 4+k*4 - 4=k*4;omega]
 |[],_::_,_+1,h=>by simp at h
 |_::_,[],_+1,h=>by simp at h
theorem zo2 {w:World} {ops:Array Oper} {rest:List Oper} {o:Oper} {a:Act} {Q:Exit→Act→World→Prop} (hgd:o.guard=none) (s x:Operand)
  (ho:o.op=.call { callee:=.builtin .append,args:=#[s,x],argTypes:=#[27,27] })
  (E:Nat) (hs:a.eval s=.slice (some ⟨E,0,none⟩) 0 0) (hE:w.heap[E]? = some (.cells #[] 64 (0,0))) (b:Addr) (m c:Nat) (hx:a.eval x=.slice (some b) m c) (news:List Value) (hl:news.length=m*4)
  (hnews:∀ j u,news[j]? = some u→w.cell? (b.add j)=some u) (h1:∀ u∈news,u.oneCell'=true) (hm:m≤1000000)
  (hk:∀ g c' w',w'.ownsRow E 64 4 (.slice (some ⟨g,0,none⟩) m c') m news→w.grownBy w' (some E)→(g=E∨g=w.heap.size)→wpList Tryz.prog ops Q rest (a.put o.dst (.slice (some ⟨g,0,none⟩) m c')) w') :
  wpList Tryz.prog ops Q (o::rest) a w:=by
 refine wpList_plain hgd fun K hK=>?_;obtain⟨i0,hi,hz0,hz1,hz2⟩:=info_parts zzf;obtain⟨g,c',w',hrun,h2,h3,h4⟩:=zvq (w:=w) 27 o.type 64 i0 _ 4 48 Tryz.underlying27 hi hz0 hz1 hz2 rfl (by omega) E hE (some b) m c (fun h=>by cases h) news hl (fun b' e=>by cases e;exact hnews) h1 hm (by omega);unfold Oper.wp;simp[execOp,ho,resolve,invoke,builtin,hs,hx,hrun,Result.andThen];exact hK _ _ (hk g c' w' h2 h3 h4)
theorem zxx:∀ (es:List EntN) (hs:List (Option Addr×Nat)),∀ u∈zet es hs,u.oneCell'=true:=by
 intro es hs u hu;obtain⟨p,_,hp⟩:=List.mem_flatMap.1 hu;simp only[zc8,List.mem_cons,List.not_mem_nil,or_false] at hp;rcases hp with rfl|rfl|rfl|rfl <;> rfl
theorem zpf {base b:Nat} {w:World} {ec:Nat} {es:List EntN} {hs:List (Option Addr×Nat)} (h:OwnL base w (some ⟨b,0,none⟩) ec es hs) (k x m cc:Nat) (hk:k≤es.length) (hm:es.length - k=m) (hx:0<m→x=k*4) (hl:es.length≤1000000) (hbs:base≤w.heap.size) :
  Calls Tryz.prog 75 #[.slice (some ⟨b,x,none⟩) m cc] w fun e w'=>∃ g c',e=.returned (.slice (some ⟨g,0,none⟩) m c')∧OwnL base w' (some ⟨g,0,none⟩) c' (es.drop k) (hs.drop k)∧Below w.heap.size w w'∧w.heap.size≤g:=by
 have hml:(es.drop k).length=m:=by rw[List.length_drop];exact hm
 have hhl:(hs.drop k).length=(es.drop k).length:=by rw[List.length_drop,List.length_drop,h.len]
 have hnw:∀ j u,(zet (es.drop k) (hs.drop k))[j]? = some u→w.cell? (Addr.add ⟨b,x,none⟩ j)=some u:=by
  intro j u hu;have hj:j<m*4:=by
   have h1:=(List.getElem?_eq_some_iff.1 hu).1;rw[zhc _ _ hhl,hml] at h1;exact h1
  rw[hx (by omega)];rw[znb es hs k h.len,List.getElem?_drop] at hu;rcases h.row.2 with⟨hv,h0⟩|⟨g,cap,cur,hv,hb,hg,hle,hmx,hsz,ht⟩
  ·simp at hv
  ·simp only[Value.slice.injEq,Option.some.injEq,Addr.mk.injEq,and_true,true_and] at hv;obtain⟨rfl,_⟩:=hv;rw[Addr.add_lit,cell_of_row w b _ cur _ _ hg,← Array.getElem?_toList];rw[← ht,List.getElem?_take] at hu;split at hu
   ·exact hu
   ·cases hu
 have hq:=zrz ⟨b,x,none⟩ m cc w;have U1:=zaa (show Below w.heap.size w (w.alloc (.cells #[] 64)) from(Below.refl _ _).alloc (Nat.le_refl _) _);have X1:=zaa (zad w (.cells #[] 64))
 have NW:=zaa (show ∀ j u,(zet (es.drop k) (hs.drop k))[j]? = some u→(w.alloc (.cells #[] 64)).cell? (Addr.add ⟨b,x,none⟩ j)=some u from fun j u hu=>by
  have h1:=hnw j u hu;rw[Addr.add_lit] at h1 ⊢
  exact cell_later (za U1) h1)
 have RL:=zaa (show(zet (es.drop k) (hs.drop k)).length=m*4 by rw[zhc _ _ hhl,hml])
 have FE:=zaa (show ∀ g c' W,World.ownsRow W w.heap.size 64 4 (.slice (some ⟨g,0,none⟩) m c') m (zet (es.drop k) (hs.drop k))→Below w.heap.size w W→(w.heap.size≤g)→OwnL base W (some ⟨g,0,none⟩) c' (es.drop k) (hs.drop k) from fun g c' W hr u hg=>by
  refine⟨hhl,?_,fun i hi hj=>?_⟩
  ·rw[hml];refine⟨hr.1,?_⟩;rcases hr.2 with q|⟨g',cap,cur,hv,hb,r⟩
   ·exact .inl q
   ·exact .inr ⟨g',cap,cur,hv,Nat.le_trans hbs hb,r⟩
  ·rw[List.getElem_drop,List.getElem_drop]
   exact(h.dat (k+i) (by rw[List.length_drop] at hi;omega) (by rw[List.length_drop] at hj;omega)).later u)
 have ML:=zaa (show m≤1000000 by omega);clear h hnw hml hhl hx;go_enter Tryz.func75,Tryz.ntmps75
 go_wp2_with (at_builtin;refine za ?_)
 refine zaa ?_;refine zo2 rfl (.tmp 5) (.tmp 6) rfl w.heap.size rfl (za X1) ⟨b,x,none⟩ m cc rfl (zet (es.drop k) (hs.drop k)) (za RL) (za NW) (zxx _ _) (za ML) ?_;intro g c' W hr hg hgg;have B2:=zaa ((za U1).grown hg (za U1).size (fun j e=>by have:=Option.some.inj e;omega));have hgl:w.heap.size≤g:=by
  rcases hgg with rfl|rfl
  ·exact Nat.le_refl _
  ·exact(za U1).size
 have OO:=zaa (za FE g c' W hr (za B2) hgl);have GL:=zaa hgl;clear hr hg hgg hgl
 go_wp2
 go_ret
 exact⟨g,c',rfl,za OO,za B2,za GL⟩
theorem zq1 (b len cap lo:Nat) (h1:lo≤len) (u:World) :
  (Instr.slice 27 (.slice (some ⟨b,0,none⟩) len cap) (some (.int .i64 (lo:Int))) none none).run Tryz.prog u=.ok (.slice (some ⟨b,if cap=lo then 0 else lo*4,none⟩) (len - lo) (cap - lo)) u:=by
 rw[run_slice_l (w:=u) 27 _ len cap zBj .i64 (lo:Int) (by omega) (by omega),zx2];simp only[Result.andThen,sliced,Int.toNat_natCast,Option.map_some,Addr.add_lit];split <;> simp
def zeo (room n:Nat) (c:Wc) (i:Int) (ss:Ds):Nat×Ds×Wc×Nat :=
 if (zdd c i).2=false then (2,ss,c,n)
 else if i=(c.bi:Int) then (0,ss,c,n)
 else zrm room n c ⟨i.toNat,(zdd c i).1.toNat,c.ht,c.hv,c.es.drop (i.toNat - c.bi)⟩ ss
section
variable {Av:Nat→Prop} {base:Nat} {w w':World} {L d M room N N':Nat} {ss ss':Ds} {c:Wc} {n:Nat} {ep:Option Addr} {ec:Nat} {hs:List (Option Addr×Nat)}
theorem OwnL.some_ {es:List EntN} (h:OwnL base w ep ec es hs) (h0:0<es.length):∃ b,ep=some ⟨b,0,none⟩:=by
 rcases h.row.2 with⟨hv,h1⟩|⟨g,cap,cur,hv,_⟩
 ·omega
 ·simp only[Value.slice.injEq] at hv;exact⟨g,hv.1⟩
end
theorem zA6 {c:Wc} (hix:Ix c) {i:Int} {j:Nat} (hj:j<c.es.length) (h:(c.es[j].2.2.1:Int)=i):zdd c i=((c.es[j].2.1:Int),true):=by
 have:=hix j hj;unfold zdd;rw[if_neg (by omega),if_pos (by omega)];have e:(i - (c.bi:Int) - 1).toNat=j:=by omega
 rw[e,show c.es.getD j default=c.es[j] by simp[List.getD_eq_getElem?_getD,hj]]
theorem zye {c:Wc} (hix:Ix c) {i:Int} (hne:i≠(c.bi:Int)) (h:∀ j (hj:j<c.es.length),(c.es[j].2.2.1:Int)≠i):zdd c i=(0,false):=by
 unfold zdd;rw[if_neg hne,if_neg];rintro⟨a,b⟩;have hj:(i - (c.bi:Int) - 1).toNat<c.es.length:=by omega
 have h1:=h _ hj;have h2:=hix _ hj;omega
section
variable {Fv:Nat→Prop} {w w':World} {Lr R room n:Nat} {ss:Ds} {c:Wc}
theorem zsn (h:RL Fv w Lr R room ss n c) (i:Int):Calls Tryz.prog 14 #[.pointer (some ⟨Lr,0,none⟩),.int .i64 i] w fun e w'=>e=.returned (.tuple #[.int .i64 (zdd c i).1,.bool (zdd c i).2])∧Below w.heap.size w w':=by
 obtain⟨sp,k,h1,h2⟩:=h.lg;have l2:w.cell? ⟨Lr,2,none⟩=some (.int .i64 (c.bi:Int)):=zab h1 2 _ rfl;have l3:w.cell? ⟨Lr,3,none⟩=some (.int .i64 (c.bt:Int)):=zab h1 3 _ rfl;have l6:w.cell? ⟨Lr,6,none⟩=some (.slice sp c.es.length k):=zab h1 6 _ rfl;have B0:=zaa (Below.refl w.heap.size w);have hl:=h.le;have HE:=zaa (fun j hj=>zn2 h2 j hj);have FE:=zaa (show i=(c.bi:Int)→zdd c i=((c.bt:Int),true) from fun e=>by unfold zdd;rw[if_pos e]);have FA:=zaa (fun j hj=>zA6 h.ix (i:=i) (j:=j) hj);have FN:=zaa (zye h.ix (i:=i));generalize zdd c i=tw at *;obtain⟨en,hen⟩:∃ en,c.es.length=en:=⟨_,rfl⟩
 rw[hen] at l6 hl;have HEN:=zaa hen;clear h h1 h2 hen;by_cases hb:i=(c.bi:Int)
 ·have FW:=zaa (za FE hb);have hb1:(i==(c.bi:Int))=true:=by simp[hb]
  go_enter Tryz.func14,Tryz.ntmps14
  go_wp2
  go_ret2
  exact⟨by rw[za FW];rfl,za B0⟩
 ·have hb1:(i==(c.bi:Int))=false:=by simp[hb]
  have HB:=zaa hb;go_enter Tryz.func14,Tryz.ntmps14
  go_wp2_with fail
  go_loopw [6] (fun v wr=>∃ j:Nat,j≤en∧v=.int .i64 (j:Int)∧Hid (∀ m (hm:m<c.es.length),m<j→(c.es[m].2.2.1:Int)≠i)∧Hid (wr=w)) (fun v _=>en - (intOf v).toNat)
  case atStart=>exact⟨0,by omega,rfl,zaa (fun m hm h=>absurd h (by omega)),zaa rfl⟩
  case round =>
   obtain⟨j,hj,rfl,hN,hWW⟩:=hrel;have hWW':=za hWW;subst hWW';clear hWW;by_cases hje:j<en
   ·have hjl:j<c.es.length:=by rw[za HEN];exact hje
    have z0:(0:Int)≤(j:Int):=by omega
    have z1:(j:Int)<(en:Int):=by omega
    obtain⟨g,off,ep,ec,hsp,q0,q1,q2,q3,qd⟩:=za HE j hjl;have FJ:=zaa (za FA j hjl)
    have NJ:=zaa (show(c.es[j].2.2.1:Int)≠i→∀ m (hm:m<c.es.length),m<j+1→(c.es[m].2.2.1:Int)≠i from fun hne m hm h=>by
     rcases Nat.lt_or_ge m j with q|q
     ·exact za hN m hm q
     ·have:m=j:=by omega
      subst this
      exact hne)
    subst hsp;generalize c.es[j]=x at *;obtain⟨ek,et,ei,ed⟩:=x;dsimp only at *;clear q0 q3 qd;by_cases hji:(ei:Int)=i
    ·as_aux_lemma =>
     have FW:=zaa (za FJ hji);have w1:((ei:Int)==i)=true:=by simp[hji]
     go_wp2_with fail
     go_ret2
     exact⟨by rw[za FW];rfl,za B0⟩
    ·as_aux_lemma =>
     have NN:=zaa (za NJ hji);have w1:((ei:Int)==i)=false:=by simp[hji]
     go_wp2_with fail
     exact⟨⟨j+1,by omega,by go_num,NN,zaa (by first|rfl|trivial)⟩,by simp[intOf];omega⟩
   ·as_aux_lemma =>
    have z1:¬ (j:Int)<(en:Int):=by omega
    have FW:=zaa (za FN (za HB) (fun m hm=>za hN m hm (by rw[za HEN] at hm;omega)))
    go_wp2_with fail
    go_ret2
    exact⟨by rw[za FW];rfl,za B0⟩
end
def zve (room n:Nat) (c c2:Wc) (ss:Ds):Nat×Ds×Wc×Nat :=
 if (zcb room n (za7 c2) ss).1≠0 then ((zcb room n (za7 c2) ss).1,(zcb room n (za7 c2) ss).2,c,n) else (0,(zcb room n (za7 c2) ss).2,c2,n+1)
section
variable {Fv:Nat→Prop} {w w':World} {Lr R room n:Nat} {ss:Ds} {c:Wc}
theorem zg9 (h:RL Fv w Lr R room ss n c) (hc:zht 300 ss) (hn:n+1<1099511627776) {V:World} (hv:Below w.heap.size w V) (c2:Wc) (sp2:Option Addr) (k2:Nat) (hE:EntsIn (fun g=>Fv g∨(w.heap.size≤g∧g<V.heap.size)) V sp2 (c2.es.map toI)) (hok:WOk c2) (hix:Ix c2) (hle:c2.es.length≤1000000) :
  Calls Tryz.prog 76 #[.pointer (some ⟨Lr,0,none⟩),.agg (zb1 c2 sp2 k2)] V (fun e V2=>zc7 Fv w Lr R room (zve room n c c2 ss) e V2∧Grew2 Lr (some R) V V2):=by
 obtain⟨sp,k,h1,h2⟩:=h.lg;have hs:=(RSo.start h.dk).below hv;have x1:=zac hv h1;unfold zhw at x1
 refine(zk3 (Lr:=Lr) (n:=n) hs.at_ hc h.ne (fun q=>by
  rcases q with q|q
  ·exact h.nL q
  ·have:=h.ltL;omega) x1 (by omega) c2 sp2 k2 hE.at_ hok hle).mono ?_
 rintro e V2 ⟨rfl,hR2,hg2,hcase⟩;unfold zve;rcases hcase with⟨hx,hrow⟩|⟨hx,hrow⟩
 ·rw[if_pos hx];exact⟨⟨rfl,h.anewBad hv hR2 hg2 hrow,(Grew2.ofBelow hv).transW hg2⟩,hg2⟩
 ·rw[if_neg (by omega)];exact⟨⟨by rw[hx],h.anew hv hE hok hix hle hn hR2 hg2 hrow,(Grew2.ofBelow hv).transW hg2⟩,hg2⟩
theorem zqb {c c2:Wc} (h1:c2.ht=c.ht) (h2:c2.hv=c.hv):(zve room n c c2 ss).2.2.1.ht=c.ht∧(zve room n c c2 ss).2.2.1.hv=c.hv:=by
 unfold zve;split
 ·exact⟨rfl,rfl⟩
 ·exact⟨h1,h2⟩
theorem RL.hard (h:RL Fv w Lr R room ss n c):w.cell? ⟨Lr,4,none⟩=some (.int .i64 (c.ht:Int))∧w.cell? ⟨Lr,5,none⟩=some (.int .i64 (c.hv:Int)):=by
 obtain⟨sp,k,h1,h2⟩:=h.lg;exact⟨zab h1 4 _ rfl,zab h1 5 _ rfl⟩
theorem zie {B j:Nat} {o:Option Nat} {w w':World} {x:Obj} (g:Grew2 B o w w') (h:w.heap[j]? = some x) (h1:j≠B) (h2:o≠some j):w'.heap[j]? = some x:=(g.block j (Array.getElem?_eq_some_iff.1 h).1 h1 h2).trans h
theorem zin {P:Nat→Prop} {w:World} : EntsIn P w none ([]:List EntI):=⟨⟨fun i hi=>absurd hi (by simp)⟩,fun b off e h0=>absurd h0 (by simp),fun i hi=>absurd hi (by simp)⟩
theorem zvp (h:RL Fv w Lr R room ss n c) (hc:zht 300 ss) (hn:n+1<1099511627776) (mi mt:Nat) (hi:mi≤1099511627776) (ht:mt≤1099511627776) :
  Calls Tryz.prog 37 #[.pointer (some ⟨Lr,0,none⟩),.agg #[.int .i64 (mi:Int),.int .i64 (mt:Int)]] w (zc7 Fv w Lr R room (zve room n c ⟨mi,mt,c.ht,c.hv,[]⟩ ss)):=by
 obtain⟨sp,k,h1,h2⟩:=h.lg;have AC:=zaa (fun V (u:Below w.heap.size w V)=>zg9 h hc hn u ⟨mi,mt,c.ht,c.hv,[]⟩ none 0 zin ⟨hi,ht,h.ok.ht,h.ok.hv,by simp⟩ (fun j hj=>absurd hj (by simp)) (by simp));have b1:Below w.heap.size w (w.alloc (.cells #[.int .i64 (mi:Int),.int .i64 (mt:Int)] 31)):=(Below.refl _ _).alloc (Nat.le_refl _) _;have X1:=zaa (zad w (.cells #[.int .i64 (mi:Int),.int .i64 (mt:Int)] 31));have L1:=zaa (zac b1 h1);have B1:=zaa b1;have m0:=zab (za X1) 0 _ rfl;have m1:=zab (za X1) 1 _ rfl;have y1:¬ (mi:Int)<0:=by omega
 have y2:¬ (1099511627776:Int)<(mi:Int):=by omega
 have y3:¬ (mt:Int)<0:=by omega
 have y4:¬ (1099511627776:Int)<(mt:Int):=by omega
 have RH:=zaa (zqb (room:=room) (n:=n) (c:=c) (ss:=ss) (c2:=⟨mi,mt,c.ht,c.hv,[]⟩) rfl rfl);have DNL:=zaa (show w.heap.size≠Lr by have:=h.ltL;omega);have DNR:=zaa (show some R≠some w.heap.size by intro e;have:=Option.some.inj e;have:=h.dk.ltR;omega);generalize zve room n c ⟨mi,mt,c.ht,c.hv,[]⟩ ss=RR at *;clear h h1 h2 hc b1;go_enter Tryz.func37,Tryz.ntmps37
 go_wp2_with fail
 clear m0 m1;generalize w.alloc _=W1 at *;generalize hD:w.heap.size=D at *;have HDD:=zaa hD;clear hD;have U:=zaa ((za B1).drew);have XD:=zaa (show W1.drew.heap[D]? = some (.cells #[.int .i64 (mi:Int),.int .i64 (mt:Int)] 31 (0,0)) from za X1);have K45:=zaa (show W1.drew.cell? ⟨Lr,4,none⟩=some (.int .i64 (c.ht:Int))∧W1.drew.cell? ⟨Lr,5,none⟩=some (.int .i64 (c.hv:Int)) from⟨zab (za L1) 4 _ rfl,zab (za L1) 5 _ rfl⟩);clear L1 X1;refine wp_region_held_drew (S:=fun u=>u.cell? ⟨D,0,none⟩=some (.int .i64 (mi:Int))∧u.cell? ⟨D,1,none⟩=some (.int .i64 (mt:Int))∧u.cell? ⟨Lr,4,none⟩=some (.int .i64 (c.ht:Int))∧u.cell? ⟨Lr,5,none⟩=some (.int .i64 (c.hv:Int))) (by kernel_rfl) ?_ (fun hHeld=>?_)
 ·try dsimp only
  exact⟨zab (za XD) 0 _ rfl,zab (za XD) 1 _ rfl,(za K45).1,(za K45).2⟩
 refine hT 0 ?_;refine hT 1 ?_;refine hT 2 ?_;refine hT 3 ?_;refine hT 4 ?_;refine hT 5 ?_;refine hT 6 ?_;refine hT 7 ?_;refine hO 8 (fun K hK=>?_);go_simp
 first
  |(refine(za AC _ (za U)).mono ?_;rintro e V ⟨⟨rfl,h3,h4⟩,h5⟩;have XD:=zaa (zie h5 (za XD) (za DNL) (za DNR));have K45:=zaa h3.hard;rw[(za RH).1,(za RH).2] at K45;have FF:=zaa (show zc7 Fv w Lr R room RR (.returned (.int .i64 (RR.1:Int))) V from⟨rfl,h3,h4⟩);clear h3 h4 h5)
 go_wp2_with fail
 refine hK.out _ _ ?_ (fun hHeld=>?_)
 ·try dsimp only
  exact⟨zab (za XD) 0 _ rfl,zab (za XD) 1 _ rfl,(za K45).1,(za K45).2⟩
 clear hK K;refine hP ?_;refine hT 9 ?_;refine wpAnyH_done (by kernel_rfl) ?_ _
 go_wp2_with fail
 go_ret
 exact za FF
theorem zxy (h:RL Fv w Lr R room ss n c) (mi mt:Int) (hno:¬ (0≤mi∧mi≤1099511627776∧0≤mt∧mt≤1099511627776)) :
  Calls Tryz.prog 37 #[.pointer (some ⟨Lr,0,none⟩),.agg #[.int .i64 mi,.int .i64 mt]] w (zc7 Fv w Lr R room (2,ss,c,n)):=by
 have b1:Below w.heap.size w (w.alloc (.cells #[.int .i64 mi,.int .i64 mt] 31)):=(Below.refl _ _).alloc (Nat.le_refl _) _;have X1:=zaa (zad w (.cells #[.int .i64 mi,.int .i64 mt] 31));have m0:=zab (za X1) 0 _ rfl;have m1:=zab (za X1) 1 _ rfl;have FF:=zaa (h.stay b1 (x:=2));clear h b1;by_cases h1:mi<0
 ·go_enter Tryz.func37,Tryz.ntmps37
  go_wp2_with fail
  go_ret
  exact za FF
 by_cases h2:1099511627776<mi
 ·go_enter Tryz.func37,Tryz.ntmps37
  go_wp2_with fail
  go_ret
  exact za FF
 by_cases h3:mt<0
 ·go_enter Tryz.func37,Tryz.ntmps37
  go_wp2_with fail
  go_ret
  exact za FF
 ·have h4:1099511627776<mt:=by omega
  go_enter Tryz.func37,Tryz.ntmps37
  go_wp2_with fail
  go_ret
  exact za FF
end
theorem zr2 {es:List EntN} {j:Nat} {a b:Int} (hj:j<es.length) (h1:a≤(es[j].2.2.1:Int)) (h2:(es[j].2.2.1:Int)≤b):zb7 (es.take (j+1)) a b=zb7 (es.take j) a b++[es[j]]:=by
 unfold zb7;rw[List.take_succ_eq_append_getElem hj,List.filter_append];simp[h1,h2]
theorem zu0 {es:List EntN} {j:Nat} {a b:Int} (hj:j<es.length) (h:¬ (a≤(es[j].2.2.1:Int)∧(es[j].2.2.1:Int)≤b)):zb7 (es.take (j+1)) a b=zb7 (es.take j) a b:=by
 unfold zb7;rw[List.take_succ_eq_append_getElem hj,List.filter_append];simp only[List.append_right_eq_self];rw[List.filter_eq_nil_iff];intro x hx;simp only[List.mem_singleton] at hx;subst hx;simp only[Bool.and_eq_true,decide_eq_true_eq];exact h
def zAd (Fv:Nat→Prop) (w:World) (l:List EntN) (e:Ending) (w':World):Prop:=∃ sp m k,e=.returned (.slice sp m k)∧l.length=m∧EntsIn (fun g=>Fv g∨(w.heap.size≤g∧g<w'.heap.size)) w' sp (l.map toI)∧Below w.heap.size w w'
section
variable {Fv:Nat→Prop} {w w':World} {Lr R room n:Nat} {ss:Ds} {c:Wc}
theorem zif (h:RL Fv w Lr R room ss n c) (a b:Int):Calls Tryz.prog 17 #[.pointer (some ⟨Lr,0,none⟩),.int .i64 a,.int .i64 b] w (zAd Fv w (zb7 c.es a b)):=by
 obtain⟨sp,k,h1,h2⟩:=h.lg;have XL:=zaa (show w.heap[Lr]? = some (.cells (zhw R n c sp k) 79 (0,0)) from h1);have hl:=h.le;have HE:=zaa (fun j hj=>zn2 h2 j hj);have EQT:=zaa (show c.es.take c.es.length=c.es from List.take_length);obtain⟨en,hen⟩:∃ en,c.es.length=en:=⟨_,rfl⟩
 have C6:=zaa (show ∀ V,Below w.heap.size w V→V.cell? ⟨Lr,6,none⟩=some (.slice sp en k) from fun V u=>by rw[← hen];exact zab (zac u h1) 6 _ rfl);rw[hen] at hl EQT;have HEN:=zaa hen;have RE0:=zaa (RowE.empty (fun g=>Fv g∧g<w.heap.size) w);clear h h1 h2 hen XL;go_enter Tryz.func17,Tryz.ntmps17
 go_wp2_with fail
 go_loopw [7,8] (fun v i wr=>∃ (j:Nat) (q:Option Addr) (z m:Nat),j≤en∧m≤j∧i=.int .i64 (j:Int)∧v=.slice q m z∧Hid ((zb7 (c.es.take j) a b).length=m)∧Hid (RowE (fun g=>Fv g∧g<w.heap.size) w wr q z ((zb7 (c.es.take j) a b).map toI))) (fun _ i _=>en - (intOf i).toNat)
 case atStart=>exact⟨0,_,0,0,by omega,by omega,rfl,rfl,zaa rfl,RE0⟩
 case round =>
  obtain⟨j,q,z,m,hj,hmj,rfl,rfl,hM,hR⟩:=hrel;clear RE0;have BR:=zaa (za hR).bel;have a6:=za C6 wr (za BR);by_cases hje:j<en
  ·have hjl:j<c.es.length:=by rw[za HEN];exact hje
   have z0:(0:Int)≤(j:Int):=by omega
   have z1:(j:Int)<(en:Int):=by omega
   obtain⟨g,off,ep,ec,hsp,q0,q1,q2,q3,qd⟩:=za HE j hjl;subst hsp;have QD:=zaa qd;have PC:=zaa (show ∀ V,Below w.heap.size w V→V.cell? ⟨g,off+j*4,none⟩=some (.int .i64 (c.es[j].1:Int))∧V.cell? ⟨g,off+j*4+1,none⟩=some (.int .i64 (c.es[j].2.1:Int))∧V.cell? ⟨g,off+j*4+2,none⟩=some (.int .i64 (c.es[j].2.2.1:Int))∧V.cell? ⟨g,off+j*4+3,none⟩=some (.slice ep c.es[j].2.2.2.length ec) from fun V u=>⟨cell_later u q0,cell_later u q1,cell_later u q2,cell_later u q3⟩);have FY:=zaa (zr2 (a:=a) (b:=b) hjl);have FN:=zaa (zu0 (a:=a) (b:=b) hjl);generalize c.es[j]=x at *;obtain⟨ek,et,ei,ed⟩:=x;dsimp only at *;obtain⟨p0,p1,p2,p3⟩:=za PC wr (za BR);generalize hdn:ed.length=dn at *;have HDN:=zaa hdn;clear q0 q1 q2 q3 qd hdn;have hmm:m≤1048576:=by omega
   by_cases ha:a≤(ei:Int)
   ·by_cases hb:(ei:Int)≤b
    ·as_aux_lemma =>
     have FQ:=zaa (za FY ha hb);have A8:=zaa (show Below wr.heap.size wr (wr.alloc (.cells #[.int .i64 (ek:Int),.int .i64 (et:Int),.int .i64 (ei:Int),.slice ep dn ec] 64)) from(Below.refl _ _).alloc (Nat.le_refl _) _);have X8:=zaa (zad wr (.cells #[.int .i64 (ek:Int),.int .i64 (et:Int),.int .i64 (ei:Int),.slice ep dn ec] 64));have R8:=zaa ((za hR).later (za A8))
     go_wp2_with (at_builtin;refine za ?_)
     refine zaa ?_;refine ze9 rfl (.tmp 48) (.tmp 57) rfl q m z ((zb7 (c.es.take j) a b).map toI) rfl (by rw[List.length_map];exact za hM) (by exact za R8) wr.heap.size (toI (ek,et,ei,ed)) (ep,ec) rfl (by unfold zbu toI;dsimp only;rw[za HDN];exact za X8) (za QD) hmm ?_;intro q' z' V9 hr9 _;have R9:=zaa (show RowE (fun g=>Fv g∧g<w.heap.size) w V9 q' z' ((zb7 (c.es.take (j+1)) a b).map toI) from by rw[za FQ,List.map_append];exact hr9);have M9:=zaa (show(zb7 (c.es.take (j+1)) a b).length=m+1 from by rw[za FQ,List.length_append,za hM];rfl);clear hr9
     go_wp2_with fail
     exact⟨⟨j+1,q',z',m+1,by omega,by omega,by go_num,rfl,M9,R9⟩,by simp[intOf];omega⟩
    ·as_aux_lemma =>
     have FQ:=zaa (za FN (fun h=>hb h.2));rw[← za FQ] at hM hR
     go_wp2_with fail
     exact⟨⟨j+1,q,z,m,by omega,by omega,by go_num,rfl,hM,hR⟩,by simp[intOf];omega⟩
   ·as_aux_lemma =>
    have FQ:=zaa (za FN (fun h=>ha h.1));rw[← za FQ] at hM hR
    go_wp2_with fail
    exact⟨⟨j+1,q,z,m,by omega,by omega,by go_num,rfl,hM,hR⟩,by simp[intOf];omega⟩
  ·as_aux_lemma =>
   have z1:¬ (j:Int)<(en:Int):=by omega
   have hje2:j=en:=by omega
   have FF:=zaa (show zAd Fv w (zb7 c.es a b) (.returned (.slice q m z)) wr from by
    have e:=za EQT;have hr:=za hR;have hm:=za hM;rw[hje2,e] at hr hm
    exact⟨q,m,z,rfl,hm,hr.ents.sub (fun g hg=>by
     rcases hg with hg|hg
     ·exact .inl hg.1
     ·exact .inr hg),za BR⟩)
   go_wp2_with fail
   go_ret
   exact za FF
end
end
end Go.Proofs.YtofllbpfajppeaaGreatDoor
