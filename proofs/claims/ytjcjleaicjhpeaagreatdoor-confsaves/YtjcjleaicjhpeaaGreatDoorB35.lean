/- Conf: a store's bytes, the program's. -/
import Derived.Test.YtjcjleaicjhpeaaGreatDoorB25
import Derived.Test.YtjcjleaicjhpeaaGreatDoorB34
import Derived.Test.YtjcjleaicjhpeaaGreatDoorB12
import Derived.Test.YtjcjleaicjhpeaaGreatDoorB22
import Derived.Test.YtjcjleaicjhpeaaGreatDoorB15
import Derived.Test.YtjcjleaicjhpeaaGreatDoorB06
import Derived.Test.YtjcjleaicjhpeaaGreatDoorB03
import Derived.Test.YtjcjleaicjhpeaaGreatDoorB23
import Derived.Laws.StructEq
import Derived.Deep.CutBlock
import Derived.Deep.DeepCutAuto
import Derived.Test.YtjcjleaicjhpeaaGreatDoorB18
import Derived.Shelf.SlMaps.Clone
import Derived.Test.YtjcjleaicjhpeaaGreatDoorB29
import Derived.Test.YtjcjleaicjhpeaaGreatDoorB04
set_option linter.unusedVariables false
set_option maxRecDepth 20000
set_option maxHeartbeats 16000000
namespace Go.Proofs.YtjcjleaicjhpeaaGreatDoor
section
open Go.ChangeShapes Go.WideShapes Go.ChangeAt Go.RowKit
theorem blk_lt {base:Nat} {w:World} {sp:Option Addr} {c:Nat} {l:List Nat} (h:OwnB base w sp c l) {b:Nat} (hb:blk sp=some b):base≤b∧b<w.heap.size:=by
 rcases h.1.2 with⟨hv,_⟩|⟨g,cap,cur,hv,hbg,hh,_⟩
 ·simp only[Value.slice.injEq] at hv;rw[hv.1] at hb;cases hb
 ·simp only[Value.slice.injEq] at hv;rw[hv.1] at hb;obtain rfl:g=b:=Option.some.inj hb;exact⟨hbg,(Array.getElem?_eq_some_iff.1 hh).1⟩
def zo7 (w:World) (g:Nat):World:={ w with heap:=w.heap.setIfInBounds g (.map #[] 0) }
theorem zpy (w:World) (g b:Nat) (h:b≠g):(zo7 w g).heap[b]? = w.heap[b]?:=by
 unfold zo7;simp[Ne.symm h]
theorem zkx (w:World) (g:Nat):(zo7 w g).heap.size=w.heap.size:=by
 unfold zo7;simp
theorem zkw (w:World) (g k:Nat):(zo7 w g).cell? ⟨g,k,none⟩=none:=by
 rcases Nat.lt_or_ge g w.heap.size with h|h
 ·have:(zo7 w g).heap[g]? = some (.map #[] 0):=by
   unfold zo7;simp[h]
  simp[World.cell?,this]
 ·exact zhp (by rw[zkx];exact h)
theorem zj7 {B g:Nat} (hg:g<B) {w:World} {T:TypeId} {k n:Nat} {v:Value} {xs:List Value} (h:w.ownsRow B T k v n xs):(zo7 w g).ownsRow B T k v n xs:=by
 refine⟨h.1,?_⟩;rcases h.2 with hv|⟨b,cap,cur,hv,hb,hh,q⟩
 ·exact .inl hv
 ·exact .inr ⟨b,cap,cur,hv,hb,(zpy w g b (by omega)).trans hh,q⟩
theorem zsg {w:World} {B g:Nat} (hg:g<B) {k:CfH} {x:Sm} (hx:SmOk x) (hc:CfAt w x.cf k) (hq:∃ l,OwnPq B w k.pa k.pc l∧l.map Pq.po=x.ps.map Pq.po) (hr:zer B w k.ra k.rc x.rs):CfAt (zo7 w g) x.cf k:=by
 obtain⟨l,hp,hpo⟩:=hq;have hp':OwnPq B (zo7 w g) k.pa k.pc l:=⟨zj7 hg hp.row,fun y hy=>zj7 hg (hp.dat y hy)⟩
 have hr':zer B (zo7 w g) k.ra k.rc x.rs:=zj7 hg hr
 obtain⟨hpos,hpc⟩:=hp'.at_ (fun y hy=>by
  have hy2:y.po∈x.cf.ps:=by
   show y.po∈x.ps.map Pq.po
   rw[← hpo];exact List.mem_map_of_mem hy
  obtain⟨i,hi,e⟩:=List.getElem_of_mem hy2;obtain⟨b,off,ta,tc,_,_,_,ht,hl,_⟩:=hc.pos.cell i hi;rw[e] at ht hl
  exact⟨ht.lt,hl.1⟩)
 rw[hpo] at hpos;obtain⟨hrt,hrc,hrz⟩:=hr'.at_ (fun r hr=>by have:=hx.t.rs r (by simpa [Sm.cf] using hr);simp only[maxLen];omega);exact⟨hc.wv,hrt,hpos,hc.rl,hc.pl,hc.rz⟩
theorem zsh {B:Nat} {w:World} {k:CfH} {x:Sm} {sp:Option Addr} (hs:∀ b,blk sp=some b→b<B) (hx:SmOk x) (hc:CfAt w x.cf k) (hq:∃ l,OwnPq B w k.pa k.pc l∧l.map Pq.po=x.ps.map Pq.po) (hr:zer B w k.ra k.rc x.rs):∃ w0,CfAt w0 x.cf k∧CKs w0 w sp:=by
 cases hb:blk sp with
 |none=>exact⟨w,hc,Nat.le_refl _,fun h=>h,fun b e=>by rw[hb] at e;cases e⟩
 |some g =>
  refine⟨zo7 w g,zsg (hs g hb) hx hc hq hr,Nat.le_of_eq (zkx w g),fun {b j v} h=>?_,fun b e j=>?_⟩
  ·by_cases e:b=g
   ·subst e;rw[zkw] at h;cases h
   ·rw[World.cell?_of_block (zpy w g b e)] at h;exact h
  ·rw[hb] at e;obtain rfl:=Option.some.inj e;exact zkw w _ j
theorem zqi {base b c2:Nat} {w w':World} {T:TypeId} {k n:Nat} {v:Value} {xs:List Value} {s s':Option Addr} {q:List Nat} (hT:T≠5) (r:w.ownsRow base T k v n xs) (ho:OwnB b w s c2 q) (hg:Grew w s w' s'):w'.ownsRow base T k v n xs:=by
 refine⟨r.1,?_⟩;rcases r.2 with hv|⟨g,cap,cur,hv,hb,hh,q⟩
 ·exact .inl hv
 ·exact .inr ⟨g,cap,cur,hv,hb,Grew.block hg hh (ho.ne hh hT),q⟩
theorem mapTI:Tryz.prog.underlying 77=some (.map 3 74):=by kernel_rfl
theorem zq8 {w:World} {h:StH} {x:Sm} (s:StAt w h x) (c:Ls) (hc:c∈x.cl) (hp:-9223372036854775808≤c.id∧c.id≤9223372036854775807):(Instr.lookup 77 (.map (some h.C)) (.int .i64 c.id) false).run Tryz.prog w=.ok (lsV c) w:=by
 rw[zts s c.id hp];have h1:=zp2 s.cm.rise (x:=(c.id,lsV c)) (List.mem_map.2 ⟨c,hc,rfl⟩);have h2:=zdy lid lsV c.id x.cl;rw[show(x.cl.map fun q=>(lid q,lsV q))=x.fc from rfl,h1] at h2;cases hg:zax lid c.id x.cl with
 |none=>rw[hg] at h2;cases h2
 |some d =>
  rw[hg] at h2;simp only[Option.map_some,Option.some.injEq] at h2;simp only[Option.getD_some];rw[h2]
theorem zmo {w:World} {h:StH} {x:Sm} (s:StAt w h x) (hx:SmOk x) (hl:SmL x) (hv:x.ver≤1099511627776) :
  Calls Tryz.prog 22 #[.pointer (some ⟨h.S,0,none⟩)] w fun e w'=>∃ sp n c,e=.returned (.slice sp n c)∧Hid ((zhk x).length=n)∧OwnB w.heap.size w' sp c (zhk x)∧Below w.heap.size w w':=by
 have hv0:=hl.vr;have hcn:=hx.cn;obtain⟨v,hvv⟩:∃ v:Nat,x.ver=v:=⟨x.ver.toNat,by omega⟩
 have HL:=zaa (show ∀ j,((x.cl.take j).flatMap lsB).length≤24*j from fun j=>zt hl.cl hv j);have LC:=zaa hl.cl;have hv1:=zaa hv;have SW:=zaa s;have KC:=zaa (fun (W:World) (hb:Below w.heap.size w W)=>zdh (s.later hb) hx);have OK:=zaa hx;have CL:=zaa (zkm x.cf hx.t);have EP:=zaa (show zhk x=zao v++(zaq x.cf++(zao x.cl.length++x.cl.flatMap lsB)) by unfold zhk;rw[hvv];rfl);obtain⟨c0,c1,c2,c3⟩:=s.cell;have C3H:=zaa c3;have LV:=zaa (zay v (by omega));have b1:=zaa (show Below w.heap.size w (w.alloc (.cells (zcj [v]) 3)) from(Below.refl _ _).alloc (Nat.le_refl _) _);have AN:=zaa (za3 w.heap.size (sp:=none) (n0:=0) (c:=0) (l:=[]) rfl (OwnB.ofNil _ _) w.heap.size 1 1 [v] rfl (zac w (.cells (zcj [v]) 3)) (by intro n hn;simp at hn;omega) (by simp) (by omega) (za b1).size);rw[ztx,List.nil_append] at AN;rw[show zcj [v]=#[.int .i64 (v:Int)] from rfl] at AN b1;rw[hvv] at c0;have hvI:¬ (v:Int) > 1099511627776:=by omega
 generalize hcl:x.cl.length=m at *;have HM:=zaa hcl;clear hv hl s hx hcl;go_enter Tryz.func22,Tryz.ntmps22
 go_wp2_with fail
 refine(za AN).mono ?_;rintro e V1 ⟨s1,m1,cc1,rfl,hn1,ho1,hg1⟩;have B1:=zaa (zau (Nat.le_refl _) (OwnB.ofNil _ _) hg1 (za b1).size (za b1));have O1:=zaa ho1;have CC:=zaa (za KC V1 (za B1));clear ho1 hg1 AN
 go_wp2_with fail
 refine(za CC).mono ?_;rintro e V2 ⟨k,rfl,cf,v2,pq,rt⟩;obtain⟨w0,hw0,ck⟩:=zsh (fun b hb=>(blk_lt (za O1) hb).2) (za OK) cf pq rt;have O2:=zaa ((za O1).later v2);have B2:=zaa ((za B1).trans (v2.mono (za B1).size));have AC:=zaa (zek w.heap.size hw0 (za OK).t ck (za hn1) (za O2) (by have:=za LV;omega) (za B2).size);clear cf v2 pq rt hw0 ck CC O1 B1
 go_wp2_with fail
 refine(za AC).mono ?_;rintro e V3 ⟨s3,m3,cc3,rfl,hn3,ho3,hg3⟩;have B3:=zaa (zau (Nat.le_refl _) (za O2) hg3 (za B2).size (za B2));have O3:=zaa ho3;have d3:=cell_later (za B3) c3;have ml:∀ ty,(Builtin.len_ #[77] ty #[.map (some h.C)]).run Tryz.prog V3=.ok (.int .i64 (m:Int)) V3:=fun ty=>by
  have:=((za SW).later (za B3)).cm.len mapTI ty
  rwa [show x.fc.length=m by rw[Sm.fc,List.length_map];exact za HM] at this
 have b4:=zaa (show Below V3.heap.size V3 (V3.alloc (.cells (zcj [m]) 3)) from(Below.refl _ _).alloc (Nat.le_refl _) _);have O4:=zaa ((za O3).later (za b4));have B4:=zaa ((za B3).trans ((za b4).mono (za B3).size));have AN:=zaa (za3 w.heap.size (za hn3) (za O4) V3.heap.size 1 1 [m] rfl (zac V3 (.cells (zcj [m]) 3)) (by intro n hn;simp at hn;omega) (by have h1:=za LV;have h2:=za CL;rw[List.length_append];omega) (by omega) (za B4).size);rw[ztx] at AN;rw[show zcj [m]=#[.int .i64 (m:Int)] from rfl] at AN b4 O4 B4;clear ho3 hg3 AC O2 B2
 go_wp2_with fail
 refine(za AN).mono ?_;rintro e V4 ⟨s4,m4,cc4,rfl,hn4,ho4,hg4⟩;have B5:=zaa (zau (Nat.le_refl _) (za O4) hg4 (za B4).size (za B4));have O5:=zaa ho4;have d4:=cell_later (za B5) c3;have KI:=zaa (zmf h.C V4);have SI:=zaa (zkc ((za SW).later (za B5)).cm (by rw[Sm.fc,List.length_map];have:=za HM;omega));rw[show x.fc.length=m by rw[Sm.fc,List.length_map];exact za HM,show x.fc.map (·.1)=x.cl.map lid by rw[Sm.fc,List.map_map];rfl] at SI;clear ho4 hg4 AN O4 B4 B3 O3 ml d3 c3
 go_wp2_with fail
 refine(za KI).mono ?_;rintro e V5 ⟨rfl,rfl⟩;clear KI
 go_wp2_with fail
 refine(za SI).mono ?_;rintro e V6 ⟨sk,ck,rfl,hk,v6⟩;have O6:=zaa ((za O5).later v6);have B6:=zaa ((za B5).trans (v6.mono (za B5).size));have IK:=zaa hk;clear hk v6 SI O5 B5 d4;have LL:=zaa (show(zao v++zaq x.cf++zao m).length≤110000000012 by have h1:=za LV;have h2:=za CL;have h3:=zay m (by omega);simp only[List.length_append];omega)
 go_wp2_with fail
 go_loopw [3,5,6,40] (fun b _ _ i wr=>∃ (j:Nat) (s:Option Addr) (n' c':Nat),j≤m∧b=.slice s n' c'∧i=.int .i64 (j:Int)∧Hid ((zao v++zaq x.cf++zao m++(x.cl.take j).flatMap lsB).length=n')∧Hid (OwnB w.heap.size wr s c' (zao v++zaq x.cf++zao m++(x.cl.take j).flatMap lsB))∧Hid (Below w.heap.size w wr)∧Hid (zpa V4.heap.size wr sk ck (x.cl.map lid))) (fun _ _ _ i _=>m - (intOf i).toNat)
 case atStart=>exact⟨0,s4,m4,cc4,by omega,rfl,rfl,zaa (by simpa using za hn4),zaa (by simpa using za O6),B6,IK⟩
 case round =>
  obtain⟨j,s,n',c',hj,rfl,rfl,hn,HO,HB,HK⟩:=hrel;by_cases hjm:j<m
  ·as_aux_lemma =>
   have y0:(0:Int)≤(j:Int):=by omega
   have y1:(j:Int)<(m:Int):=by omega
   have hjl:j<x.cl.length:=by rw[za HM];exact hjm
   obtain⟨g,rfl,_,_,hcell⟩:=(za HK).cell j (by rw[List.length_map];exact hjl);have p0:=hcell wr rfl;rw[List.getElem_map] at p0;have SJ:=zaa ((za SW).later (za HB));have hmem:=List.getElem_mem hjl;have hok:=za LC _ hmem;have lk:=zq8 (za SJ) _ hmem (by have:=hok.id;omega);obtain⟨hrow,hns⟩:=hok.row (za hv1);have FT:=zaa (zcb lsB x.cl j hjl);have LJ:=zaa (show(zao v++zaq x.cf++zao m++(x.cl.take j).flatMap lsB).length≤110000100000 by have h1:=za LL;have h2:=za HL j;rw[List.length_append];omega);have d3:=cell_later (za HB) (za C3H);have N4:=zaa (ns4 x.cl[j]);generalize x.cl[j]=c at *;obtain⟨ci,cs,ce,cv⟩:=c;dsimp only at *;simp only[lsV,lid] at lk p0;have bL:=zaa (show Below wr.heap.size wr (wr.alloc (.cells #[.int .i64 cs,.int .i64 ce,.int .i64 cv] 74)) from(Below.refl _ _).alloc (Nat.le_refl _) _);have XL:=zac wr (.cells #[.int .i64 cs,.int .i64 ce,.int .i64 cv] 74);have l0:=zab XL 0 (.int .i64 cs) rfl;have l1:=zab XL 1 (.int .i64 ce) rfl;have l2:=zab XL 2 (.int .i64 cv) rfl;clear XL;generalize hU:wr.alloc (.cells #[.int .i64 cs,.int .i64 ce,.int .i64 cv] 74)=U at *;have bM:=zaa (show Below U.heap.size U (U.alloc (.cells (zcj [ci.toNat,cs.toNat,ce.toNat,cv.toNat]) 3)) from(Below.refl _ _).alloc (Nat.le_refl _) _);have OM:=zaa (((za HO).later (za bL)).later (za bM));have BM:=zaa ((za HB).trans (((za bL).trans ((za bM).mono (za bL).size)).mono (za HB).size));have AN:=zaa (za3 w.heap.size (za hn) (za OM) U.heap.size 4 4 [ci.toNat,cs.toNat,ce.toNat,cv.toNat] rfl (zac U (.cells (zcj [ci.toNat,cs.toNat,ce.toNat,cv.toNat]) 3)) hns (by have h1:=za LJ;omega) (by omega) (za BM).size)
   rw[za N4] at AN;have KM:=zaa (zae (zae (za HK) (za bL)) (za bM));rw[hrow] at AN bM OM BM KM;clear hcell hmem hok hns hrow SJ
   go_wp2_with fail
   refine(za AN).mono ?_;rintro e U2 ⟨s5,m5,cc5,rfl,hn5,ho5,hg5⟩;rw[List.append_assoc (zao v++zaq x.cf++zao m),← za FT] at hn5 ho5;have B9:=zaa (zau (Nat.le_refl _) (za OM) hg5 (za BM).size (za BM));have O9:=zaa ho5;have K9:=zaa (zqi (by decide) (za KM) (za OM) hg5);clear ho5 hg5 AN KM OM BM
   go_wp2
   exact⟨⟨j+1,s5,m5,cc5,by omega,rfl,by go_num,hn5,O9,B9,K9⟩,by simp[intOf];omega⟩
  ·as_aux_lemma =>
   have y1:¬ (j:Int)<(m:Int):=by omega
   have E:=zaa (show zao v++zaq x.cf++zao m++(x.cl.take j).flatMap lsB=zhk x by rw[za EP,List.take_of_length_le (by rw[za HM];omega)];simp only[List.append_assoc]);rw[za E] at hn HO
   go_wp2
   go_ret
   exact⟨s,n',c',rfl,hn,za HO,za HB⟩
theorem ztl (a b c d:Int) (w:World):(Op.equal 38 (.agg #[.int .i64 a,.int .i64 b]) (.agg #[.int .i64 c,.int .i64 d])).run Tryz.prog w=.ok (a==c&&b==d) w:=by
 have u3:=Tryz.underlying3;have u5:=Tryz.underlying35;have a3:=Tryz.isAgg3;have a5:=Tryz.isAgg35;have z3:=Tryz.sizeOf3;have z5:=Tryz.sizeOf35;have hS:Tryz.prog.underlying 38=some (.struct (Tryz.prog.fieldsOf 38)):=by kernel_rfl
 have hp:Tryz.prog.stoodInHeld 38=false:=by kernel_rfl
 have:(Op.equalIn 10000 38 (.agg #[.int .i64 a,.int .i64 b]) (.agg #[.int .i64 c,.int .i64 d])).run Tryz.prog w=.ok (a==c&&b==d) w:=by
  rw[show(10000:Nat)=9999+1 from rfl,run_equalIn_agg w 9999 38 _ _ hS hp];simp only[Program.fieldsOf,Tryz.underlying38];go_simp
  by_cases h1:a=c <;> by_cases h2:b=d <;> simp[h1,h2]
 exact this
theorem ztw (a b:Int) (W:World):(binOp .neq 38 (.agg #[.int .i64 a,.int .i64 b]) (.agg #[.int .i64 a,.int .i64 b])).run Tryz.prog W=.ok (.bool false) W:=by
 simp[go_sem,binOp,ztl]
def zjl (w:World) (e:Ending) (w':World):Prop:=∃ h r z j,j≤150∧e=.returned (.tuple #[.pointer (some ⟨h.S,0,none⟩),.pointer (some ⟨r,0,none⟩),.bool true])∧Po8 j w.heap.size w' h z∧Ro8 j w.heap.size w' r z∧Below w.heap.size w w'
theorem zmm (a:Option Addr) (cc:Nat) (l:List CmdQ) (w:World) (hx:l.length≤maxLen) (hC:CmdsAt w a l) (hm:Mx w) :
  Calls Tryz.prog 12 #[.slice a l.length cc] w (zjl w):=by
 have MX:=zaa (fun (W:World) (hb:Below w.heap.size w W)=>hm.later hb);have HC:=zaa hC;have NC:=zaa (zg5 w);have PE:=zaa (show ∀ e W,zjl w e W→zjl w e W from fun _ _ h=>h);simp only[maxLen] at hx;clear hC hm;go_enter Tryz.func12,Tryz.ntmps12
 go_wp2_with fail
 refine(za NC).mono ?_;rintro e V1 ⟨h,rfl,s1,b1,hS,hP,hR,hCC⟩;have PO:=zaa (show Po8 0 w.heap.size V1 h sm0 from⟨⟨sm0,s1,SmE.refl _,smI0,smi0,smL0⟩,hS,hP,hR,hCC⟩);have B1:=zaa b1;have RN:=zaa (zmt V1);clear s1 b1 hS hP hR hCC NC
 go_wp2_with fail
 refine(za RN).mono ?_;rintro e V2 ⟨r,rfl,t2,b2,hr⟩;have PO2:=zaa ((za PO).later b2);have RO2:=zaa (show Ro8 0 w.heap.size V2 r sm0 from⟨⟨sm0,_,t2,SmE.refl _,smI0,smi0,smL0⟩,Nat.le_trans (za B1).size hr⟩);have B2:=zaa ((za B1).trans (b2.mono (za B1).size));clear t2 b2 hr RN PO B1
 go_wp2_with fail
 go_loopw [7] (fun i wr=>∃ (j:Nat) (z:Sm),j≤150∧i=.int .i64 (j:Int)∧Hid (Po8 j w.heap.size wr h z)∧Hid (Ro8 j w.heap.size wr r z)∧Hid (Below w.heap.size w wr)) (fun i _=>150 - (intOf i).toNat)
 case atStart=>exact⟨0,sm0,by omega,rfl,PO2,RO2,B2⟩
 case round =>
  obtain⟨j,z,hj,rfl,P,R,B⟩:=hrel;by_cases hjl:j<l.length
  ·by_cases hj1:j<150
   ·as_aux_lemma =>
    have y1:(j:Int)<(l.length:Int):=by omega
    have y2:(j:Int)<150:=by omega
    have y0:(0:Int)≤(j:Int):=by omega
    have hjj:j+1≤150:=by omega
    obtain⟨b,off,rfl,hcell⟩:=(za HC).cell j hjl;have ca:=zaa ((za HC).at_ _ (List.getElem_mem hjl));generalize l[j]=q at *;obtain⟨⟨act,cli,seq,exp,host,pre,pool,ts⟩,ta,tc⟩:=q;dsimp only at *;have hcw:∀ W:World,Below w.heap.size w W→W.cell? ⟨b,off+j*8,none⟩=some (.int .i64 act)∧W.cell? ⟨b,off+j*8+1,none⟩=some (.int .i64 cli)∧W.cell? ⟨b,off+j*8+2,none⟩=some (.int .i64 seq)∧W.cell? ⟨b,off+j*8+3,none⟩=some (.int .i64 exp)∧W.cell? ⟨b,off+j*8+4,none⟩=some (.string host)∧W.cell? ⟨b,off+j*8+5,none⟩=some (.string pre)∧W.cell? ⟨b,off+j*8+6,none⟩=some (.string pool)∧W.cell? ⟨b,off+j*8+7,none⟩=some (.slice ta ts.length tc):=fun W hb=>⟨cell_later hb (hcell 0 (by omega)),cell_later hb (hcell 1 (by omega)),cell_later hb (hcell 2 (by omega)),cell_later hb (hcell 3 (by omega)),cell_later hb (hcell 4 (by omega)),cell_later hb (hcell 5 (by omega)),cell_later hb (hcell 6 (by omega)),cell_later hb (hcell 7 (by omega))⟩
    have CE:=zaa hcw;have bD:=zaa ((za B).trans (show Below w.heap.size wr wr.drew from((Below.refl _ _).drew).mono (za B).size));have CW:=zaa ((za CE) _ (za bD));have SH:=zaa (fun W=>zhf ⟨act,cli,seq,exp,host,pre,pool,ts⟩ ta tc W (za ca).tn.1 (za ca).th (za ca).tp (za ca).tl);have CT:=zaa (fun (W:World) (hb:Below w.heap.size w W)=>(za ca).later hb);have PD:=zaa (fun (W:World) (p:Po8 j w.heap.size W h z) (hb:Below w.heap.size w W)=>p.do (by omega) ⟨act,cli,seq,exp,host,pre,pool,ts⟩ ta tc (za CT W hb) (za MX W hb));have RD:=zaa (fun (W:World) (p:Ro8 j w.heap.size W r z) (hb:Below w.heap.size w W)=>p.do (by omega) ⟨act,cli,seq,exp,host,pre,pool,ts⟩ ta tc (za CT W hb));unfold zar at SH PD RD;dsimp only at SH PD RD;have PW:=zaa ((za P).later (show Below wr.heap.size wr wr.drew from(Below.refl _ _).drew));have RW:=zaa ((za R).later (show Below wr.heap.size wr wr.drew from(Below.refl _ _).drew));have BW:=bD;clear hcell hcw ca P R;by_cases hs:zji ⟨act,cli,seq,exp,host,pre,pool,ts⟩=true
    ·rw[hs] at SH;generalize doS ⟨act,cli,seq,exp,host,pre,pool,ts⟩ none 0 z=rr at *;obtain⟨⟨er,vr⟩,z'⟩:=rr;dsimp only at PD RD;have NE:=ztw er vr;clear hs
     go_wp2_with fail
     refine wp_region_held_drew (S:=fun W=>W.cell? ⟨b,off+j*8,none⟩=some (.int .i64 act)∧W.cell? ⟨b,off+j*8+1,none⟩=some (.int .i64 cli)∧W.cell? ⟨b,off+j*8+2,none⟩=some (.int .i64 seq)∧W.cell? ⟨b,off+j*8+3,none⟩=some (.int .i64 exp)∧W.cell? ⟨b,off+j*8+4,none⟩=some (.string host)∧W.cell? ⟨b,off+j*8+5,none⟩=some (.string pre)∧W.cell? ⟨b,off+j*8+6,none⟩=some (.string pool)∧W.cell? ⟨b,off+j*8+7,none⟩=some (.slice ta ts.length tc)) (by kernel_rfl) ?_ (fun hHeld=>?_)
     ·try dsimp only
      exact za CW
     refine hT 0 ?_;refine hT 1 ?_;refine hT 2 ?_;refine hT 3 ?_;refine wpAnyH_ready (rs:=[4]) (by kernel_rfl) (by simp) ?_;refine AllReadyH.cons rfl (fun K hK=>?_) ?_
     ·go_simp
      go_at_call 15
      refine(za SH _).mono ?_;rintro e U1 ⟨rfl,u1⟩;have PW:=zaa ((za PW).later u1);have RW:=zaa ((za RW).later u1);have BW:=zaa ((za BW).trans (u1.mono (za BW).size));have CW:=zaa ((za CE) _ (za BW));clear u1
      go_wp2_with fail
      refine hK.out _ _ ?_ (fun hHeld=>?_)
      ·try dsimp only
       exact za CW
      clear hK K;refine hP ?_;refine hT 5 ?_;refine hT 6 ?_;refine hT 7 ?_;refine hT 8 ?_;refine hT 9 ?_;refine hT 10 ?_;refine hT 12 ?_;refine hT 13 ?_;refine hT 14 ?_;refine hT 15 ?_;refine hT 16 ?_;refine wpAnyH_ready (rs:=[11]) (by kernel_rfl) (by simp) ?_;refine AllReadyH.cons rfl (fun K hK=>?_) ?_
      ·go_simp
       go_at_call 18
       refine(za PD _ (za PW) (za BW)).mono ?_;rintro e U2 ⟨rfl,p2,u2,k2,_⟩;have PX:=zaa p2;have RW:=zaa (k2 _ _ _ _ (za RW));have BW:=zaa ((za BW).trans u2);have CW:=zaa ((za CE) _ (za BW));clear p2 u2 k2 PW;have PW:=PX;clear PX
       go_wp2_with fail
       refine hK.out _ _ ?_ (fun hHeld=>?_)
       ·try dsimp only
        exact za CW
       clear hK K;refine hP ?_;refine wpAnyH_ready (rs:=[17]) (by kernel_rfl) (by simp) ?_;refine AllReadyH.cons rfl (fun K hK=>?_) ?_
       ·go_simp
        go_at_call 30
        refine(za RD _ (za RW) (za BW)).mono ?_;rintro e U3 ⟨rfl,p3,u3,k3⟩;have RX:=zaa p3;have PW:=zaa (k3 _ _ _ _ (za PW));have BW:=zaa ((za BW).trans u3);have CW:=zaa ((za CE) _ (za BW));clear p3 u3 k3 RW;have RW:=RX;clear RX
        go_wp2_with fail
        refine hK.out _ _ ?_ (fun hHeld=>?_)
        ·try dsimp only
         exact za CW
        clear hK K;refine hP ?_;refine hT 18 ?_;refine hT 19 ?_;refine wpAnyH_done (by kernel_rfl) ?_ _
        go_wp2
        exact⟨⟨j+1,z',hjj,by go_num,PW,RW,BW⟩,by simp[intOf];omega⟩
       exact AllReadyH.nil
      exact AllReadyH.nil
     exact AllReadyH.nil
    ·have hs0:zji ⟨act,cli,seq,exp,host,pre,pool,ts⟩=false:=by simpa using hs
     rw[hs0] at SH;clear hs hs0
     go_wp2_with fail
     refine wp_region_held_drew (S:=fun W=>W.cell? ⟨b,off+j*8,none⟩=some (.int .i64 act)∧W.cell? ⟨b,off+j*8+1,none⟩=some (.int .i64 cli)∧W.cell? ⟨b,off+j*8+2,none⟩=some (.int .i64 seq)∧W.cell? ⟨b,off+j*8+3,none⟩=some (.int .i64 exp)∧W.cell? ⟨b,off+j*8+4,none⟩=some (.string host)∧W.cell? ⟨b,off+j*8+5,none⟩=some (.string pre)∧W.cell? ⟨b,off+j*8+6,none⟩=some (.string pool)∧W.cell? ⟨b,off+j*8+7,none⟩=some (.slice ta ts.length tc)) (by kernel_rfl) ?_ (fun hHeld=>?_)
     ·try dsimp only
      exact za CW
     refine hT 0 ?_;refine hT 1 ?_;refine hT 2 ?_;refine hT 3 ?_;refine hO 4 (fun K hK=>?_);go_simp
     first
      |(go_at_call 15
        refine(za SH _).mono ?_;rintro e U1 ⟨rfl,u1⟩;have PW:=zaa ((za PW).later u1);have RW:=zaa ((za RW).later u1);have BW:=zaa ((za BW).trans (u1.mono (za BW).size));have CW:=zaa ((za CE) _ (za BW))
        clear u1)
     go_wp2_with fail
     refine hK.out _ _ ?_ (fun hHeld=>?_)
     ·try dsimp only
      exact za CW
     clear hK K;refine hP ?_;refine hT 5 ?_;refine hN 6 ?_;refine hN 7 ?_;refine hN 8 ?_;refine hN 9 ?_;refine hN 10 ?_;refine hN 12 ?_;refine hN 13 ?_;refine hN 14 ?_;refine hN 15 ?_;refine hN 16 ?_;refine zdv 11 (by kernel_rfl) rfl (by rfl) (by assumption) ?_;refine hP ?_;refine zdv 17 (by kernel_rfl) rfl (by rfl) (by assumption) ?_;refine hP ?_;refine hN 18 ?_;refine hT 19 ?_;refine wpAnyH_done (by kernel_rfl) ?_ _
     go_wp2
     exact⟨⟨j+1,z,hjj,by go_num,zaa ((za PW).mono (Nat.le_succ j)),zaa ((za RW).mono (Nat.le_succ j)),BW⟩,by simp[intOf];omega⟩
   ·as_aux_lemma =>
    have y1:(j:Int)<(l.length:Int):=by omega
    have y2:¬ (j:Int)<150:=by omega
    go_wp2_with fail
    go_ret3
    exact za PE _ _ ⟨h,r,z,j,hj,rfl,za P,za R,za B⟩
  ·as_aux_lemma =>
   have y1:¬ (j:Int)<(l.length:Int):=by omega
   go_wp2_with fail
   go_ret3
   exact za PE _ _ ⟨h,r,z,j,hj,rfl,za P,za R,za B⟩
theorem Po8.conf {j b:Nat} {w:World} {h:StH} {z:Sm} (p:Po8 j b w h z) (hj:j≤800) :
  Calls Tryz.prog 19 #[.pointer (some ⟨h.S,0,none⟩)] w fun e w'=>∃ k,e=.returned (zgv z.cf k)∧CfAt w' z.cf k∧Below w.heap.size w w'∧(∃ l,OwnPq w.heap.size w' k.pa k.pc l∧l.map Pq.po=z.ps.map Pq.po)∧zer w.heap.size w' k.ra k.rc z.rs:=by
 obtain⟨x,h1,h2,h3,h4,h5⟩:=p.ex;have:=zdh h1 (h4.ok (by omega));rw[h2.cf,h2.rs,h2.ps] at this;exact this
theorem Po8.put {j b:Nat} {w:World} {h:StH} {z:Sm} (p:Po8 j b w h z) (hj:j≤800) :
  Calls Tryz.prog 22 #[.pointer (some ⟨h.S,0,none⟩)] w fun e w'=>∃ sp n c,e=.returned (.slice sp n c)∧Hid ((zhk z).length=n)∧OwnB w.heap.size w' sp c (zhk z)∧Below w.heap.size w w':=by
 obtain⟨x,h1,h2,h3,h4,h5⟩:=p.ex;have:=zmo h1 (h4.ok (by omega)) h5 (by have:=h4.vr;omega);rw[h2.put] at this;exact this
end
section
open Go.ChangeShapes Go.WideShapes Go.ChangeAt Go.RowKit Go.Maps
section
variable {κ α:Type} [Kord κ]
theorem Kl.of_map {β:Type} {kf:α→κ} {kg:β→κ} {l:List α} {m:List β} (h:Kl kf l) (e:m.map kg=l.map kf):Kl kg m:=by
 unfold Kl at *;have h1:(l.map kf).Pairwise (fun a b=>Kord.lt a b):=List.pairwise_map.2 ((List.pairwise_map.1 h).imp (fun {a b} q=>q));rw[← e] at h1;exact List.pairwise_map.2 ((List.pairwise_map.1 h1).imp (fun {a b} q=>q))
end
theorem SmE.smI {x y:Sm} (h:SmE x y) (i:SmI y):SmI x:=by
 have e:x.ps.map qnm=y.ps.map qnm:=by
  have:=congrArg (List.map pnm) h.ps;rw[List.map_map,List.map_map] at this;exact this
 refine⟨i.kp.of_map e,by rw[h.rs];exact i.kr,by rw[h.cl];exact i.kc,by rw[h.cf];exact i.sz,by rw[h.len];exact i.pn,by rw[h.rs];exact i.rn,fun r hr=>?_⟩;rw[h.rs] at hr;obtain⟨p,hp,e2⟩:=i.th r hr;have hm:qnm p∈x.ps.map qnm:=by rw[e];exact List.mem_map.2 ⟨p,hp,rfl⟩
 obtain⟨q,hq,e3⟩:=List.mem_map.1 hm;exact⟨q,hq,e3.trans e2⟩
theorem SmE.smi {j:Nat} {x y:Sm} (h:SmE x y) (i:Smi j y):Smi j x:=by
 refine⟨by rw[h.len];exact i.pn,by rw[h.rs];exact i.rn,by rw[h.cl];exact i.cn,by rw[h.ver];exact i.vr,by rw[h.rs];exact i.rs,fun p hp=>?_⟩;have hm:p.po∈y.ps.map Pq.po:=by rw[← h.ps];exact List.mem_map.2 ⟨p,hp,rfl⟩
 obtain⟨q,hq,e⟩:=List.mem_map.1 hm;have:=i.ps q hq;rw[e] at this;exact this
theorem SmE.smL {x y:Sm} (h:SmE x y) (i:SmL y):SmL x:=⟨by rw[h.ver];exact i.vr,by rw[h.cl,h.ver];exact i.cl,fun p hp=>by
 have hm:p.po∈y.ps.map Pq.po:=by rw[← h.ps];exact List.mem_map.2 ⟨p,hp,rfl⟩
 obtain⟨q,hq,e⟩:=List.mem_map.1 hm;have:=i.pv q hq;rw[e] at this
 exact this,by rw[h.rs];exact i.rv⟩
end
section
open Go.ChangeShapes Go.WideShapes Go.ChangeAt Go.RowKit
theorem zr1:∀ (l:List Ls) (b:Int),Kl lid l→(∀ x∈l,b≤x.id∧x.id≤32)→b≤33→(l.length:Int)≤33 - b
 |[],b,_,_,hb=>by simp;omega
 |x::l,b,hk,hx,hb=>by
  have h1:=hx x (by simp)
  have ih:=zr1 l (x.id+1) hk.tail (fun y hy=>by
   have h2:x.id<y.id:=hk.head y hy;have h3:=hx y (by simp[hy])
   omega) (by omega)
  rw[List.length_cons];omega
theorem cl_32 {x:Sm} (hi:SmI x) (hl:SmL x):x.cl.length≤32:=by
 have:=zr1 x.cl 1 hi.kc (fun c hc=>⟨(hl.cl c hc).id.1,(hl.cl c hc).id.2⟩) (by omega);omega
theorem zrx {e:Int} (h:zls e):zlr e=true:=by
 unfold zlr;exact decide_eq_true h
theorem zra {j:Nat} {x:Sm} (hi:SmI x) (hs:Smi j x) (hl:SmL x):zqv x.ver x.cf.ps x.cf.rs x.cl ((zaq x.cf).length:Int)=true:=by
 have e1:x.cf.ps.map pnm=x.ps.map qnm:=by simp only[Sm.cf,List.map_map];rfl
 have k1:Kl pnm x.cf.ps:=by rw[zc7,e1,← zc7];exact hi.kp
 unfold zqv;simp only[Bool.and_eq_true,List.all_eq_true,decide_eq_true_eq];refine⟨(zc7 _ _).1 k1,(zc7 _ _).1 hi.kr,(zc7 _ _).1 hi.kc,by have:=hi.sz;omega,fun p hp=>?_,fun r hr=>?_,fun c hc=>?_⟩
 ·obtain⟨q,hq,rfl⟩:=List.mem_map.1 hp;obtain⟨v1,v2,v3⟩:=hl.pv q hq;unfold zda;rw[v1,v2,v3];rfl
 ·obtain⟨v1,v2⟩:=hl.rv r hr;refine⟨v1,v2,?_⟩;obtain⟨p,hp,e⟩:=hi.th r hr;rw[zea,List.any_eq_true];exact⟨p.po,List.mem_map.2 ⟨p,hp,rfl⟩,decide_eq_true e⟩
 ·have h:=hl.cl c hc;unfold zhh;rw[zrx h.er,decide_eq_true h.id,decide_eq_true (show 0<c.seq by have:=h.sq;omega),decide_eq_true h.vr.2];rfl
theorem zt4 {l:List Tgt} (h:zd8 l=true):∀ t∈l,t.2<18446744073709551616:=by
 intro t ht;unfold zd8 at h;have:=List.all_eq_true.1 h t ht;unfold wtB at this;have:=of_decide_eq_true this;omega
theorem zsr {j:Nat} {x:Sm} (hi:SmI x) (hs:Smi j x) (hl:SmL x) (hv:x.ver≤1099511627776) {n:Nat} {ps:List Po} {rs:List Rt} {cl:List Ls} {k1 k3 k4 e4:Nat} (h:LdK (zhk x) n ps rs cl k1 k3 k4 e4) :
  (n:Int)=x.ver∧ps=x.cf.ps∧rs=x.rs∧cl=x.cl∧zm (zhk x) k4 e4=0∧(k3:Int) - (k1:Int)=((zaq x.cf).length:Int):=by
 have hve:=hl.vr
 obtain⟨j1,j2,j3,q1,q2,q3,q4,q5⟩:=zp6 x ⟨hve,hv⟩ (by simpa [Sm.cf] using hi.pn) (fun y hy=>by
   obtain⟨q,hq,rfl⟩:=List.mem_map.1 hy;obtain⟨h1,h2,h3⟩:=hs.ps q hq
   exact⟨h1,h2,h3,zt4 (hl.pv q hq).2.2⟩) hi.rn (fun y hy=>hs.rs y hy) (cl_32 hi hl) (fun y hy=>by
   have h1:=hl.cl y hy;have h2:=h1.er.le;have h3:=h1.id;have h4:=h1.sq;have h5:=h1.vr;unfold zqu
   omega)
 obtain⟨e1,k2,e2,e3,p1,p2,p3,p4⟩:=h.eq;rw[q1] at p1;simp only[Prod.mk.injEq] at p1;obtain⟨rfl,rfl,rfl⟩:=p1;rw[q2] at p2;simp only[Prod.mk.injEq] at p2;obtain⟨rfl,rfl,rfl⟩:=p2;rw[q3] at p3;simp only[Prod.mk.injEq] at p3;obtain⟨rfl,rfl,rfl⟩:=p3;rw[q4] at p4;simp only[Prod.mk.injEq] at p4;obtain⟨rfl,rfl,rfl⟩:=p4;refine⟨by omega,rfl,rfl,rfl,?_,?_⟩
 ·unfold zm;rw[if_neg (by omega)]
 ·have hle:j1≤j3:=by
   rcases Nat.lt_or_ge j3 j1 with h1|h1
   ·exfalso
    have h2:(zaq x.cf).length=0:=by omega
    unfold zaq at h2;simp only[List.length_append] at h2;have:=(zb x.cf.ps.length).1;omega
   ·exact h1
  omega
theorem Po8.load {j b:Nat} {w0 w:World} {h:StH} {z:Sm} (p:Po8 j b w0 h z) (hj:j≤800) {base:Nat} {sp:Option Addr} {n c:Nat} (hn:(zhk z).length=n) (ho:OwnB base w sp c (zhk z)) (hm:Mx w) :
  Calls Tryz.prog 26 #[.slice sp n c] w fun e w'=>∃ h2,e=.returned (.tuple #[.pointer (some ⟨h2.S,0,none⟩),.int .i64 0])∧Po8 j w.heap.size w' h2 z∧Below w.heap.size w w':=by
 obtain⟨x,s1,s2,s3,s4,s5⟩:=p.ex;have s2':=s2.symm;have i1:=s2'.smI s3;have i2:=s2'.smi s4;have i3:=s2'.smL s5;have hv:z.ver≤1099511627776:=by have:=i2.vr;omega
 subst hn;refine(zoi sp c (zhk z) w ho.cap.1 ho.cap.2 ho.bytes ho.cap0 hm).mono ?_;rintro e w' ⟨n,ps,rs,cl,k1,k3,k4,e4,ld,hb,hr⟩;obtain⟨d1,rfl,rfl,rfl,d5,d6⟩:=zsr i1 i2 i3 hv ld;have hmk:zqv z.ver z.cf.ps z.rs z.cl ((zaq z.cf).length:Int)=true:=zra i1 i2 i3;rw[d1,d6,d5,hmk] at hr;rcases hr with⟨q,_⟩|⟨_,q,_⟩|⟨_,_,h2,y,rfl,sy,se,sp2,nw⟩
 ·exact absurd rfl q
 ·cases q
 ·have ey:SmE y z:=⟨se.ver,se.rs,se.cl,sp2⟩
  exact⟨h2,rfl,⟨⟨y,sy,ey,ey.smI i1,ey.smi i2,ey.smL i3⟩,nw⟩,hb⟩
def zi3 (h h2:StH):Prop:=(h2.S≠h.S∧h2.S≠h.P∧h2.S≠h.R∧h2.S≠h.C)∧(h2.P≠h.S∧h2.P≠h.P∧h2.P≠h.R∧h2.P≠h.C)∧(h2.R≠h.S∧h2.R≠h.P∧h2.R≠h.R∧h2.R≠h.C)∧(h2.C≠h.S∧h2.C≠h.P∧h2.C≠h.R∧h2.C≠h.C)
theorem zi3.symm {h h2:StH} (a:zi3 h h2):zi3 h2 h:=by
 obtain⟨⟨a1,a2,a3,a4⟩,⟨b1,b2,b3,b4⟩,⟨c1,c2,c3,c4⟩,⟨d1,d2,d3,d4⟩⟩:=a;exact⟨⟨a1.symm,b1.symm,c1.symm,d1.symm⟩,⟨a2.symm,b2.symm,c2.symm,d2.symm⟩,⟨a3.symm,b3.symm,c3.symm,d3.symm⟩,⟨a4.symm,b4.symm,c4.symm,d4.symm⟩⟩
theorem Po8.apart {i j b b2:Nat} {w w':World} {h h2:StH} {z z2:Sm} (p:Po8 i b w h z) (q:Po8 j b2 w' h2 z2) (hb:w.heap.size≤b2):zi3 h h2:=by
 obtain⟨x,s,_⟩:=p.ex;obtain⟨l1,l2,l3,l4⟩:=s.lts;obtain⟨n1,n2,n3,n4⟩:=q.nw;refine⟨⟨?_,?_,?_,?_⟩,⟨?_,?_,?_,?_⟩,⟨?_,?_,?_,?_⟩,⟨?_,?_,?_,?_⟩⟩ <;> omega
theorem Po8.beside {i b:Nat} {w w':World} {h h2:StH} {z:Sm} {x:Sm} (p:Po8 i b w h2 z) (s:StAt w h x) (c:Chg h w w') (a:zi3 h h2):Po8 i b w' h2 z:=by
 obtain⟨y,t,g⟩:=p.ex;obtain⟨⟨a1,a2,a3,a4⟩,⟨b1,b2,b3,b4⟩,⟨c1,c2,c3,c4⟩,⟨d1,d2,d3,d4⟩⟩:=a;obtain⟨l1,l2,l3,l4⟩:=t.lts;exact⟨⟨y,⟨(c.block _ l1 a1 a2 a3 a4).trans t.hd,t.pm.same (c.block _ l2 b1 b2 b3 b4),t.rm.same (c.block _ l3 c1 c2 c3 c4),t.cm.same (c.block _ l4 d1 d2 d3 d4),fun q hq=>s.tgsC c (t.tg q hq),t.ne⟩,g⟩,p.nw⟩
theorem Po8.low {j b b':Nat} {w:World} {h:StH} {z:Sm} (p:Po8 j b w h z) (hb:b'≤b):Po8 j b' w h z:=⟨p.ex,by have:=p.nw;omega⟩
end
end Go.Proofs.YtjcjleaicjhpeaaGreatDoor
