/- Both logs, or none: a deed on both (written by wip/mkwzv.py). -/
import Derived.Test.YtofllbpfajppeaaGreatDoorB37
import Derived.Test.YtofllbpfajppeaaGreatDoorB32
import Derived.Test.YtofllbpfajppeaaGreatDoorB36
import Derived.Test.YtofllbpfajppeaaGreatDoorB20
set_option linter.unusedVariables false
set_option maxRecDepth 20000
set_option maxHeartbeats 16000000
namespace Go.Proofs.YtofllbpfajppeaaGreatDoor
section
open Go.ChangeShapes Go.WideShapes Go.ChangeAt Go.RowKit Go.Maps
structure Pr (base B d R:Nat) (lp rp:Option Addr) (T:(Nat→Prop)→World→Prop):Prop where
 le:∀ {C w},T C w→base≤w.heap.size
 lt:∀ {C w g},T C w→C g→g<w.heap.size
 inB:∀ {C w},T C w→C B
 bx:∀ {C w},T C w→w.heap[B]? = some (.cells (zd7 d R lp rp) 43 (0,0))
 later:∀ {C w w'},T C w→Below w.heap.size w w'→T C w'
 more:∀ {C w w'},T C w→Below w.heap.size w w'→T (fun g=>C g∨(w.heap.size≤g∧g<w'.heap.size)) w'
 sub:∀ {C D:Nat→Prop} {w},T C w→(∀ g,D g→C g)→D B→T D w
 grow:∀ {C w w'},T C w→(∀ g,g<w.heap.size→(¬ C g∨g=B)→w'.heap[g]? = w.heap[g]?)→Below base w w'→T C w'
section
variable {Bv Cv:Nat→Prop} {base B d R:Nat} {lp rp:Option Addr} {T T0 T1 T2:(Nat→Prop)→World→Prop} {w w' W1:World} {es:List EntI} {kd ht hv mi mt:Int} {kp:List Int} {h:WdH}
theorem Pr.asd (p:Pr base B d R lp rp T) (t:T Bv w) (u:Below w.heap.size w w'):Asd Bv base w w':=Asd.of (fun g hg=>p.lt t hg) (p.le t) u
theorem zav {V:World} {d R B:Nat} {lp rp:Option Addr} (hb:V.heap[B]? = some (.cells (zd7 d R lp rp) 43 (0,0))):V.cell? ⟨B,0,none⟩=some (.pointer (some ⟨d,0,none⟩))∧V.cell? ⟨B,1,none⟩=some (.pointer lp)∧V.cell? ⟨B,2,none⟩=some (.pointer (some ⟨R,0,none⟩))∧V.cell? ⟨B,3,none⟩=some (.pointer rp):=⟨zab hb 0 _ rfl,zab hb 1 _ rfl,zab hb 2 _ rfl,zab hb 3 _ rfl⟩
def zwe (T:(Nat→Prop)→World→Prop) (base:Nat) (r:Nat) (C:Nat→Prop) (w:World) (e:Ending) (w':World):Prop:=e=.returned (.int .i64 (r:Int))∧T C w'∧Asd C base w w'
def zfa (T:(Nat→Prop)→World→Prop) (base B:Nat) (Bv:Nat→Prop) (w:World) (e:Ending) (w':World):Prop:=e=.returned (.bool true)∧T Bv w'∧Below base w w'∧∀ g,Bv g→g≠B→w'.heap[g]? = w.heap[g]?
theorem zfa.of (p0:Pr base B d R lp rp T0) (p2:Pr base B d R lp rp T2) (t0:T0 Bv w) (u1:Below w.heap.size w W1) (hC:∀ g,Bv g→Cv g) (t:T2 Cv w') (a:Asd Cv base W1 w'):zfa T2 base B Bv w (.returned (.bool true)) w' :=
 ⟨rfl,p2.sub t hC (p0.inB t0),(u1.mono (p0.le t0)).trans a.bel,fun g hg _=>(a.av g (hC g hg)).trans (u1.block g (p0.lt t0 hg))⟩
theorem zms (p0:Pr base B d R lp rp T0) (p1:Pr base B d R lp rp T1) (p2:Pr base B d R lp rp T2) (t:T0 Bv w) (r:Nat) (hl:∀ C W,T0 C W→Calls Tryz.prog 31 #[.pointer lp,.agg #[.int .i64 ht,.int .i64 hv]] W (zwe T1 base r C W)) (hr:∀ C W,T1 C W→Calls Tryz.prog 32 #[.pointer rp,.agg #[.int .i64 ht,.int .i64 hv]] W (zwe T2 base r C W)) :
  Calls Tryz.prog 10 #[.pointer (some ⟨B,0,none⟩),.agg #[.int .i64 1,.slice h.ep es.length h.ec,.int .i64 ht,.int .i64 hv,.int .i64 mi,.int .i64 mt,.slice h.kp kp.length h.kc]] w (zfa T2 base B Bv w):=by
 have U1:=zaa (show Below w.heap.size w (w.alloc (.cells #[.int .i64 1,.slice h.ep es.length h.ec,.int .i64 ht,.int .i64 hv,.int .i64 mi,.int .i64 mt,.slice h.kp kp.length h.kc] 34)) from(Below.refl w.heap.size w).alloc (Nat.le_refl _) _);have X1:=zaa (zad w (.cells #[.int .i64 1,.slice h.ep es.length h.ec,.int .i64 ht,.int .i64 hv,.int .i64 mi,.int .i64 mt,.slice h.kp kp.length h.kc] 34));have T1':=zaa (p0.more t (za U1));have TT0:=zaa t;have HL:=zaa hl;have HR:=zaa hr;clear t hl hr;go_enter Tryz.func10,Tryz.ntmps10
 go_wp2_with fail
 generalize w.alloc _=W1 at *;obtain⟨Cv,hCv⟩:∃ P:Nat→Prop,P=(fun g=>Bv g∨(w.heap.size≤g∧g<W1.heap.size)):=⟨_,rfl⟩
 rw[← hCv] at T1';have CD:=zaa (show Cv w.heap.size from by rw[hCv];exact .inr ⟨Nat.le_refl _,(Array.getElem?_eq_some_iff.1 (za X1)).1⟩);have CB:=zaa (show ∀ g,Bv g→Cv g from fun g hg=>by rw[hCv];exact .inl hg);clear hCv;have TA:=zaa (p0.later (za T1') ((Below.refl W1.heap.size W1).drew));have AA:=zaa (p0.asd (za T1') ((Below.refl W1.heap.size W1).drew));have XB:=zaa (p0.bx (za TA));have XD:=zaa (show W1.drew.heap[w.heap.size]? = some (.cells #[.int .i64 1,.slice h.ep es.length h.ec,.int .i64 ht,.int .i64 hv,.int .i64 mi,.int .i64 mt,.slice h.kp kp.length h.kc] 34 (0,0)) from za X1);refine wp_region_held_drew (S:=fun u=>u.cell? ⟨B,1,none⟩=some (.pointer lp)∧u.cell? ⟨B,3,none⟩=some (.pointer rp)∧u.cell? ⟨w.heap.size,2,none⟩=some (.int .i64 ht)∧u.cell? ⟨w.heap.size,3,none⟩=some (.int .i64 hv)) (by kernel_rfl) ?_ (fun hHeld=>?_)
 ·try dsimp only
  exact⟨(zav (za XB)).2.1,(zav (za XB)).2.2.2,zab (za XD) 2 _ rfl,zab (za XD) 3 _ rfl⟩
 refine hT 0 ?_;refine hT 1 ?_;refine hT 2 ?_;refine hT 3 ?_;refine hT 4 ?_;refine hT 5 ?_;refine hT 7 ?_;refine hT 8 ?_;refine hT 9 ?_;refine hT 10 ?_;refine hT 11 ?_;refine hT 12 ?_;refine hO 6 (fun K hK=>?_);go_simp
 first
  |(have hV:ND=ND:=rfl;clear hV;refine(za HR _ _ (za TA)).mono ?_;rintro e V ⟨rfl,tt,aa⟩;have TA:=zaa tt;have AA:=zaa ((za AA).trans aa);have XD:=zaa ((aa.av _ (za CD)).trans (za XD));have XB:=zaa (p2.bx tt);clear tt aa)
  |(refine(za HL _ _ (za TA)).mono ?_;rintro e V ⟨rfl,tt,aa⟩;have ND:=zaa (rfl:V=V);have TA:=zaa tt;have AA:=zaa ((za AA).trans aa);have XD:=zaa ((aa.av _ (za CD)).trans (za XD));have XB:=zaa (p1.bx tt);clear tt aa)
 go_wp2_with fail
 refine hK.out _ _ ?_ (fun hHeld=>?_)
 ·try dsimp only
  exact⟨(zav (za XB)).2.1,(zav (za XB)).2.2.2,zab (za XD) 2 _ rfl,zab (za XD) 3 _ rfl⟩
 clear hK K;refine hP ?_;refine hO 13 (fun K hK=>?_);go_simp
 first
  |(have hV:ND=ND:=rfl;clear hV;refine(za HR _ _ (za TA)).mono ?_;rintro e V ⟨rfl,tt,aa⟩;have TA:=zaa tt;have AA:=zaa ((za AA).trans aa);have XD:=zaa ((aa.av _ (za CD)).trans (za XD));have XB:=zaa (p2.bx tt);clear tt aa)
  |(refine(za HL _ _ (za TA)).mono ?_;rintro e V ⟨rfl,tt,aa⟩;have ND:=zaa (rfl:V=V);have TA:=zaa tt;have AA:=zaa ((za AA).trans aa);have XD:=zaa ((aa.av _ (za CD)).trans (za XD));have XB:=zaa (p1.bx tt);clear tt aa)
 go_wp2_with fail
 refine hK.out _ _ ?_ (fun hHeld=>?_)
 ·try dsimp only
  exact⟨(zav (za XB)).2.1,(zav (za XB)).2.2.2,zab (za XD) 2 _ rfl,zab (za XD) 3 _ rfl⟩
 clear hK K;refine hP ?_;refine hT 14 ?_;refine hT 15 ?_;refine wpAnyH_done (by kernel_rfl) ?_ _;have FE:=zaa (zfa.of p0 p2 (za TT0) (za U1) (za CB) (za TA) (za AA))
 go_wp2_with fail
 go_ret
 exact za FE
theorem zmt (p0:Pr base B d R lp rp T0) (p1:Pr base B d R lp rp T1) (p2:Pr base B d R lp rp T2) (t:T0 Bv w) (r:Nat) (hl:∀ C W,T0 C W→Calls Tryz.prog 18 #[.pointer lp] W (zwe T1 base r C W)) (hr:∀ C W,T1 C W→Calls Tryz.prog 33 #[.pointer rp] W (zwe T2 base r C W)) :
  Calls Tryz.prog 10 #[.pointer (some ⟨B,0,none⟩),.agg #[.int .i64 2,.slice h.ep es.length h.ec,.int .i64 ht,.int .i64 hv,.int .i64 mi,.int .i64 mt,.slice h.kp kp.length h.kc]] w (zfa T2 base B Bv w):=by
 have U1:=zaa (show Below w.heap.size w (w.alloc (.cells #[.int .i64 2,.slice h.ep es.length h.ec,.int .i64 ht,.int .i64 hv,.int .i64 mi,.int .i64 mt,.slice h.kp kp.length h.kc] 34)) from(Below.refl w.heap.size w).alloc (Nat.le_refl _) _);have X1:=zaa (zad w (.cells #[.int .i64 2,.slice h.ep es.length h.ec,.int .i64 ht,.int .i64 hv,.int .i64 mi,.int .i64 mt,.slice h.kp kp.length h.kc] 34));have T1':=zaa (p0.more t (za U1));have TT0:=zaa t;have HL:=zaa hl;have HR:=zaa hr;clear t hl hr;go_enter Tryz.func10,Tryz.ntmps10
 go_wp2_with fail
 generalize w.alloc _=W1 at *;obtain⟨Cv,hCv⟩:∃ P:Nat→Prop,P=(fun g=>Bv g∨(w.heap.size≤g∧g<W1.heap.size)):=⟨_,rfl⟩
 rw[← hCv] at T1';have CD:=zaa (show Cv w.heap.size from by rw[hCv];exact .inr ⟨Nat.le_refl _,(Array.getElem?_eq_some_iff.1 (za X1)).1⟩);have CB:=zaa (show ∀ g,Bv g→Cv g from fun g hg=>by rw[hCv];exact .inl hg);clear hCv;have TA:=zaa (p0.later (za T1') ((Below.refl W1.heap.size W1).drew));have AA:=zaa (p0.asd (za T1') ((Below.refl W1.heap.size W1).drew));have XB:=zaa (p0.bx (za TA));have XD:=zaa (show W1.drew.heap[w.heap.size]? = some (.cells #[.int .i64 2,.slice h.ep es.length h.ec,.int .i64 ht,.int .i64 hv,.int .i64 mi,.int .i64 mt,.slice h.kp kp.length h.kc] 34 (0,0)) from za X1);refine wp_region_held_drew (S:=fun u=>u.cell? ⟨B,1,none⟩=some (.pointer lp)∧u.cell? ⟨B,3,none⟩=some (.pointer rp)) (by kernel_rfl) ?_ (fun hHeld=>?_)
 ·try dsimp only
  exact⟨(zav (za XB)).2.1,(zav (za XB)).2.2.2⟩
 refine hT 0 ?_;refine hT 1 ?_;refine hT 2 ?_;refine hT 3 ?_;refine hT 5 ?_;refine hT 6 ?_;refine hT 7 ?_;refine hT 8 ?_;refine hO 4 (fun K hK=>?_);go_simp
 first
  |(have hV:ND=ND:=rfl;clear hV;refine(za HR _ _ (za TA)).mono ?_;rintro e V ⟨rfl,tt,aa⟩;have TA:=zaa tt;have AA:=zaa ((za AA).trans aa);have XD:=zaa ((aa.av _ (za CD)).trans (za XD));have XB:=zaa (p2.bx tt);clear tt aa)
  |(refine(za HL _ _ (za TA)).mono ?_;rintro e V ⟨rfl,tt,aa⟩;have ND:=zaa (rfl:V=V);have TA:=zaa tt;have AA:=zaa ((za AA).trans aa);have XD:=zaa ((aa.av _ (za CD)).trans (za XD));have XB:=zaa (p1.bx tt);clear tt aa)
 go_wp2_with fail
 refine hK.out _ _ ?_ (fun hHeld=>?_)
 ·try dsimp only
  exact⟨(zav (za XB)).2.1,(zav (za XB)).2.2.2⟩
 clear hK K;refine hP ?_;refine hO 9 (fun K hK=>?_);go_simp
 first
  |(have hV:ND=ND:=rfl;clear hV;refine(za HR _ _ (za TA)).mono ?_;rintro e V ⟨rfl,tt,aa⟩;have TA:=zaa tt;have AA:=zaa ((za AA).trans aa);have XD:=zaa ((aa.av _ (za CD)).trans (za XD));have XB:=zaa (p2.bx tt);clear tt aa)
  |(refine(za HL _ _ (za TA)).mono ?_;rintro e V ⟨rfl,tt,aa⟩;have ND:=zaa (rfl:V=V);have TA:=zaa tt;have AA:=zaa ((za AA).trans aa);have XD:=zaa ((aa.av _ (za CD)).trans (za XD));have XB:=zaa (p1.bx tt);clear tt aa)
 go_wp2_with fail
 refine hK.out _ _ ?_ (fun hHeld=>?_)
 ·try dsimp only
  exact⟨(zav (za XB)).2.1,(zav (za XB)).2.2.2⟩
 clear hK K;refine hP ?_;refine hT 10 ?_;refine hT 11 ?_;refine wpAnyH_done (by kernel_rfl) ?_ _;have FE:=zaa (zfa.of p0 p2 (za TT0) (za U1) (za CB) (za TA) (za AA))
 go_wp2_with fail
 go_ret
 exact za FE
theorem zmu (p0:Pr base B d R lp rp T0) (p1:Pr base B d R lp rp T1) (p2:Pr base B d R lp rp T2) (t:T0 Bv w) (r:Nat) (hl:∀ C W,T0 C W→Calls Tryz.prog 34 #[.pointer lp,.int .i64 mi] W (zwe T1 base r C W)) (hr:∀ C W,T1 C W→Calls Tryz.prog 35 #[.pointer rp,.int .i64 mi] W (zwe T2 base r C W)) :
  Calls Tryz.prog 10 #[.pointer (some ⟨B,0,none⟩),.agg #[.int .i64 3,.slice h.ep es.length h.ec,.int .i64 ht,.int .i64 hv,.int .i64 mi,.int .i64 mt,.slice h.kp kp.length h.kc]] w (zfa T2 base B Bv w):=by
 have U1:=zaa (show Below w.heap.size w (w.alloc (.cells #[.int .i64 3,.slice h.ep es.length h.ec,.int .i64 ht,.int .i64 hv,.int .i64 mi,.int .i64 mt,.slice h.kp kp.length h.kc] 34)) from(Below.refl w.heap.size w).alloc (Nat.le_refl _) _);have X1:=zaa (zad w (.cells #[.int .i64 3,.slice h.ep es.length h.ec,.int .i64 ht,.int .i64 hv,.int .i64 mi,.int .i64 mt,.slice h.kp kp.length h.kc] 34));have T1':=zaa (p0.more t (za U1));have TT0:=zaa t;have HL:=zaa hl;have HR:=zaa hr;clear t hl hr;go_enter Tryz.func10,Tryz.ntmps10
 go_wp2_with fail
 generalize w.alloc _=W1 at *;obtain⟨Cv,hCv⟩:∃ P:Nat→Prop,P=(fun g=>Bv g∨(w.heap.size≤g∧g<W1.heap.size)):=⟨_,rfl⟩
 rw[← hCv] at T1';have CD:=zaa (show Cv w.heap.size from by rw[hCv];exact .inr ⟨Nat.le_refl _,(Array.getElem?_eq_some_iff.1 (za X1)).1⟩);have CB:=zaa (show ∀ g,Bv g→Cv g from fun g hg=>by rw[hCv];exact .inl hg);clear hCv;have TA:=zaa (p0.later (za T1') ((Below.refl W1.heap.size W1).drew));have AA:=zaa (p0.asd (za T1') ((Below.refl W1.heap.size W1).drew));have XB:=zaa (p0.bx (za TA));have XD:=zaa (show W1.drew.heap[w.heap.size]? = some (.cells #[.int .i64 3,.slice h.ep es.length h.ec,.int .i64 ht,.int .i64 hv,.int .i64 mi,.int .i64 mt,.slice h.kp kp.length h.kc] 34 (0,0)) from za X1);refine wp_region_held_drew (S:=fun u=>u.cell? ⟨B,1,none⟩=some (.pointer lp)∧u.cell? ⟨B,3,none⟩=some (.pointer rp)∧u.cell? ⟨w.heap.size,4,none⟩=some (.int .i64 mi)) (by kernel_rfl) ?_ (fun hHeld=>?_)
 ·try dsimp only
  exact⟨(zav (za XB)).2.1,(zav (za XB)).2.2.2,zab (za XD) 4 _ rfl⟩
 refine hT 0 ?_;refine hT 1 ?_;refine hT 2 ?_;refine hT 3 ?_;refine hT 4 ?_;refine hT 5 ?_;refine hT 6 ?_;refine hT 8 ?_;refine hT 9 ?_;refine hT 10 ?_;refine hT 11 ?_;refine hT 12 ?_;refine hT 13 ?_;refine hT 14 ?_;refine hO 7 (fun K hK=>?_);go_simp
 first
  |(have hV:ND=ND:=rfl;clear hV;refine(za HR _ _ (za TA)).mono ?_;rintro e V ⟨rfl,tt,aa⟩;have TA:=zaa tt;have AA:=zaa ((za AA).trans aa);have XD:=zaa ((aa.av _ (za CD)).trans (za XD));have XB:=zaa (p2.bx tt);clear tt aa)
  |(refine(za HL _ _ (za TA)).mono ?_;rintro e V ⟨rfl,tt,aa⟩;have ND:=zaa (rfl:V=V);have TA:=zaa tt;have AA:=zaa ((za AA).trans aa);have XD:=zaa ((aa.av _ (za CD)).trans (za XD));have XB:=zaa (p1.bx tt);clear tt aa)
 go_wp2_with fail
 refine hK.out _ _ ?_ (fun hHeld=>?_)
 ·try dsimp only
  exact⟨(zav (za XB)).2.1,(zav (za XB)).2.2.2,zab (za XD) 4 _ rfl⟩
 clear hK K;refine hP ?_;refine hO 15 (fun K hK=>?_);go_simp
 first
  |(have hV:ND=ND:=rfl;clear hV;refine(za HR _ _ (za TA)).mono ?_;rintro e V ⟨rfl,tt,aa⟩;have TA:=zaa tt;have AA:=zaa ((za AA).trans aa);have XD:=zaa ((aa.av _ (za CD)).trans (za XD));have XB:=zaa (p2.bx tt);clear tt aa)
  |(refine(za HL _ _ (za TA)).mono ?_;rintro e V ⟨rfl,tt,aa⟩;have ND:=zaa (rfl:V=V);have TA:=zaa tt;have AA:=zaa ((za AA).trans aa);have XD:=zaa ((aa.av _ (za CD)).trans (za XD));have XB:=zaa (p1.bx tt);clear tt aa)
 go_wp2_with fail
 refine hK.out _ _ ?_ (fun hHeld=>?_)
 ·try dsimp only
  exact⟨(zav (za XB)).2.1,(zav (za XB)).2.2.2,zab (za XD) 4 _ rfl⟩
 clear hK K;refine hP ?_;refine hT 16 ?_;refine hT 17 ?_;refine wpAnyH_done (by kernel_rfl) ?_ _;have FE:=zaa (zfa.of p0 p2 (za TT0) (za U1) (za CB) (za TA) (za AA))
 go_wp2_with fail
 go_ret
 exact za FE
theorem zmv (p0:Pr base B d R lp rp T0) (p1:Pr base B d R lp rp T1) (p2:Pr base B d R lp rp T2) (t:T0 Bv w) (r:Nat) (hl:∀ C W,T0 C W→Calls Tryz.prog 36 #[.pointer lp,.agg #[.int .i64 mi,.int .i64 mt]] W (zwe T1 base r C W)) (hr:∀ C W,T1 C W→Calls Tryz.prog 37 #[.pointer rp,.agg #[.int .i64 mi,.int .i64 mt]] W (zwe T2 base r C W)) :
  Calls Tryz.prog 10 #[.pointer (some ⟨B,0,none⟩),.agg #[.int .i64 4,.slice h.ep es.length h.ec,.int .i64 ht,.int .i64 hv,.int .i64 mi,.int .i64 mt,.slice h.kp kp.length h.kc]] w (zfa T2 base B Bv w):=by
 have U1:=zaa (show Below w.heap.size w (w.alloc (.cells #[.int .i64 4,.slice h.ep es.length h.ec,.int .i64 ht,.int .i64 hv,.int .i64 mi,.int .i64 mt,.slice h.kp kp.length h.kc] 34)) from(Below.refl w.heap.size w).alloc (Nat.le_refl _) _);have X1:=zaa (zad w (.cells #[.int .i64 4,.slice h.ep es.length h.ec,.int .i64 ht,.int .i64 hv,.int .i64 mi,.int .i64 mt,.slice h.kp kp.length h.kc] 34));have T1':=zaa (p0.more t (za U1));have TT0:=zaa t;have HL:=zaa hl;have HR:=zaa hr;clear t hl hr;go_enter Tryz.func10,Tryz.ntmps10
 go_wp2_with fail
 generalize w.alloc _=W1 at *;obtain⟨Cv,hCv⟩:∃ P:Nat→Prop,P=(fun g=>Bv g∨(w.heap.size≤g∧g<W1.heap.size)):=⟨_,rfl⟩
 rw[← hCv] at T1';have CD:=zaa (show Cv w.heap.size from by rw[hCv];exact .inr ⟨Nat.le_refl _,(Array.getElem?_eq_some_iff.1 (za X1)).1⟩);have CB:=zaa (show ∀ g,Bv g→Cv g from fun g hg=>by rw[hCv];exact .inl hg);clear hCv;have TA:=zaa (p0.later (za T1') ((Below.refl W1.heap.size W1).drew));have AA:=zaa (p0.asd (za T1') ((Below.refl W1.heap.size W1).drew));have XB:=zaa (p0.bx (za TA));have XD:=zaa (show W1.drew.heap[w.heap.size]? = some (.cells #[.int .i64 4,.slice h.ep es.length h.ec,.int .i64 ht,.int .i64 hv,.int .i64 mi,.int .i64 mt,.slice h.kp kp.length h.kc] 34 (0,0)) from za X1);refine wp_region_held_drew (S:=fun u=>u.cell? ⟨B,1,none⟩=some (.pointer lp)∧u.cell? ⟨B,3,none⟩=some (.pointer rp)∧u.cell? ⟨w.heap.size,4,none⟩=some (.int .i64 mi)∧u.cell? ⟨w.heap.size,5,none⟩=some (.int .i64 mt)) (by kernel_rfl) ?_ (fun hHeld=>?_)
 ·try dsimp only
  exact⟨(zav (za XB)).2.1,(zav (za XB)).2.2.2,zab (za XD) 4 _ rfl,zab (za XD) 5 _ rfl⟩
 refine hT 0 ?_;refine hT 1 ?_;refine hT 2 ?_;refine hT 3 ?_;refine hT 4 ?_;refine hT 5 ?_;refine hT 7 ?_;refine hT 8 ?_;refine hT 9 ?_;refine hT 10 ?_;refine hT 11 ?_;refine hT 12 ?_;refine hO 6 (fun K hK=>?_);go_simp
 first
  |(have hV:ND=ND:=rfl;clear hV;refine(za HR _ _ (za TA)).mono ?_;rintro e V ⟨rfl,tt,aa⟩;have TA:=zaa tt;have AA:=zaa ((za AA).trans aa);have XD:=zaa ((aa.av _ (za CD)).trans (za XD));have XB:=zaa (p2.bx tt);clear tt aa)
  |(refine(za HL _ _ (za TA)).mono ?_;rintro e V ⟨rfl,tt,aa⟩;have ND:=zaa (rfl:V=V);have TA:=zaa tt;have AA:=zaa ((za AA).trans aa);have XD:=zaa ((aa.av _ (za CD)).trans (za XD));have XB:=zaa (p1.bx tt);clear tt aa)
 go_wp2_with fail
 refine hK.out _ _ ?_ (fun hHeld=>?_)
 ·try dsimp only
  exact⟨(zav (za XB)).2.1,(zav (za XB)).2.2.2,zab (za XD) 4 _ rfl,zab (za XD) 5 _ rfl⟩
 clear hK K;refine hP ?_;refine hO 13 (fun K hK=>?_);go_simp
 first
  |(have hV:ND=ND:=rfl;clear hV;refine(za HR _ _ (za TA)).mono ?_;rintro e V ⟨rfl,tt,aa⟩;have TA:=zaa tt;have AA:=zaa ((za AA).trans aa);have XD:=zaa ((aa.av _ (za CD)).trans (za XD));have XB:=zaa (p2.bx tt);clear tt aa)
  |(refine(za HL _ _ (za TA)).mono ?_;rintro e V ⟨rfl,tt,aa⟩;have ND:=zaa (rfl:V=V);have TA:=zaa tt;have AA:=zaa ((za AA).trans aa);have XD:=zaa ((aa.av _ (za CD)).trans (za XD));have XB:=zaa (p1.bx tt);clear tt aa)
 go_wp2_with fail
 refine hK.out _ _ ?_ (fun hHeld=>?_)
 ·try dsimp only
  exact⟨(zav (za XB)).2.1,(zav (za XB)).2.2.2,zab (za XD) 4 _ rfl,zab (za XD) 5 _ rfl⟩
 clear hK K;refine hP ?_;refine hT 14 ?_;refine hT 15 ?_;refine wpAnyH_done (by kernel_rfl) ?_ _;have FE:=zaa (zfa.of p0 p2 (za TT0) (za U1) (za CB) (za TA) (za AA))
 go_wp2_with fail
 go_ret
 exact za FE
theorem zmw (p0:Pr base B d R lp rp T0) (p1:Pr base B d R lp rp T1) (p2:Pr base B d R lp rp T2) (t:T0 Bv w) (hI:IntsAt w h.kp kp) (hlo:∀ b off,h.kp=some ⟨b,off,none⟩→0<kp.length→b<base) (hl:∀ C W,T0 C W→IntsAt W h.kp kp→Calls Tryz.prog 20 #[.pointer (some ⟨d,0,none⟩),.slice h.kp kp.length h.kc] W fun e W'=>e=.returned (.tuple #[])∧T1 C W'∧Asd C base W W') (hr:∀ C W,T1 C W→IntsAt W h.kp kp→Calls Tryz.prog 38 #[.pointer (some ⟨R,0,none⟩),.slice h.kp kp.length h.kc] W fun e W'=>e=.returned (.tuple #[])∧T2 C W'∧Asd C base W W') (Q:(Nat→Prop)→World→Prop) (hQ:∀ C D w,Q C w→(∀ g,D g→C g)→D B→Q D w) (ho:∀ C W,T2 C W→Calls Tryz.prog 27 #[.pointer (some ⟨B,0,none⟩)] W fun e W'=>e=.returned (.bool true)∧Q C W'∧Below base W W'∧∀ g,C g→g≠B→W'.heap[g]? = W.heap[g]?) :
  Calls Tryz.prog 10 #[.pointer (some ⟨B,0,none⟩),.agg #[.int .i64 5,.slice h.ep es.length h.ec,.int .i64 ht,.int .i64 hv,.int .i64 mi,.int .i64 mt,.slice h.kp kp.length h.kc]] w (zfa Q base B Bv w):=by
 have U1:=zaa (show Below w.heap.size w (w.alloc (.cells #[.int .i64 5,.slice h.ep es.length h.ec,.int .i64 ht,.int .i64 hv,.int .i64 mi,.int .i64 mt,.slice h.kp kp.length h.kc] 34)) from(Below.refl w.heap.size w).alloc (Nat.le_refl _) _);have X1:=zaa (zad w (.cells #[.int .i64 5,.slice h.ep es.length h.ec,.int .i64 ht,.int .i64 hv,.int .i64 mi,.int .i64 mt,.slice h.kp kp.length h.kc] 34));have T1':=zaa (p0.more t (za U1));have TT0:=zaa t;have HI:=zaa hI;have HLO:=zaa hlo;have HL:=zaa hl;have HR:=zaa hr;have HO:=zaa ho;have HQ:=zaa hQ;clear hI hlo t hl hr ho hQ;go_enter Tryz.func10,Tryz.ntmps10
 go_wp2_with fail
 generalize w.alloc _=W1 at *;obtain⟨Cv,hCv⟩:∃ P:Nat→Prop,P=(fun g=>Bv g∨(w.heap.size≤g∧g<W1.heap.size)):=⟨_,rfl⟩
 rw[← hCv] at T1';have CD:=zaa (show Cv w.heap.size from by rw[hCv];exact .inr ⟨Nat.le_refl _,(Array.getElem?_eq_some_iff.1 (za X1)).1⟩);have CB:=zaa (show ∀ g,Bv g→Cv g from fun g hg=>by rw[hCv];exact .inl hg);clear hCv;have TA:=zaa (p0.later (za T1') ((Below.refl W1.heap.size W1).drew));have AA:=zaa (p0.asd (za T1') ((Below.refl W1.heap.size W1).drew));have XB:=zaa (p0.bx (za TA));have XD:=zaa (show W1.drew.heap[w.heap.size]? = some (.cells #[.int .i64 5,.slice h.ep es.length h.ec,.int .i64 ht,.int .i64 hv,.int .i64 mi,.int .i64 mt,.slice h.kp kp.length h.kc] 34 (0,0)) from za X1);have IA:=zaa (show ∀ V,Asd Cv base W1 V→IntsAt V h.kp kp from fun V a=>(za HI).same (fun b off e h0=>(a.bel.block b (za HLO b off e h0)).trans ((za U1).block b (Nat.lt_of_lt_of_le (za HLO b off e h0) (p0.le (za TT0))))));refine wp_region_held_drew (S:=fun u=>u.cell? ⟨B,0,none⟩=some (.pointer (some ⟨d,0,none⟩))∧u.cell? ⟨w.heap.size,6,none⟩=some (.slice h.kp kp.length h.kc)) (by kernel_rfl) ?_ (fun hHeld=>?_)
 ·try dsimp only
  exact⟨(zav (za XB)).1,zab (za XD) 6 _ rfl⟩
 refine hT 0 ?_;refine hT 1 ?_;refine hT 2 ?_;refine hT 3 ?_;refine hT 4 ?_;refine hT 5 ?_;refine hO 6 (fun K hK=>?_);go_simp
 first
  |(refine(za HL _ _ (za TA) (za IA _ (za AA))).mono ?_;rintro e V ⟨rfl,tt,aa⟩;have TA:=zaa tt;have AA:=zaa ((za AA).trans aa);have XD:=zaa ((aa.av _ (za CD)).trans (za XD));have XB:=zaa (p1.bx tt);clear tt aa)
 go_wp2_with fail
 refine hK.out _ _ ?_ (fun hHeld=>?_)
 ·try dsimp only
  exact⟨(zav (za XB)).1,zab (za XD) 6 _ rfl⟩
 clear hK K;refine hP ?_;refine wpAnyH_done (by kernel_rfl) ?_ _
 go_wp2_with fail
 obtain⟨V2,hV2⟩:∃ V2,V2=V:=⟨_,rfl⟩
 subst hV2;have AA:=zaa ((za AA).trans (p1.asd (za TA) ((Below.refl V2.heap.size V2).drew)));have TA:=zaa (p1.later (za TA) ((Below.refl V2.heap.size V2).drew));have XB:=zaa (p1.bx (za TA));have XD:=zaa (show V2.drew.heap[w.heap.size]? = some (.cells #[.int .i64 5,.slice h.ep es.length h.ec,.int .i64 ht,.int .i64 hv,.int .i64 mi,.int .i64 mt,.slice h.kp kp.length h.kc] 34 (0,0)) from za XD);refine wp_region_held_drew (S:=fun u=>u.cell? ⟨B,2,none⟩=some (.pointer (some ⟨R,0,none⟩))∧u.cell? ⟨w.heap.size,6,none⟩=some (.slice h.kp kp.length h.kc)) (by kernel_rfl) ?_ (fun hHeld=>?_)
 ·try dsimp only
  exact⟨(zav (za XB)).2.2.1,zab (za XD) 6 _ rfl⟩
 refine hT 0 ?_;refine hT 1 ?_;refine hT 2 ?_;refine hT 3 ?_;refine hT 4 ?_;refine hT 5 ?_;refine hO 6 (fun K hK=>?_);go_simp
 first
  |(refine(za HR _ _ (za TA) (za IA _ (za AA))).mono ?_;rintro e V ⟨rfl,tt,aa⟩;have TA:=zaa tt;have AA:=zaa ((za AA).trans aa);have XD:=zaa ((aa.av _ (za CD)).trans (za XD));have XB:=zaa (p2.bx tt);clear tt aa)
 go_wp2_with fail
 refine hK.out _ _ ?_ (fun hHeld=>?_)
 ·try dsimp only
  exact⟨(zav (za XB)).2.2.1,zab (za XD) 6 _ rfl⟩
 clear hK K;refine hP ?_;refine wpAnyH_done (by kernel_rfl) ?_ _
 go_wp2_with fail
 go_at_call 27
 refine(za HO _ _ (za TA)).mono ?_;rintro e V3 ⟨rfl,q3,b3,k3⟩;have FE:=zaa (show zfa Q base B Bv w (.returned (.bool true)) V3 from⟨rfl,za HQ _ _ _ q3 (za CB) (p0.inB (za TT0)),(((za U1).mono (p0.le (za TT0))).trans (za AA).bel).trans b3,fun g hg hne=>(k3 g (za CB g hg) hne).trans (((za AA).av g (za CB g hg)).trans ((za U1).block g (p0.lt (za TT0) hg)))⟩);clear q3 b3 k3
 go_wp2
 go_ret
 exact za FE
theorem zmx (p0:Pr base B d R lp rp T0) (t:T0 Bv w) (Q:(Nat→Prop)→World→Prop) (hQ:∀ C D w,Q C w→(∀ g,D g→C g)→D B→Q D w) (ho:∀ C W,T0 C W→Calls Tryz.prog 27 #[.pointer (some ⟨B,0,none⟩)] W fun e W'=>e=.returned (.bool true)∧Q C W'∧Below base W W'∧∀ g,C g→g≠B→W'.heap[g]? = W.heap[g]?) :
  Calls Tryz.prog 10 #[.pointer (some ⟨B,0,none⟩),.agg #[.int .i64 6,.slice h.ep es.length h.ec,.int .i64 ht,.int .i64 hv,.int .i64 mi,.int .i64 mt,.slice h.kp kp.length h.kc]] w (zfa Q base B Bv w):=by
 have U1:=zaa (show Below w.heap.size w (w.alloc (.cells #[.int .i64 6,.slice h.ep es.length h.ec,.int .i64 ht,.int .i64 hv,.int .i64 mi,.int .i64 mt,.slice h.kp kp.length h.kc] 34)) from(Below.refl w.heap.size w).alloc (Nat.le_refl _) _);have X1:=zaa (zad w (.cells #[.int .i64 6,.slice h.ep es.length h.ec,.int .i64 ht,.int .i64 hv,.int .i64 mi,.int .i64 mt,.slice h.kp kp.length h.kc] 34));have T1':=zaa (p0.more t (za U1));have TT0:=zaa t;have HO:=zaa ho;have HQ:=zaa hQ;clear ho hQ t;go_enter Tryz.func10,Tryz.ntmps10
 go_wp2_with fail
 generalize w.alloc _=W1 at *;obtain⟨Cv,hCv⟩:∃ P:Nat→Prop,P=(fun g=>Bv g∨(w.heap.size≤g∧g<W1.heap.size)):=⟨_,rfl⟩
 rw[← hCv] at T1';have CD:=zaa (show Cv w.heap.size from by rw[hCv];exact .inr ⟨Nat.le_refl _,(Array.getElem?_eq_some_iff.1 (za X1)).1⟩);have CB:=zaa (show ∀ g,Bv g→Cv g from fun g hg=>by rw[hCv];exact .inl hg);clear hCv;have TA:=zaa (za T1');have AA:=zaa (Asd.refl Cv base W1);go_at_call 27
 refine(za HO _ _ (za TA)).mono ?_;rintro e V3 ⟨rfl,q3,b3,k3⟩;have FE:=zaa (show zfa Q base B Bv w (.returned (.bool true)) V3 from⟨rfl,za HQ _ _ _ q3 (za CB) (p0.inB (za TT0)),(((za U1).mono (p0.le (za TT0))).trans (za AA).bel).trans b3,fun g hg hne=>(k3 g (za CB g hg) hne).trans (((za AA).av g (za CB g hg)).trans ((za U1).block g (p0.lt (za TT0) hg)))⟩);clear q3 b3 k3
 go_wp2
 go_ret
 exact za FE
theorem zmy (p0:Pr base B d R lp rp T0) (t:T0 Bv w) (hk:¬ kd=0∧¬ kd=1∧¬ kd=2∧¬ kd=3∧¬ kd=4∧¬ kd=5∧¬ kd=6) :
  Calls Tryz.prog 10 #[.pointer (some ⟨B,0,none⟩),.agg #[.int .i64 kd,.slice h.ep es.length h.ec,.int .i64 ht,.int .i64 hv,.int .i64 mi,.int .i64 mt,.slice h.kp kp.length h.kc]] w (zfa T0 base B Bv w):=by
 have U1:=zaa (show Below w.heap.size w (w.alloc (.cells #[.int .i64 kd,.slice h.ep es.length h.ec,.int .i64 ht,.int .i64 hv,.int .i64 mi,.int .i64 mt,.slice h.kp kp.length h.kc] 34)) from(Below.refl w.heap.size w).alloc (Nat.le_refl _) _);have X1:=zaa (zad w (.cells #[.int .i64 kd,.slice h.ep es.length h.ec,.int .i64 ht,.int .i64 hv,.int .i64 mi,.int .i64 mt,.slice h.kp kp.length h.kc] 34));have T1':=zaa (p0.more t (za U1));have TT0:=zaa t;obtain⟨k0,k1,k2,k3,k4,k5,k6⟩:=hk;have q0:(kd==0)=false:=by simp;exact k0
 have q1:(kd==1)=false:=by simp;exact k1
 have q2:(kd==2)=false:=by simp;exact k2
 have q3:(kd==3)=false:=by simp;exact k3
 have q4:(kd==4)=false:=by simp;exact k4
 have q5:(kd==5)=false:=by simp;exact k5
 have q6:(kd==6)=false:=by simp;exact k6
 have FE:=zaa (zfa.of p0 p0 (za TT0) (za U1) (fun g hg=>.inl hg) (za T1') (Asd.refl _ _ _));clear t;go_enter Tryz.func10,Tryz.ntmps10
 go_wp2
 go_ret
 exact za FE
end
end
section
open Go.ChangeShapes Go.WideShapes Go.ChangeAt Go.RowKit
theorem zz1 {es:List EntI} {e:EntI} (h:e∈es):zij [e]≤zij es:=by
 induction es with
 |nil=>simp at h
 |cons x r ih =>
  unfold zij at ih ⊢;rcases List.mem_cons.1 h with rfl|h
  ·simp
  ·have:=ih h;simp only[List.map_cons,List.map_nil,List.sum_cons,List.sum_nil] at this ⊢;omega
end
section
open Go.ChangeShapes Go.WideShapes Go.ChangeAt Go.RowKit Go.Maps
theorem ztz {w:World} {g:Nat} {T:TypeId} {cur:List Value} (h:w.heap[g]? = some (.cells cur.toArray T (0,0))) (k:Nat) (v:Value):(w.setCell ⟨g,k,none⟩ v).heap[g]? = some (.cells (cur.set k v).toArray T (0,0)):=by
 have:=heap_setCell_same w g k _ T v h;rw[this];simp
def PB (w:World) (g n:Nat):Prop:=∃ cur:List Value,w.heap[g]? = some (.cells cur.toArray 5 (0,0))∧∀ i,i<n→∃ b:Nat,b<256∧cur[i]? = some (.int .u8 (b:Int))
theorem PB.set {w:World} {g n:Nat} (h:PB w g n) (g' k y:Nat) (hy:y<256):PB (w.setCell ⟨g',k,none⟩ (.int .u8 (y:Int))) g n:=by
 obtain⟨cur,h1,h2⟩:=h;by_cases e:g'=g
 ·subst e;refine⟨_,ztz h1 k _,fun i hi=>?_⟩;obtain⟨b,hb,hc⟩:=h2 i hi;by_cases e2:k=i
  ·subst e2;refine⟨y,hy,?_⟩;have:=(List.getElem?_eq_some_iff.1 hc).1;rw[List.getElem?_set_self this]
  ·exact⟨b,hb,by rw[List.getElem?_set_ne e2];exact hc⟩
 ·exact⟨cur,((zaf w g' k _).block g (Array.getElem?_eq_some_iff.1 h1).1 (fun q=>e (Option.some.inj q).symm)).trans h1,h2⟩
theorem PB.cell {w:World} {g n:Nat} (h:PB w g n) {i:Nat} (hi:i<n):∃ b:Nat,b<256∧w.cell? ⟨g,i,none⟩=some (.int .u8 (b:Int))∧w.frozen? ⟨g,i,none⟩=false:=by
 obtain⟨cur,h1,h2⟩:=h;obtain⟨b,hb,hc⟩:=h2 i hi;refine⟨b,hb,?_,zae h1 i⟩;rw[cell_of_row w g _ cur.toArray _ _ h1,← Array.getElem?_toList];exact hc
theorem OwnB.pb {base:Nat} {w:World} {sp:Option Addr} {c:Nat} {l:List Nat} (h:OwnB base w sp c l):(sp=none∧l.length=0)∨∃ g,sp=some ⟨g,0,none⟩∧base≤g∧g<w.heap.size∧PB w g l.length:=by
 rcases h.owns.2 with⟨hv,h0⟩|⟨g,cap,cur,hv,hb,hg,hle,hmx,hsz,ht⟩
 ·simp only[Value.slice.injEq] at hv;exact .inl ⟨hv.1,h0⟩
 ·simp only[Value.slice.injEq] at hv;obtain⟨cl⟩:=cur;have ht1:cl.take (l.length*1)=l.map zbb:=ht;rw[Nat.mul_one] at ht1;refine .inr ⟨g,hv.1,hb,(Array.getElem?_eq_some_iff.1 hg).1,cl,hg,fun i hi=>⟨l[i],h.lt _ (List.getElem_mem hi),?_⟩⟩;have e:(cl.take l.length)[i]? = (l.map zbb)[i]?:=by rw[ht1]
  rw[List.getElem?_take,if_pos hi,List.getElem?_map,List.getElem?_eq_getElem hi] at e;exact e
def OwR (lo hi:Nat) (es:List EntI) (sp:Option Addr) (w:World):Prop:=∀ i (h:i<es.length),∃ G dp dc,sp=some ⟨G,0,none⟩∧lo≤G∧G<hi∧w.cell? ⟨G,i*4+3,none⟩=some (.slice dp es[i].2.2.2.length dc)∧((dp=none∧es[i].2.2.2.length=0)∨∃ g,dp=some ⟨g,0,none⟩∧lo≤g∧g<hi∧g≠G∧PB w g es[i].2.2.2.length)
structure OwX (lo hi:Nat) (V:World) (es:List EntI) (sp:Option Addr) (w:World):Prop where
 bel:Below lo V w
 far:∀ g,g<V.heap.size→¬ (lo≤g∧g<hi)→w.heap[g]? = V.heap[g]?
 size:w.heap.size=V.heap.size
 row:OwR lo hi es sp w
section
variable {lo hi:Nat} {V w w':World} {es:List EntI} {sp:Option Addr} {c:Nat}
theorem OwR.of (h:OwnEI lo V sp c es):OwR lo V.heap.size es sp V:=by
 intro i hil;obtain⟨hs',hl,hrow,hdat⟩:=h.ex;rcases hrow.2 with⟨_,h0⟩|⟨G,cap,cur,hv,hbG,hg,_,_,_,ht⟩
 ·omega
 ·simp only[Value.slice.injEq] at hv;have hih:i<hs'.length:=by omega
  have key:V.cell? ⟨G,i*4+3,none⟩=(zbu es[i] hs'[i])[3]?:=by
   rw[cell_of_row V G _ cur _ _ hg];have e:=zhb es hs' i 3 hil hih (by omega);rw[← ht,List.getElem?_take,if_pos (by omega)] at e;rw[← Array.getElem?_toList,e]
  have hd:=hdat i hil;rw[show hs'.getD i (none,0)=hs'[i] by simp[List.getD_eq_getElem?_getD,hih],show es.getD i default=es[i] by simp[List.getD_eq_getElem?_getD,hil]] at hd;have k2:V.cell? ⟨G,i*4+3,none⟩=some (.slice hs'[i].1 es[i].2.2.2.length hs'[i].2):=key;refine⟨G,hs'[i].1,hs'[i].2,hv.1,hbG,(Array.getElem?_eq_some_iff.1 hg).1,k2,?_⟩;rcases hd.pb with q|⟨g,q1,q2,q3,q4⟩
  ·exact .inl q
  ·refine .inr ⟨g,q1,q2,q3,fun e=>?_,q4⟩;obtain⟨cl,q5,_⟩:=q4;rw[e,hg] at q5;simp at q5
theorem OwR.same (h:OwR lo hi es sp w) (hs:∀ g,lo≤g→g<hi→w'.heap[g]? = w.heap[g]?):OwR lo hi es sp w':=by
 intro i hil;obtain⟨G,dp,dc,q1,q2,q3,q4,q5⟩:=h i hil;refine⟨G,dp,dc,q1,q2,q3,?_,?_⟩
 ·rw[← q4];simp only[World.cell?,hs G q2 q3]
 ·rcases q5 with q5|⟨x,a1,a2,a3,a4,cur,a5,a6⟩
  ·exact .inl q5
  ·exact .inr ⟨x,a1,a2,a3,a4,cur,(hs x a2 a3).trans a5,a6⟩
theorem OwX.start (h:OwR lo hi es sp V):OwX lo hi V es sp V:=⟨Below.refl _ _,fun _ _ _=>rfl,rfl,h⟩
theorem OwX.put (h:OwX lo hi V es sp w) {g k y:Nat} (h1:lo≤g) (h2:g<hi) (hG:∀ G,sp=some ⟨G,0,none⟩→g≠G) (hy:y<256):OwX lo hi V es sp (w.setCell ⟨g,k,none⟩ (.int .u8 (y:Int))):=by
 have gs:=zaf w g k (.int .u8 (y:Int));have hsz:(w.setCell ⟨g,k,none⟩ (.int .u8 (y:Int))).heap.size=w.heap.size:=by simp
 refine⟨⟨gs.os.trans h.bel.os,gs.tape.trans h.bel.tape,gs.output.trans h.bel.output,Nat.le_trans h.bel.size gs.size,fun i hi'=>?_⟩,fun x hx hn=>?_,hsz.trans h.size,fun i hi'=>?_⟩
 ·rw[← h.bel.block i hi'];by_cases hw:i<w.heap.size
  ·exact gs.block i hw (fun e=>by have:=Option.some.inj e;omega)
  ·rw[Array.getElem?_eq_none (by omega),Array.getElem?_eq_none (by omega)]
 ·rw[← h.far x hx hn];exact gs.block x (by rw[h.size];exact hx) (fun e=>hn (by have:=Option.some.inj e;omega))
 ·obtain⟨G,dp,dc,q1,q6,q7,q2,q3⟩:=h.row i hi';have hGl:=zg q2;refine⟨G,dp,dc,q1,q6,q7,?_,?_⟩
  ·have e:=gs.block G hGl (fun e=>hG G q1 (Option.some.inj e).symm);rw[← q2];simp only[World.cell?,e]
  ·rcases q3 with q3|⟨x,a1,a2,a3,a4,a5⟩
   ·exact .inl q3
   ·exact .inr ⟨x,a1,a2,a3,a4,a5.set g k y hy⟩
end
theorem zB2 (x:Nat) (hx:x<256):∃ y:Nat,bits .xor .u8 (x:Int) 119=(y:Int)∧y<256:=by
 have key:∀ x:Fin 256,∃ y:Fin 256,bits .xor .u8 ((x.val:Nat):Int) 119=((y.val:Nat):Int):=by decide +kernel
 obtain⟨y,hy⟩:=key ⟨x,hx⟩;exact⟨y.val,hy,y.isLt⟩
section
variable {Bv Cv:Nat→Prop} {base B d R:Nat} {lp rp:Option Addr} {T T0 T1 T2:(Nat→Prop)→World→Prop} {w w' W1:World} {es:List EntI} {kd ht hv mi mt:Int} {kp:List Int} {h:WdH}
theorem zmr (p0:Pr base B d R lp rp T0) (p1:Pr base B d R lp rp T1) (p2:Pr base B d R lp rp T2) (t:T0 Bv w) (hE:EntsIn (fun g=>g<base) w h.ep es) (h6:zij es≤6000) (r:Nat) (hl:∀ C W sp k,T0 C W→EntsIn (fun g=>g<base∨C g) W sp es→Calls Tryz.prog 29 #[.pointer lp,.slice sp es.length k] W (zwe T1 base r C W)) (hr:∀ C W,T1 C W→EntsIn (fun g=>g<base) W h.ep es→Calls Tryz.prog 30 #[.pointer rp,.slice h.ep es.length h.ec] W (zwe T2 base r C W)) :
  Calls Tryz.prog 10 #[.pointer (some ⟨B,0,none⟩),.agg #[.int .i64 0,.slice h.ep es.length h.ec,.int .i64 ht,.int .i64 hv,.int .i64 mi,.int .i64 mt,.slice h.kp kp.length h.kc]] w (zfa T2 base B Bv w):=by
 have U1:=zaa (show Below w.heap.size w (w.alloc (.cells #[.int .i64 0,.slice h.ep es.length h.ec,.int .i64 ht,.int .i64 hv,.int .i64 mi,.int .i64 mt,.slice h.kp kp.length h.kc] 34)) from(Below.refl w.heap.size w).alloc (Nat.le_refl _) _);have X1:=zaa (zad w (.cells #[.int .i64 0,.slice h.ep es.length h.ec,.int .i64 ht,.int .i64 hv,.int .i64 mi,.int .i64 mt,.slice h.kp kp.length h.kc] 34));have T1':=zaa (p0.more t (za U1));have TT0:=zaa t;have HL:=zaa hl;have HR:=zaa hr;have LE:=zaa (p0.le t);have h20:=zov es
 have HD:=zaa (show ∀ e∈es,e.2.2.2.length≤6000 from fun e he=>by
  have h1:=zz1 he;have h2:zij [e]=20+min e.2.2.2.length 6000:=by simp[zij]
  omega)
 have HE:=zaa (show ∀ V,Below base w V→EntsIn (fun g=>g<base) V h.ep es from fun V u=>hE.same (fun g hg=>u.block g hg));have M3:es.length≤300:=by omega
 have CC:=zaa (zfw h.ep es.length h.ec es _ rfl (by omega) (fun e he=>by have:=za HD e he;omega) (za HE _ ((za U1).mono (za LE))).at_);clear hE h6 h20 t hl hr;go_enter Tryz.func10,Tryz.ntmps10
 go_wp2_with fail
 generalize w.alloc _=W1 at *;obtain⟨Cv,hCv⟩:∃ P:Nat→Prop,P=(fun g=>Bv g∨(w.heap.size≤g∧g<W1.heap.size)):=⟨_,rfl⟩
 rw[← hCv] at T1';have CD:=zaa (show Cv w.heap.size from by rw[hCv];exact .inr ⟨Nat.le_refl _,(Array.getElem?_eq_some_iff.1 (za X1)).1⟩);have CB:=zaa (show ∀ g,Bv g→Cv g from fun g hg=>by rw[hCv];exact .inl hg);clear hCv;go_at_call 28
 refine(za CC).mono ?_;rintro e V1 ⟨sp1,k1,rfl,oe,v1⟩;have T2':=zaa (p0.more (za T1') v1);have XD1:=zaa (zac v1 (za X1));have OR1:=zaa (OwR.of oe);have EI1:=zaa (oe.entsIn);have S1:=zaa v1.size;have A1:=zaa (p0.asd (za T1') v1);clear oe v1 CC;generalize hlo:W1.heap.size=lo at *;generalize hhi:V1.heap.size=hi at *;obtain⟨Dv,hDv⟩:∃ P:Nat→Prop,P=(fun g=>Cv g∨(lo≤g∧g<hi)):=⟨_,rfl⟩
 rw[← hDv] at T2';have DC:=zaa (show ∀ g,Cv g→Dv g from fun g hg=>by rw[hDv];exact .inl hg);have DO:=zaa (show ∀ g,lo≤g→g<hi→Dv g from fun g h1 h2=>by rw[hDv];exact .inr ⟨h1,h2⟩);have CL:=zaa (show ∀ g,Cv g→g<lo from fun g hg=>by rw[← hlo];exact p0.lt (za T1') hg);have HLO:=zaa (show base≤lo by rw[← hlo];exact p0.le (za T1'));have INB:=zaa (p0.inB (za T1'));clear hDv hlo hhi;have b1:=(zav (p0.bx (za T2'))).2.1;have PC:=zaa (za HL _ _ sp1 k1 (za T2') ((za EI1).sub (fun g hg=>.inr (za DO g hg.1 hg.2))))
 go_wp2_with fail
 clear b1;go_at_call 29
 refine(za PC).mono ?_;rintro e V2 ⟨rfl,t2,a2⟩;have T3:=zaa t2;have A2:=zaa ((za A1).trans (a2.sub (za DC)));have XD2:=zaa ((a2.av _ (za DC _ (za CD))).trans (za XD1));have OR2:=zaa ((za OR1).same (fun g h1 h2=>a2.av g (za DO g h1 h2)));have EA2:=zaa (((za EI1).same (fun g hg=>a2.av g (za DO g hg.1 hg.2))).at_);have XE2:=zaa (za HE V2 (((za U1).mono (za LE)).trans (za A2).bel)).at_;have SC:=zaa (zli sp1 h.ep es.length k1 h.ec es V2 rfl (by omega) (za EA2) (za XE2));have d1:V2.cell? ⟨w.heap.size,1,none⟩=some (.slice h.ep es.length h.ec):=zab (za XD2) 1 _ rfl;clear t2 a2 PC T2' XD1 OR1 EI1 EA2 XE2 A1
 go_wp2_with fail
 clear d1;go_at_call 15
 refine(za SC).mono ?_;rintro e V3 ⟨rfl,v3⟩;have T4:=zaa (p1.later (za T3) v3);have A3:=zaa ((za A2).trans ((p1.asd (za T3) v3).sub (za DC)));have XD3:=zaa (zac v3 (za XD2));have LV3:=zaa (show ∀ g,Dv g→g<V3.heap.size from fun g hg=>p1.lt (za T4) hg);have OX3:=zaa (OwX.start ((za OR2).same (w':=V3) (fun g h1 h2=>v3.block g (p1.lt (za T3) (za DO g h1 h2)))));clear v3 SC T3 A2 XD2 OR2;obtain⟨m,hm⟩:∃ m,es.length=m:=⟨_,rfl⟩
 have HM:=zaa hm;rw[hm] at M3
 go_wp2_with fail
 try rw[hm]
 clear hm;go_loopw [8,9] (fun i _ wr=>∃ (j:Nat),j≤m∧i=.int .i64 (j:Int)∧Hid (OwX lo hi V3 es sp1 wr)) (fun i _ _=>m - (intOf i).toNat)
 case atStart=>exact⟨0,by omega,rfl,OX3⟩
 case round =>
  obtain⟨j,hj,rfl,O5⟩:=hrel;obtain⟨V5,hV5⟩:∃ V5,V5=wr:=⟨_,rfl⟩
  subst hV5;by_cases hjm:j<m
  ·as_aux_lemma =>
   have y0:(0:Int)≤(j:Int):=by omega
   have y1:(j:Int)<(m:Int):=by omega
   have hjl:j<es.length:=by rw[za HM];exact hjm
   obtain⟨nj,hnj⟩:∃ nj,es[j].2.2.2.length=nj:=⟨_,rfl⟩
   have N6:nj≤6000:=by rw[← hnj];exact za HD _ (List.getElem_mem hjl)
   have RW:=zaa (show ∀ W,OwX lo hi V3 es sp1 W→∃ G dp dc,sp1=some ⟨G,0,none⟩∧W.cell? ⟨G,j*4+3,none⟩=some (.slice dp nj dc)∧(0<nj→∃ g,dp=some ⟨g,0,none⟩∧lo≤g∧g<hi∧g≠G∧PB W g nj) from fun W o=>by
    obtain⟨G,dp,dc,q1,_,_,q2,q3⟩:=o.row j hjl;rw[hnj] at q2 q3;refine⟨G,dp,dc,q1,q2,fun h0=>?_⟩;rcases q3 with q3|q3
    ·omega
    ·exact q3)
   clear hjl hnj
   go_wp2_with fail
   go_loopw [9] (fun k wr=>∃ (q:Nat),q≤nj∧k=.int .i64 (q:Int)∧Hid (OwX lo hi V3 es sp1 wr)) (fun k _=>nj - (intOf k).toNat)
   case atStart=>exact⟨0,by omega,rfl,O5⟩
   case round =>
    obtain⟨q,hq,rfl,O6⟩:=hrel;obtain⟨G,dp,dc,hsp,cl,hg⟩:=za RW _ (za O6);by_cases hqn:q<nj
    ·as_aux_lemma =>
     have z0:(0:Int)≤(q:Int):=by omega
     have z1:(q:Int)<(nj:Int):=by omega
     obtain⟨g,rfl,g1,g2,g3,g4⟩:=hg (by omega);obtain⟨bb,hbb,cb,fb⟩:=g4.cell hqn;obtain⟨y,hy,hy2⟩:=zB2 bb hbb;have O7:=zaa ((za O6).put (k:=q) g1 g2 (fun G' e=>by rw[hsp] at e;simp only[Option.some.injEq,Addr.mk.injEq,and_true] at e;rw[← e];exact g3) hy2);subst hsp;clear g4 g1 g2
     go_wp2_with fail
     exact⟨⟨q+1,by omega,by go_num,O7⟩,by simp[intOf];omega⟩
    ·as_aux_lemma =>
     have z1:¬ (q:Int)<(nj:Int):=by omega
     subst hsp;clear hg
     go_wp2_with fail
     exact⟨⟨j+1,by omega,by go_num,O6⟩,by simp[intOf];omega⟩
  ·as_aux_lemma =>
   have y1:¬ (j:Int)<(m:Int):=by omega
   have T5:=zaa (p1.grow (w':=V5) (za T4) (fun g hg hn=>(za O5).far g hg (fun q=>by
    rcases hn with hn|hn
    ·exact hn (za DO g q.1 q.2)
    ·have h5:=za CL g (by rw[hn];exact za INB)
     omega)) ((za O5).bel.mono (za HLO)))
   have A5:=zaa (show Asd Cv base W1 V5 from(za A3).trans ⟨fun g hg=>(za O5).far g (za LV3 g (za DC g hg)) (fun q=>by have h5:=za CL g hg;omega),(za O5).bel.mono (za HLO)⟩);have XD5:=zaa (((za O5).far w.heap.size (Array.getElem?_eq_some_iff.1 (za XD3)).1 (fun q=>by have h5:=za CL _ (za CD);omega)).trans (za XD3));have XE5:=zaa (za HE V5.drew (((za U1).mono (za LE)).trans ((za A5).bel.drew)));have TA:=zaa (p1.sub (p1.later (za T5) ((Below.refl V5.heap.size V5).drew)) (za DC) (za INB));have AA:=zaa ((za A5).trans ((p1.asd (za T5) ((Below.refl V5.heap.size V5).drew)).sub (za DC)));have XB:=zaa (p1.bx (za TA));have XD:=zaa (show V5.drew.heap[w.heap.size]? = some (.cells #[.int .i64 0,.slice h.ep es.length h.ec,.int .i64 ht,.int .i64 hv,.int .i64 mi,.int .i64 mt,.slice h.kp kp.length h.kc] 34 (0,0)) from za XD5);clear T5 A5 T4 A3 OX3 O5 XD3 XD5;have PC:=zaa (za HR _ _ (za TA) (za XE5))
   go_wp2_with fail
   refine wp_region_held_drew (S:=fun u=>u.cell? ⟨B,3,none⟩=some (.pointer rp)∧u.cell? ⟨w.heap.size,1,none⟩=some (.slice h.ep es.length h.ec)) (by kernel_rfl) ?_ (fun hHeld=>?_)
   ·try dsimp only
    exact⟨(zav (za XB)).2.2.2,zab (za XD) 1 _ rfl⟩
   refine hT 0 ?_;refine hT 1 ?_;refine hT 2 ?_;refine hT 3 ?_;refine hT 4 ?_;refine hT 5 ?_;refine hT 6 ?_;refine hT 7 ?_;refine hT 8 ?_;refine hO 9 (fun K hK=>?_);go_simp
   first
    |(refine(za PC).mono ?_;rintro e V ⟨rfl,tt,aa⟩;have TB:=zaa tt;have AA:=zaa ((za AA).trans aa);have XD:=zaa ((aa.av _ (za CD)).trans (za XD));have XB:=zaa (p2.bx tt);clear tt aa)
   go_wp2_with fail
   refine hK.out _ _ ?_ (fun hHeld=>?_)
   ·try dsimp only
    exact⟨(zav (za XB)).2.2.2,zab (za XD) 1 _ rfl⟩
   clear hK K;refine hP ?_;refine hT 10 ?_;refine hT 11 ?_;refine hT 12 ?_;refine wpAnyH_done (by kernel_rfl) ?_ _;have FE:=zaa (zfa.of p0 p2 (za TT0) (za U1) (za CB) (za TB) (za AA))
   go_wp2_with fail
   go_ret
   exact za FE
end
end
end Go.Proofs.YtofllbpfajppeaaGreatDoor
