/- Both logs: a deed on both (written by wip/mkwxv.py). -/
import Derived.Test.YtofllbpfajppeaaGreatDoorB37
import Derived.Test.YtofllbpfajppeaaGreatDoorB32
import Derived.Test.YtofllbpfajppeaaGreatDoorB36
import Derived.Test.YtofllbpfajppeaaGreatDoorB20
import Derived.Test.YtofllbpfajppeaaGreatDoorB07
import Derived.Deep.QuietTactic
import Derived.BigQuiet
import Derived.Test.YtofllbpfajppeaaGreatDoorB10
set_option linter.unusedVariables false
set_option maxRecDepth 20000
set_option maxHeartbeats 16000000
namespace Go.Proofs.YtofllbpfajppeaaGreatDoor
section
open Go.ChangeShapes Go.WideShapes Go.ChangeAt Go.RowKit Go.Maps
section
variable {Bv:Nat→Prop} {base B d M R L Lr room N:Nat} {w w' W1:World} {ss:Ds} {c:Wc} {n:Nat} {r1 r2:List (List Nat)} {es:List EntI} {kd ht hv mi mt:Int} {kp:List Int} {h:WdH}
theorem zbz {V:World} {lp rp:Option Addr} (hb:V.heap[B]? = some (.cells (zd3 d R lp rp) 43 (0,0))):V.cell? ⟨B,0,none⟩=some (.pointer (some ⟨d,0,none⟩))∧V.cell? ⟨B,1,none⟩=some (.pointer lp)∧V.cell? ⟨B,2,none⟩=some (.pointer (some ⟨R,0,none⟩))∧V.cell? ⟨B,3,none⟩=some (.pointer rp):=⟨zab hb 0 _ rfl,zab hb 1 _ rfl,zab hb 2 _ rfl,zab hb 3 _ rfl⟩
theorem do1_calls (t:TL Bv base w B d M R L Lr room N ss c n ss c n) (ls:LS room ss c n r1 r2) (lowB:base≤B) (hN:N+2≤302) (hn:n+2<1099511627776) :
  Calls Tryz.prog 10 #[.pointer (some ⟨B,0,none⟩),.agg #[.int .i64 1,.slice h.ep es.length h.ec,.int .i64 ht,.int .i64 hv,.int .i64 mi,.int .i64 mt,.slice h.kp kp.length h.kc]] w (zfc Bv base B d M R room (N+2) c n w):=by
 have LE:=zaa t.le;have LTB:=zaa (fun g (hg:Bv g)=>t.ltB hg);have U1:=zaa (show Below w.heap.size w (w.alloc (.cells #[.int .i64 1,.slice h.ep es.length h.ec,.int .i64 ht,.int .i64 hv,.int .i64 mi,.int .i64 mt,.slice h.kp kp.length h.kc] 34)) from(Below.refl w.heap.size w).alloc (Nat.le_refl _) _);have X1:=zaa (zad w (.cells #[.int .i64 1,.slice h.ep es.length h.ec,.int .i64 ht,.int .i64 hv,.int .i64 mi,.int .i64 mt,.slice h.kp kp.length h.kc] 34));have T1:=zaa (t.more (za U1));have FEW:=zaa (show zfs 300 ss from fun x hx=>Nat.le_trans (t.fewC x hx) (by omega));have RIS:=zaa t.rise;have OKC:=zaa t.okC;have INB:=zaa t.inB;have LSH:=zaa ls;have LOB:=zaa lowB;clear t ls lowB;have NX:=zaa ((za LSH).xHardN (za OKC) ht hv);go_enter Tryz.func10,Tryz.ntmps10
 go_wp2_with fail
 generalize w.alloc _=W1 at *;obtain⟨Cv,hCv⟩:∃ P:Nat→Prop,P=(fun g=>Bv g∨(w.heap.size≤g∧g<W1.heap.size)):=⟨_,rfl⟩
 rw[← hCv] at T1;have CD:=zaa (show Cv w.heap.size from by rw[hCv];exact .inr ⟨Nat.le_refl _,(Array.getElem?_eq_some_iff.1 (za X1)).1⟩);have CB:=zaa (show ∀ g,Bv g→Cv g from fun g hg=>by rw[hCv];exact .inl hg);clear hCv;have TA:=zaa ((za T1).later ((Below.refl W1.heap.size W1).drew));have AA:=zaa ((za T1).asd ((Below.refl W1.heap.size W1).drew));have XB:=zaa (za TA).bx;have XD:=zaa (show W1.drew.heap[w.heap.size]? = some (.cells #[.int .i64 1,.slice h.ep es.length h.ec,.int .i64 ht,.int .i64 hv,.int .i64 mi,.int .i64 mt,.slice h.kp kp.length h.kc] 34 (0,0)) from za X1);refine wp_region_held_drew (S:=fun u=>u.cell? ⟨B,1,none⟩=some (.pointer (some ⟨L,0,none⟩))∧u.cell? ⟨B,3,none⟩=some (.pointer (some ⟨Lr,0,none⟩))∧u.cell? ⟨w.heap.size,2,none⟩=some (.int .i64 ht)∧u.cell? ⟨w.heap.size,3,none⟩=some (.int .i64 hv)) (by kernel_rfl) ?_ (fun hHeld=>?_)
 ·try dsimp only
  exact⟨(zbz (za XB)).2.1,(zbz (za XB)).2.2.2,zab (za XD) 2 _ rfl,zab (za XD) 3 _ rfl⟩
 refine hT 0 ?_;refine hT 1 ?_;refine hT 2 ?_;refine hT 3 ?_;refine hT 4 ?_;refine hT 5 ?_;refine hT 7 ?_;refine hT 8 ?_;refine hT 9 ?_;refine hT 10 ?_;refine hT 11 ?_;refine hT 12 ?_;refine hO 6 (fun K hK=>?_);go_simp
 first
  |(have hV:ND=ND:=rfl;clear hV;refine(trhard_calls (za TA) (za FEW) (za RIS) (by omega) (za LSH).some_ ht hv).mono ?_;rintro e V ⟨rfl,tt,aa⟩;have TA:=zaa tt;have AA:=zaa ((za AA).trans aa);have XD:=zaa ((aa.av _ (za CD)).trans (za XD));have XB:=zaa tt.bx;clear tt aa)
  |(refine(thard_calls (za TA) (by omega) ht hv).mono ?_;rintro e V ⟨rfl,tt,aa⟩;have ND:=zaa (rfl:V=V);have TA:=zaa tt;have AA:=zaa ((za AA).trans aa);have XD:=zaa ((aa.av _ (za CD)).trans (za XD));have XB:=zaa tt.bx;clear tt aa)
 go_wp2_with fail
 refine hK.out _ _ ?_ (fun hHeld=>?_)
 ·try dsimp only
  exact⟨(zbz (za XB)).2.1,(zbz (za XB)).2.2.2,zab (za XD) 2 _ rfl,zab (za XD) 3 _ rfl⟩
 clear hK K;refine hP ?_;refine hO 13 (fun K hK=>?_);go_simp
 first
  |(have hV:ND=ND:=rfl;clear hV;refine(trhard_calls (za TA) (za FEW) (za RIS) (by omega) (za LSH).some_ ht hv).mono ?_;rintro e V ⟨rfl,tt,aa⟩;have TA:=zaa tt;have AA:=zaa ((za AA).trans aa);have XD:=zaa ((aa.av _ (za CD)).trans (za XD));have XB:=zaa tt.bx;clear tt aa)
  |(refine(thard_calls (za TA) (by omega) ht hv).mono ?_;rintro e V ⟨rfl,tt,aa⟩;have ND:=zaa (rfl:V=V);have TA:=zaa tt;have AA:=zaa ((za AA).trans aa);have XD:=zaa ((aa.av _ (za CD)).trans (za XD));have XB:=zaa tt.bx;clear tt aa)
 go_wp2_with fail
 refine hK.out _ _ ?_ (fun hHeld=>?_)
 ·try dsimp only
  exact⟨(zbz (za XB)).2.1,(zbz (za XB)).2.2.2,zab (za XD) 2 _ rfl,zab (za XD) 3 _ rfl⟩
 clear hK K;refine hP ?_;refine hT 14 ?_;refine hT 15 ?_;refine wpAnyH_done (by kernel_rfl) ?_ _;have FE:=zaa (zfc.of (by omega) (za LE) (za LTB) (za U1) (za CB) (za INB) (za TA) (za AA) (za NX))
 go_wp2_with fail
 go_ret
 exact za FE
theorem do2_calls (t:TL Bv base w B d M R L Lr room N ss c n ss c n) (ls:LS room ss c n r1 r2) (lowB:base≤B) (hN:N+2≤302) (hn:n+2<1099511627776) :
  Calls Tryz.prog 10 #[.pointer (some ⟨B,0,none⟩),.agg #[.int .i64 2,.slice h.ep es.length h.ec,.int .i64 ht,.int .i64 hv,.int .i64 mi,.int .i64 mt,.slice h.kp kp.length h.kc]] w (zfc Bv base B d M R room (N+2) c n w):=by
 have LE:=zaa t.le;have LTB:=zaa (fun g (hg:Bv g)=>t.ltB hg);have U1:=zaa (show Below w.heap.size w (w.alloc (.cells #[.int .i64 2,.slice h.ep es.length h.ec,.int .i64 ht,.int .i64 hv,.int .i64 mi,.int .i64 mt,.slice h.kp kp.length h.kc] 34)) from(Below.refl w.heap.size w).alloc (Nat.le_refl _) _);have X1:=zaa (zad w (.cells #[.int .i64 2,.slice h.ep es.length h.ec,.int .i64 ht,.int .i64 hv,.int .i64 mi,.int .i64 mt,.slice h.kp kp.length h.kc] 34));have T1:=zaa (t.more (za U1));have FEW:=zaa (show zfs 300 ss from fun x hx=>Nat.le_trans (t.fewC x hx) (by omega));have RIS:=zaa t.rise;have OKC:=zaa t.okC;have INB:=zaa t.inB;have LSH:=zaa ls;have LOB:=zaa lowB;clear t ls lowB;have NX:=zaa ((za LSH).syncN);go_enter Tryz.func10,Tryz.ntmps10
 go_wp2_with fail
 generalize w.alloc _=W1 at *;obtain⟨Cv,hCv⟩:∃ P:Nat→Prop,P=(fun g=>Bv g∨(w.heap.size≤g∧g<W1.heap.size)):=⟨_,rfl⟩
 rw[← hCv] at T1;have CD:=zaa (show Cv w.heap.size from by rw[hCv];exact .inr ⟨Nat.le_refl _,(Array.getElem?_eq_some_iff.1 (za X1)).1⟩);have CB:=zaa (show ∀ g,Bv g→Cv g from fun g hg=>by rw[hCv];exact .inl hg);clear hCv;have TA:=zaa ((za T1).later ((Below.refl W1.heap.size W1).drew));have AA:=zaa ((za T1).asd ((Below.refl W1.heap.size W1).drew));have XB:=zaa (za TA).bx;have XD:=zaa (show W1.drew.heap[w.heap.size]? = some (.cells #[.int .i64 2,.slice h.ep es.length h.ec,.int .i64 ht,.int .i64 hv,.int .i64 mi,.int .i64 mt,.slice h.kp kp.length h.kc] 34 (0,0)) from za X1);refine wp_region_held_drew (S:=fun u=>u.cell? ⟨B,1,none⟩=some (.pointer (some ⟨L,0,none⟩))∧u.cell? ⟨B,3,none⟩=some (.pointer (some ⟨Lr,0,none⟩))) (by kernel_rfl) ?_ (fun hHeld=>?_)
 ·try dsimp only
  exact⟨(zbz (za XB)).2.1,(zbz (za XB)).2.2.2⟩
 refine hT 0 ?_;refine hT 1 ?_;refine hT 2 ?_;refine hT 3 ?_;refine hT 5 ?_;refine hT 6 ?_;refine hT 7 ?_;refine hT 8 ?_;refine hO 4 (fun K hK=>?_);go_simp
 first
  |(have hV:ND=ND:=rfl;clear hV;refine(trsync_calls (za TA)).mono ?_;rintro e V ⟨rfl,tt,aa⟩;have TA:=zaa tt;have AA:=zaa ((za AA).trans aa);have XD:=zaa ((aa.av _ (za CD)).trans (za XD));have XB:=zaa tt.bx;clear tt aa)
  |(refine(tsync_calls (za TA) (by omega)).mono ?_;rintro e V ⟨rfl,tt,aa⟩;have ND:=zaa (rfl:V=V);have TA:=zaa tt;have AA:=zaa ((za AA).trans aa);have XD:=zaa ((aa.av _ (za CD)).trans (za XD));have XB:=zaa tt.bx;clear tt aa)
 go_wp2_with fail
 refine hK.out _ _ ?_ (fun hHeld=>?_)
 ·try dsimp only
  exact⟨(zbz (za XB)).2.1,(zbz (za XB)).2.2.2⟩
 clear hK K;refine hP ?_;refine hO 9 (fun K hK=>?_);go_simp
 first
  |(have hV:ND=ND:=rfl;clear hV;refine(trsync_calls (za TA)).mono ?_;rintro e V ⟨rfl,tt,aa⟩;have TA:=zaa tt;have AA:=zaa ((za AA).trans aa);have XD:=zaa ((aa.av _ (za CD)).trans (za XD));have XB:=zaa tt.bx;clear tt aa)
  |(refine(tsync_calls (za TA) (by omega)).mono ?_;rintro e V ⟨rfl,tt,aa⟩;have ND:=zaa (rfl:V=V);have TA:=zaa tt;have AA:=zaa ((za AA).trans aa);have XD:=zaa ((aa.av _ (za CD)).trans (za XD));have XB:=zaa tt.bx;clear tt aa)
 go_wp2_with fail
 refine hK.out _ _ ?_ (fun hHeld=>?_)
 ·try dsimp only
  exact⟨(zbz (za XB)).2.1,(zbz (za XB)).2.2.2⟩
 clear hK K;refine hP ?_;refine hT 10 ?_;refine hT 11 ?_;refine wpAnyH_done (by kernel_rfl) ?_ _;have FE:=zaa (zfc.of (by omega) (za LE) (za LTB) (za U1) (za CB) (za INB) (za TA) (za AA) (za NX))
 go_wp2_with fail
 go_ret
 exact za FE
theorem do3_calls (t:TL Bv base w B d M R L Lr room N ss c n ss c n) (ls:LS room ss c n r1 r2) (lowB:base≤B) (hN:N+2≤302) (hn:n+2<1099511627776) (hmi:-9223372036854775808≤mi∧mi≤9223372036854775807) :
  Calls Tryz.prog 10 #[.pointer (some ⟨B,0,none⟩),.agg #[.int .i64 3,.slice h.ep es.length h.ec,.int .i64 ht,.int .i64 hv,.int .i64 mi,.int .i64 mt,.slice h.kp kp.length h.kc]] w (zfc Bv base B d M R room (N+2) c n w):=by
 have LE:=zaa t.le;have LTB:=zaa (fun g (hg:Bv g)=>t.ltB hg);have U1:=zaa (show Below w.heap.size w (w.alloc (.cells #[.int .i64 3,.slice h.ep es.length h.ec,.int .i64 ht,.int .i64 hv,.int .i64 mi,.int .i64 mt,.slice h.kp kp.length h.kc] 34)) from(Below.refl w.heap.size w).alloc (Nat.le_refl _) _);have X1:=zaa (zad w (.cells #[.int .i64 3,.slice h.ep es.length h.ec,.int .i64 ht,.int .i64 hv,.int .i64 mi,.int .i64 mt,.slice h.kp kp.length h.kc] 34));have T1:=zaa (t.more (za U1));have FEW:=zaa (show zfs 300 ss from fun x hx=>Nat.le_trans (t.fewC x hx) (by omega));have RIS:=zaa t.rise;have OKC:=zaa t.okC;have INB:=zaa t.inB;have LSH:=zaa ls;have LOB:=zaa lowB;clear t ls lowB;have NX:=zaa ((za LSH).compactN (za OKC) mi);go_enter Tryz.func10,Tryz.ntmps10
 go_wp2_with fail
 generalize w.alloc _=W1 at *;obtain⟨Cv,hCv⟩:∃ P:Nat→Prop,P=(fun g=>Bv g∨(w.heap.size≤g∧g<W1.heap.size)):=⟨_,rfl⟩
 rw[← hCv] at T1;have CD:=zaa (show Cv w.heap.size from by rw[hCv];exact .inr ⟨Nat.le_refl _,(Array.getElem?_eq_some_iff.1 (za X1)).1⟩);have CB:=zaa (show ∀ g,Bv g→Cv g from fun g hg=>by rw[hCv];exact .inl hg);clear hCv;have TA:=zaa ((za T1).later ((Below.refl W1.heap.size W1).drew));have AA:=zaa ((za T1).asd ((Below.refl W1.heap.size W1).drew));have XB:=zaa (za TA).bx;have XD:=zaa (show W1.drew.heap[w.heap.size]? = some (.cells #[.int .i64 3,.slice h.ep es.length h.ec,.int .i64 ht,.int .i64 hv,.int .i64 mi,.int .i64 mt,.slice h.kp kp.length h.kc] 34 (0,0)) from za X1);refine wp_region_held_drew (S:=fun u=>u.cell? ⟨B,1,none⟩=some (.pointer (some ⟨L,0,none⟩))∧u.cell? ⟨B,3,none⟩=some (.pointer (some ⟨Lr,0,none⟩))∧u.cell? ⟨w.heap.size,4,none⟩=some (.int .i64 mi)) (by kernel_rfl) ?_ (fun hHeld=>?_)
 ·try dsimp only
  exact⟨(zbz (za XB)).2.1,(zbz (za XB)).2.2.2,zab (za XD) 4 _ rfl⟩
 refine hT 0 ?_;refine hT 1 ?_;refine hT 2 ?_;refine hT 3 ?_;refine hT 4 ?_;refine hT 5 ?_;refine hT 6 ?_;refine hT 8 ?_;refine hT 9 ?_;refine hT 10 ?_;refine hT 11 ?_;refine hT 12 ?_;refine hT 13 ?_;refine hT 14 ?_;refine hO 7 (fun K hK=>?_);go_simp
 first
  |(have hV:ND=ND:=rfl;clear hV;refine(trcompact_calls (za TA) (za FEW) (za RIS) (by omega) (za LSH).some_ mi).mono ?_;rintro e V ⟨rfl,tt,aa⟩;have TA:=zaa tt;have AA:=zaa ((za AA).trans aa);have XD:=zaa ((aa.av _ (za CD)).trans (za XD));have XB:=zaa tt.bx;clear tt aa)
  |(refine(tcompact_calls (za TA) (by omega) (za LSH).ix mi hmi).mono ?_;rintro e V ⟨rfl,tt,aa⟩;have ND:=zaa (rfl:V=V);have TA:=zaa tt;have AA:=zaa ((za AA).trans aa);have XD:=zaa ((aa.av _ (za CD)).trans (za XD));have XB:=zaa tt.bx;clear tt aa)
 go_wp2_with fail
 refine hK.out _ _ ?_ (fun hHeld=>?_)
 ·try dsimp only
  exact⟨(zbz (za XB)).2.1,(zbz (za XB)).2.2.2,zab (za XD) 4 _ rfl⟩
 clear hK K;refine hP ?_;refine hO 15 (fun K hK=>?_);go_simp
 first
  |(have hV:ND=ND:=rfl;clear hV;refine(trcompact_calls (za TA) (za FEW) (za RIS) (by omega) (za LSH).some_ mi).mono ?_;rintro e V ⟨rfl,tt,aa⟩;have TA:=zaa tt;have AA:=zaa ((za AA).trans aa);have XD:=zaa ((aa.av _ (za CD)).trans (za XD));have XB:=zaa tt.bx;clear tt aa)
  |(refine(tcompact_calls (za TA) (by omega) (za LSH).ix mi hmi).mono ?_;rintro e V ⟨rfl,tt,aa⟩;have ND:=zaa (rfl:V=V);have TA:=zaa tt;have AA:=zaa ((za AA).trans aa);have XD:=zaa ((aa.av _ (za CD)).trans (za XD));have XB:=zaa tt.bx;clear tt aa)
 go_wp2_with fail
 refine hK.out _ _ ?_ (fun hHeld=>?_)
 ·try dsimp only
  exact⟨(zbz (za XB)).2.1,(zbz (za XB)).2.2.2,zab (za XD) 4 _ rfl⟩
 clear hK K;refine hP ?_;refine hT 16 ?_;refine hT 17 ?_;refine wpAnyH_done (by kernel_rfl) ?_ _;have FE:=zaa (zfc.of (by omega) (za LE) (za LTB) (za U1) (za CB) (za INB) (za TA) (za AA) (za NX))
 go_wp2_with fail
 go_ret
 exact za FE
theorem do4_calls (t:TL Bv base w B d M R L Lr room N ss c n ss c n) (ls:LS room ss c n r1 r2) (lowB:base≤B) (hN:N+2≤302) (hn:n+2<1099511627776) :
  Calls Tryz.prog 10 #[.pointer (some ⟨B,0,none⟩),.agg #[.int .i64 4,.slice h.ep es.length h.ec,.int .i64 ht,.int .i64 hv,.int .i64 mi,.int .i64 mt,.slice h.kp kp.length h.kc]] w (zfc Bv base B d M R room (N+2) c n w):=by
 have LE:=zaa t.le;have LTB:=zaa (fun g (hg:Bv g)=>t.ltB hg);have U1:=zaa (show Below w.heap.size w (w.alloc (.cells #[.int .i64 4,.slice h.ep es.length h.ec,.int .i64 ht,.int .i64 hv,.int .i64 mi,.int .i64 mt,.slice h.kp kp.length h.kc] 34)) from(Below.refl w.heap.size w).alloc (Nat.le_refl _) _);have X1:=zaa (zad w (.cells #[.int .i64 4,.slice h.ep es.length h.ec,.int .i64 ht,.int .i64 hv,.int .i64 mi,.int .i64 mt,.slice h.kp kp.length h.kc] 34));have T1:=zaa (t.more (za U1));have FEW:=zaa (show zfs 300 ss from fun x hx=>Nat.le_trans (t.fewC x hx) (by omega));have RIS:=zaa t.rise;have OKC:=zaa t.okC;have INB:=zaa t.inB;have LSH:=zaa ls;have LOB:=zaa lowB;clear t ls lowB;have NX:=zaa ((za LSH).xResetN (za OKC) mi mt);go_enter Tryz.func10,Tryz.ntmps10
 go_wp2_with fail
 generalize w.alloc _=W1 at *;obtain⟨Cv,hCv⟩:∃ P:Nat→Prop,P=(fun g=>Bv g∨(w.heap.size≤g∧g<W1.heap.size)):=⟨_,rfl⟩
 rw[← hCv] at T1;have CD:=zaa (show Cv w.heap.size from by rw[hCv];exact .inr ⟨Nat.le_refl _,(Array.getElem?_eq_some_iff.1 (za X1)).1⟩);have CB:=zaa (show ∀ g,Bv g→Cv g from fun g hg=>by rw[hCv];exact .inl hg);clear hCv;have TA:=zaa ((za T1).later ((Below.refl W1.heap.size W1).drew));have AA:=zaa ((za T1).asd ((Below.refl W1.heap.size W1).drew));have XB:=zaa (za TA).bx;have XD:=zaa (show W1.drew.heap[w.heap.size]? = some (.cells #[.int .i64 4,.slice h.ep es.length h.ec,.int .i64 ht,.int .i64 hv,.int .i64 mi,.int .i64 mt,.slice h.kp kp.length h.kc] 34 (0,0)) from za X1);refine wp_region_held_drew (S:=fun u=>u.cell? ⟨B,1,none⟩=some (.pointer (some ⟨L,0,none⟩))∧u.cell? ⟨B,3,none⟩=some (.pointer (some ⟨Lr,0,none⟩))∧u.cell? ⟨w.heap.size,4,none⟩=some (.int .i64 mi)∧u.cell? ⟨w.heap.size,5,none⟩=some (.int .i64 mt)) (by kernel_rfl) ?_ (fun hHeld=>?_)
 ·try dsimp only
  exact⟨(zbz (za XB)).2.1,(zbz (za XB)).2.2.2,zab (za XD) 4 _ rfl,zab (za XD) 5 _ rfl⟩
 refine hT 0 ?_;refine hT 1 ?_;refine hT 2 ?_;refine hT 3 ?_;refine hT 4 ?_;refine hT 5 ?_;refine hT 7 ?_;refine hT 8 ?_;refine hT 9 ?_;refine hT 10 ?_;refine hT 11 ?_;refine hT 12 ?_;refine hO 6 (fun K hK=>?_);go_simp
 first
  |(have hV:ND=ND:=rfl;clear hV;refine(trreset_calls (za TA) (za FEW) (za RIS) (by omega) (za LSH).some_ mi mt).mono ?_;rintro e V ⟨rfl,tt,aa⟩;have TA:=zaa tt;have AA:=zaa ((za AA).trans aa);have XD:=zaa ((aa.av _ (za CD)).trans (za XD));have XB:=zaa tt.bx;clear tt aa)
  |(refine(treset_calls (za TA) (by omega) mi mt).mono ?_;rintro e V ⟨rfl,tt,aa⟩;have ND:=zaa (rfl:V=V);have TA:=zaa tt;have AA:=zaa ((za AA).trans aa);have XD:=zaa ((aa.av _ (za CD)).trans (za XD));have XB:=zaa tt.bx;clear tt aa)
 go_wp2_with fail
 refine hK.out _ _ ?_ (fun hHeld=>?_)
 ·try dsimp only
  exact⟨(zbz (za XB)).2.1,(zbz (za XB)).2.2.2,zab (za XD) 4 _ rfl,zab (za XD) 5 _ rfl⟩
 clear hK K;refine hP ?_;refine hO 13 (fun K hK=>?_);go_simp
 first
  |(have hV:ND=ND:=rfl;clear hV;refine(trreset_calls (za TA) (za FEW) (za RIS) (by omega) (za LSH).some_ mi mt).mono ?_;rintro e V ⟨rfl,tt,aa⟩;have TA:=zaa tt;have AA:=zaa ((za AA).trans aa);have XD:=zaa ((aa.av _ (za CD)).trans (za XD));have XB:=zaa tt.bx;clear tt aa)
  |(refine(treset_calls (za TA) (by omega) mi mt).mono ?_;rintro e V ⟨rfl,tt,aa⟩;have ND:=zaa (rfl:V=V);have TA:=zaa tt;have AA:=zaa ((za AA).trans aa);have XD:=zaa ((aa.av _ (za CD)).trans (za XD));have XB:=zaa tt.bx;clear tt aa)
 go_wp2_with fail
 refine hK.out _ _ ?_ (fun hHeld=>?_)
 ·try dsimp only
  exact⟨(zbz (za XB)).2.1,(zbz (za XB)).2.2.2,zab (za XD) 4 _ rfl,zab (za XD) 5 _ rfl⟩
 clear hK K;refine hP ?_;refine hT 14 ?_;refine hT 15 ?_;refine wpAnyH_done (by kernel_rfl) ?_ _;have FE:=zaa (zfc.of (by omega) (za LE) (za LTB) (za U1) (za CB) (za INB) (za TA) (za AA) (za NX))
 go_wp2_with fail
 go_ret
 exact za FE
theorem do5_calls (t:TL Bv base w B d M R L Lr room N ss c n ss c n) (ls:LS room ss c n r1 r2) (lowB:base≤B) (hN:N+2≤302) (hn:n+2<1099511627776) (hI:IntsAt w h.kp kp) (hlo:∀ b off,h.kp=some ⟨b,off,none⟩→0<kp.length→b<base) :
  Calls Tryz.prog 10 #[.pointer (some ⟨B,0,none⟩),.agg #[.int .i64 5,.slice h.ep es.length h.ec,.int .i64 ht,.int .i64 hv,.int .i64 mi,.int .i64 mt,.slice h.kp kp.length h.kc]] w (zfc Bv base B d M R room (N+2) c n w):=by
 have LE:=zaa t.le;have LTB:=zaa (fun g (hg:Bv g)=>t.ltB hg);have U1:=zaa (show Below w.heap.size w (w.alloc (.cells #[.int .i64 5,.slice h.ep es.length h.ec,.int .i64 ht,.int .i64 hv,.int .i64 mi,.int .i64 mt,.slice h.kp kp.length h.kc] 34)) from(Below.refl w.heap.size w).alloc (Nat.le_refl _) _);have X1:=zaa (zad w (.cells #[.int .i64 5,.slice h.ep es.length h.ec,.int .i64 ht,.int .i64 hv,.int .i64 mi,.int .i64 mt,.slice h.kp kp.length h.kc] 34));have T1:=zaa (t.more (za U1));have FEW:=zaa (show zfs 300 ss from fun x hx=>Nat.le_trans (t.fewC x hx) (by omega));have RIS:=zaa t.rise;have OKC:=zaa t.okC;have INB:=zaa t.inB;have LSH:=zaa ls;have LOB:=zaa lowB;clear t ls lowB;have HI:=zaa hI;have HLO:=zaa hlo;clear hI hlo;go_enter Tryz.func10,Tryz.ntmps10
 go_wp2_with fail
 generalize w.alloc _=W1 at *;obtain⟨Cv,hCv⟩:∃ P:Nat→Prop,P=(fun g=>Bv g∨(w.heap.size≤g∧g<W1.heap.size)):=⟨_,rfl⟩
 rw[← hCv] at T1;have CD:=zaa (show Cv w.heap.size from by rw[hCv];exact .inr ⟨Nat.le_refl _,(Array.getElem?_eq_some_iff.1 (za X1)).1⟩);have CB:=zaa (show ∀ g,Bv g→Cv g from fun g hg=>by rw[hCv];exact .inl hg);clear hCv;have TA:=zaa ((za T1).later ((Below.refl W1.heap.size W1).drew));have AA:=zaa ((za T1).asd ((Below.refl W1.heap.size W1).drew));have XB:=zaa (za TA).bx;have XD:=zaa (show W1.drew.heap[w.heap.size]? = some (.cells #[.int .i64 5,.slice h.ep es.length h.ec,.int .i64 ht,.int .i64 hv,.int .i64 mi,.int .i64 mt,.slice h.kp kp.length h.kc] 34 (0,0)) from za X1);have IA:=zaa (show ∀ V,Asd Cv base W1 V→IntsAt V h.kp kp from fun V a=>(za HI).same (fun b off e h0=>(a.bel.block b (za HLO b off e h0)).trans ((za U1).block b (Nat.lt_of_lt_of_le (za HLO b off e h0) (za LE)))));refine wp_region_held_drew (S:=fun u=>u.cell? ⟨B,0,none⟩=some (.pointer (some ⟨d,0,none⟩))∧u.cell? ⟨w.heap.size,6,none⟩=some (.slice h.kp kp.length h.kc)) (by kernel_rfl) ?_ (fun hHeld=>?_)
 ·try dsimp only
  exact⟨(zbz (za XB)).1,zab (za XD) 6 _ rfl⟩
 refine hT 0 ?_;refine hT 1 ?_;refine hT 2 ?_;refine hT 3 ?_;refine hT 4 ?_;refine hT 5 ?_;refine hO 6 (fun K hK=>?_);go_simp
 first
  |(refine(tcrash_calls (za TA) h.kp kp.length h.kc kp rfl (za IA _ (za AA)) (za HLO)).mono ?_;rintro e V ⟨rfl,tt,aa⟩;have TA:=zaa tt;have AA:=zaa ((za AA).trans aa);have XD:=zaa ((aa.av _ (za CD)).trans (za XD));have XB:=zaa tt.bx;clear tt aa)
 go_wp2_with fail
 refine hK.out _ _ ?_ (fun hHeld=>?_)
 ·try dsimp only
  exact⟨(zbz (za XB)).1,zab (za XD) 6 _ rfl⟩
 clear hK K;refine hP ?_;refine wpAnyH_done (by kernel_rfl) ?_ _
 go_wp2_with fail
 obtain⟨V2,hV2⟩:∃ V2,V2=V:=⟨_,rfl⟩
 subst hV2;have AA:=zaa ((za AA).trans ((za TA).asd ((Below.refl V2.heap.size V2).drew)));have TA:=zaa ((za TA).later ((Below.refl V2.heap.size V2).drew));have XB:=zaa (za TA).bx;have XD:=zaa (show V2.drew.heap[w.heap.size]? = some (.cells #[.int .i64 5,.slice h.ep es.length h.ec,.int .i64 ht,.int .i64 hv,.int .i64 mi,.int .i64 mt,.slice h.kp kp.length h.kc] 34 (0,0)) from za XD);refine wp_region_held_drew (S:=fun u=>u.cell? ⟨B,2,none⟩=some (.pointer (some ⟨R,0,none⟩))∧u.cell? ⟨w.heap.size,6,none⟩=some (.slice h.kp kp.length h.kc)) (by kernel_rfl) ?_ (fun hHeld=>?_)
 ·try dsimp only
  exact⟨(zbz (za XB)).2.2.1,zab (za XD) 6 _ rfl⟩
 refine hT 0 ?_;refine hT 1 ?_;refine hT 2 ?_;refine hT 3 ?_;refine hT 4 ?_;refine hT 5 ?_;refine hO 6 (fun K hK=>?_);go_simp
 first
  |(refine(trcrash_calls (za TA) h.kp kp.length h.kc kp rfl (za IA _ (za AA))).mono ?_;rintro e V ⟨rfl,tt,aa⟩;have TA:=zaa tt;have AA:=zaa ((za AA).trans aa);have XD:=zaa ((aa.av _ (za CD)).trans (za XD));have XB:=zaa tt.bx;clear tt aa)
 go_wp2_with fail
 refine hK.out _ _ ?_ (fun hHeld=>?_)
 ·try dsimp only
  exact⟨(zbz (za XB)).2.2.1,zab (za XD) 6 _ rfl⟩
 clear hK K;refine hP ?_;refine wpAnyH_done (by kernel_rfl) ?_ _
 go_wp2_with fail
 have OC:=zaa (bopen_calls (za TA).toTB (za LOB) (by omega) n ((za LSH).opCr (by omega) kp));obtain⟨m,c',hm,hcm,ho,lso⟩:=(za LSH).crash kp;rw[ho] at OC;have LSO:=zaa lso;clear lso ho hcm hm;go_at_call 27
 refine(za OC).mono ?_;intro e V3 ho;have FE:=zaa (zfc.opened (c0:=c) (za LE) (za LTB) (za U1) (za CB) (za INB) (za AA) (za LSO) ho);obtain⟨rfl,_⟩:=ho
 go_wp2
 go_ret
 exact za FE
theorem do6_calls (t:TL Bv base w B d M R L Lr room N ss c n ss c n) (ls:LS room ss c n r1 r2) (lowB:base≤B) (hN:N+2≤302) (hn:n+2<1099511627776) :
  Calls Tryz.prog 10 #[.pointer (some ⟨B,0,none⟩),.agg #[.int .i64 6,.slice h.ep es.length h.ec,.int .i64 ht,.int .i64 hv,.int .i64 mi,.int .i64 mt,.slice h.kp kp.length h.kc]] w (zfc Bv base B d M R room (N+2) c n w):=by
 have LE:=zaa t.le;have LTB:=zaa (fun g (hg:Bv g)=>t.ltB hg);have U1:=zaa (show Below w.heap.size w (w.alloc (.cells #[.int .i64 6,.slice h.ep es.length h.ec,.int .i64 ht,.int .i64 hv,.int .i64 mi,.int .i64 mt,.slice h.kp kp.length h.kc] 34)) from(Below.refl w.heap.size w).alloc (Nat.le_refl _) _);have X1:=zaa (zad w (.cells #[.int .i64 6,.slice h.ep es.length h.ec,.int .i64 ht,.int .i64 hv,.int .i64 mi,.int .i64 mt,.slice h.kp kp.length h.kc] 34));have T1:=zaa (t.more (za U1));have FEW:=zaa (show zfs 300 ss from fun x hx=>Nat.le_trans (t.fewC x hx) (by omega));have RIS:=zaa t.rise;have OKC:=zaa t.okC;have INB:=zaa t.inB;have LSH:=zaa ls;have LOB:=zaa lowB;clear t ls lowB;go_enter Tryz.func10,Tryz.ntmps10
 go_wp2_with fail
 generalize w.alloc _=W1 at *;obtain⟨Cv,hCv⟩:∃ P:Nat→Prop,P=(fun g=>Bv g∨(w.heap.size≤g∧g<W1.heap.size)):=⟨_,rfl⟩
 rw[← hCv] at T1;have CD:=zaa (show Cv w.heap.size from by rw[hCv];exact .inr ⟨Nat.le_refl _,(Array.getElem?_eq_some_iff.1 (za X1)).1⟩);have CB:=zaa (show ∀ g,Bv g→Cv g from fun g hg=>by rw[hCv];exact .inl hg);clear hCv;have OC:=zaa (bopen_calls (za T1).toTB (za LOB) (by omega) n ((za LSH).opOk (by omega)));rw[(za LSH).again.1] at OC;go_at_call 27
 refine(za OC).mono ?_;intro e V ho;have FE:=zaa (zfc.opened (c0:=c) (za LE) (za LTB) (za U1) (za CB) (za INB) (Asd.refl _ _ _) (za LSH).again.2 ho);obtain⟨rfl,_⟩:=ho
 go_wp2
 go_ret
 exact za FE
theorem doN_calls (t:TL Bv base w B d M R L Lr room N ss c n ss c n) (ls:LS room ss c n r1 r2) (lowB:base≤B) (hN:N+2≤302) (hn:n+2<1099511627776) (hk:¬ kd=0∧¬ kd=1∧¬ kd=2∧¬ kd=3∧¬ kd=4∧¬ kd=5∧¬ kd=6) :
  Calls Tryz.prog 10 #[.pointer (some ⟨B,0,none⟩),.agg #[.int .i64 kd,.slice h.ep es.length h.ec,.int .i64 ht,.int .i64 hv,.int .i64 mi,.int .i64 mt,.slice h.kp kp.length h.kc]] w (zfc Bv base B d M R room (N+2) c n w):=by
 have LE:=zaa t.le;have LTB:=zaa (fun g (hg:Bv g)=>t.ltB hg);have U1:=zaa (show Below w.heap.size w (w.alloc (.cells #[.int .i64 kd,.slice h.ep es.length h.ec,.int .i64 ht,.int .i64 hv,.int .i64 mi,.int .i64 mt,.slice h.kp kp.length h.kc] 34)) from(Below.refl w.heap.size w).alloc (Nat.le_refl _) _);have X1:=zaa (zad w (.cells #[.int .i64 kd,.slice h.ep es.length h.ec,.int .i64 ht,.int .i64 hv,.int .i64 mi,.int .i64 mt,.slice h.kp kp.length h.kc] 34));have T1:=zaa (t.more (za U1));have FEW:=zaa (show zfs 300 ss from fun x hx=>Nat.le_trans (t.fewC x hx) (by omega));have RIS:=zaa t.rise;have OKC:=zaa t.okC;have INB:=zaa t.inB;have LSH:=zaa ls;have LOB:=zaa lowB;clear t ls lowB;obtain⟨k0,k1,k2,k3,k4,k5,k6⟩:=hk;have q0:(kd==0)=false:=by simp;exact k0
 have q1:(kd==1)=false:=by simp;exact k1
 have q2:(kd==2)=false:=by simp;exact k2
 have q3:(kd==3)=false:=by simp;exact k3
 have q4:(kd==4)=false:=by simp;exact k4
 have q5:(kd==5)=false:=by simp;exact k5
 have q6:(kd==6)=false:=by simp;exact k6
 have FE:=zaa (zfc.of (r:=(0,ss,c,n)) (k:=0) (c:=c) (n:=n) (Nat.zero_le _) (za LE) (za LTB) (za U1) (fun g hg=>.inl hg) (za INB) ((za T1).monoN (N':=N+2) (by omega) (by omega)) (Asd.refl _ _ _) ⟨⟨r1,r2,za LSH⟩,by dsimp only;omega,by dsimp only;omega⟩);go_enter Tryz.func10,Tryz.ntmps10
 go_wp2
 go_ret
 exact za FE
end
end
section
open Go.ChangeShapes Go.WideShapes Go.ChangeAt Go.RowKit
theorem sumN_mem {es:List EntI} {e:EntI} (h:e∈es):sumN [e]≤sumN es:=by
 induction es with
 |nil=>simp at h
 |cons x r ih =>
  unfold sumN at ih ⊢;rcases List.mem_cons.1 h with rfl|h
  ·simp
  ·have:=ih h;simp only[List.map_cons,List.map_nil,List.sum_cons,List.sum_nil] at this ⊢;omega
end
section
open Go.ChangeShapes Go.WideShapes Go.ChangeAt Go.RowKit Go.Maps
theorem row_setW {w:World} {g:Nat} {T:TypeId} {cur:List Value} (h:w.heap[g]? = some (.cells cur.toArray T (0,0))) (k:Nat) (v:Value):(w.setCell ⟨g,k,none⟩ v).heap[g]? = some (.cells (cur.set k v).toArray T (0,0)):=by
 have:=heap_setCell_same w g k _ T v h;rw[this];simp
def PB (w:World) (g n:Nat):Prop:=∃ cur:List Value,w.heap[g]? = some (.cells cur.toArray 5 (0,0))∧∀ i,i<n→∃ b:Nat,b<256∧cur[i]? = some (.int .u8 (b:Int))
theorem PB.set {w:World} {g n:Nat} (h:PB w g n) (g' k y:Nat) (hy:y<256):PB (w.setCell ⟨g',k,none⟩ (.int .u8 (y:Int))) g n:=by
 obtain⟨cur,h1,h2⟩:=h;by_cases e:g'=g
 ·subst e;refine⟨_,row_setW h1 k _,fun i hi=>?_⟩;obtain⟨b,hb,hc⟩:=h2 i hi;by_cases e2:k=i
  ·subst e2;refine⟨y,hy,?_⟩;have:=(List.getElem?_eq_some_iff.1 hc).1;rw[List.getElem?_set_self this]
  ·exact⟨b,hb,by rw[List.getElem?_set_ne e2];exact hc⟩
 ·exact⟨cur,((zaf w g' k _).block g (Array.getElem?_eq_some_iff.1 h1).1 (fun q=>e (Option.some.inj q).symm)).trans h1,h2⟩
theorem PB.cell {w:World} {g n:Nat} (h:PB w g n) {i:Nat} (hi:i<n):∃ b:Nat,b<256∧w.cell? ⟨g,i,none⟩=some (.int .u8 (b:Int))∧w.frozen? ⟨g,i,none⟩=false:=by
 obtain⟨cur,h1,h2⟩:=h;obtain⟨b,hb,hc⟩:=h2 i hi;refine⟨b,hb,?_,zae h1 i⟩;rw[cell_of_row w g _ cur.toArray _ _ h1,← Array.getElem?_toList];exact hc
theorem OwnB.pb {base:Nat} {w:World} {sp:Option Addr} {c:Nat} {l:List Nat} (h:OwnB base w sp c l):(sp=none∧l.length=0)∨∃ g,sp=some ⟨g,0,none⟩∧base≤g∧g<w.heap.size∧PB w g l.length:=by
 rcases h.owns.2 with⟨hv,h0⟩|⟨g,cap,cur,hv,hb,hg,hle,hmx,hsz,ht⟩
 ·simp only[Value.slice.injEq] at hv;exact .inl ⟨hv.1,h0⟩
 ·simp only[Value.slice.injEq] at hv;obtain⟨cl⟩:=cur;have ht1:cl.take (l.length*1)=l.map zbh:=ht;rw[Nat.mul_one] at ht1;refine .inr ⟨g,hv.1,hb,(Array.getElem?_eq_some_iff.1 hg).1,cl,hg,fun i hi=>⟨l[i],h.lt _ (List.getElem_mem hi),?_⟩⟩;have e:(cl.take l.length)[i]? = (l.map zbh)[i]?:=by rw[ht1]
  rw[List.getElem?_take,if_pos hi,List.getElem?_map,List.getElem?_eq_getElem hi] at e;exact e
def OwR (lo hi:Nat) (es:List EntI) (sp:Option Addr) (w:World):Prop:=∀ i (h:i<es.length),∃ G dp dc,sp=some ⟨G,0,none⟩∧lo≤G∧G<hi∧w.cell? ⟨G,i*4+3,none⟩=some (.slice dp es[i].2.2.2.length dc)∧((dp=none∧es[i].2.2.2.length=0)∨∃ g,dp=some ⟨g,0,none⟩∧lo≤g∧g<hi∧g≠G∧PB w g es[i].2.2.2.length)
structure OwX (lo hi:Nat) (V:World) (es:List EntI) (sp:Option Addr) (w:World):Prop where
 bel:Below lo V w
 far:∀ g,g<V.heap.size→¬ (lo≤g∧g<hi)→w.heap[g]? = V.heap[g]?
 size:w.heap.size=V.heap.size
 row:OwR lo hi es sp w
section
variable {lo hi:Nat} {V w w':World} {es:List EntI} {sp:Option Addr} {c:Nat}
theorem OwR.of (h:OwnEI lo V sp c es):OwR lo V.heap.size es sp V:=by
 intro i hil;obtain⟨hs',hl,hrow,hdat⟩:=h.ex;rcases hrow.2 with⟨_,h0⟩|⟨G,cap,cur,hv,hbG,hg,_,_,_,ht⟩
 ·omega
 ·simp only[Value.slice.injEq] at hv;have hih:i<hs'.length:=by omega
  have key:V.cell? ⟨G,i*4+3,none⟩=(zbu es[i] hs'[i])[3]?:=by
   rw[cell_of_row V G _ cur _ _ hg];have e:=rowsI_get es hs' i 3 hil hih (by omega);rw[← ht,List.getElem?_take,if_pos (by omega)] at e;rw[← Array.getElem?_toList,e]
  have hd:=hdat i hil;rw[show hs'.getD i (none,0)=hs'[i] by simp[List.getD_eq_getElem?_getD,hih],show es.getD i default=es[i] by simp[List.getD_eq_getElem?_getD,hil]] at hd;have k2:V.cell? ⟨G,i*4+3,none⟩=some (.slice hs'[i].1 es[i].2.2.2.length hs'[i].2):=key;refine⟨G,hs'[i].1,hs'[i].2,hv.1,hbG,(Array.getElem?_eq_some_iff.1 hg).1,k2,?_⟩;rcases hd.pb with q|⟨g,q1,q2,q3,q4⟩
  ·exact .inl q
  ·refine .inr ⟨g,q1,q2,q3,fun e=>?_,q4⟩;obtain⟨cl,q5,_⟩:=q4;rw[e,hg] at q5;simp at q5
theorem OwR.same (h:OwR lo hi es sp w) (hs:∀ g,lo≤g→g<hi→w'.heap[g]? = w.heap[g]?):OwR lo hi es sp w':=by
 intro i hil;obtain⟨G,dp,dc,q1,q2,q3,q4,q5⟩:=h i hil;refine⟨G,dp,dc,q1,q2,q3,?_,?_⟩
 ·rw[← q4];simp only[World.cell?,hs G q2 q3]
 ·rcases q5 with q5|⟨x,a1,a2,a3,a4,cur,a5,a6⟩
  ·exact .inl q5
  ·exact .inr ⟨x,a1,a2,a3,a4,cur,(hs x a2 a3).trans a5,a6⟩
theorem OwX.start (h:OwR lo hi es sp V):OwX lo hi V es sp V:=⟨Below.refl _ _,fun _ _ _=>rfl,rfl,h⟩
theorem OwX.put (h:OwX lo hi V es sp w) {g k y:Nat} (h1:lo≤g) (h2:g<hi) (hG:∀ G,sp=some ⟨G,0,none⟩→g≠G) (hy:y<256):OwX lo hi V es sp (w.setCell ⟨g,k,none⟩ (.int .u8 (y:Int))):=by
 have gs:=zaf w g k (.int .u8 (y:Int));have hsz:(w.setCell ⟨g,k,none⟩ (.int .u8 (y:Int))).heap.size=w.heap.size:=by simp
 refine⟨⟨gs.os.trans h.bel.os,gs.tape.trans h.bel.tape,gs.output.trans h.bel.output,Nat.le_trans h.bel.size gs.size,fun i hi'=>?_⟩,fun x hx hn=>?_,hsz.trans h.size,fun i hi'=>?_⟩
 ·rw[← h.bel.block i hi'];by_cases hw:i<w.heap.size
  ·exact gs.block i hw (fun e=>by have:=Option.some.inj e;omega)
  ·rw[Array.getElem?_eq_none (by omega),Array.getElem?_eq_none (by omega)]
 ·rw[← h.far x hx hn];exact gs.block x (by rw[h.size];exact hx) (fun e=>hn (by have:=Option.some.inj e;omega))
 ·obtain⟨G,dp,dc,q1,q6,q7,q2,q3⟩:=h.row i hi';have hGl:=cell_lt q2;refine⟨G,dp,dc,q1,q6,q7,?_,?_⟩
  ·have e:=gs.block G hGl (fun e=>hG G q1 (Option.some.inj e).symm);rw[← q2];simp only[World.cell?,e]
  ·rcases q3 with q3|⟨x,a1,a2,a3,a4,a5⟩
   ·exact .inl q3
   ·exact .inr ⟨x,a1,a2,a3,a4,a5.set g k y hy⟩
end
theorem xor119 (x:Nat) (hx:x<256):∃ y:Nat,bits .xor .u8 (x:Int) 119=(y:Int)∧y<256:=by
 have key:∀ x:Fin 256,∃ y:Fin 256,bits .xor .u8 ((x.val:Nat):Int) 119=((y.val:Nat):Int):=by decide +kernel
 obtain⟨y,hy⟩:=key ⟨x,hx⟩;exact⟨y.val,hy,y.isLt⟩
section
variable {Bv:Nat→Prop} {base B d M R L Lr room N:Nat} {w w' W1:World} {ss tt:Ds} {c cc:Wc} {n nn:Nat} {r1 r2:List (List Nat)} {es:List EntI} {kd ht hv mi mt:Int} {kp:List Int} {h:WdH}
theorem TL.grow (h:TL Bv base w B d M R L Lr room N ss c n tt cc nn) (hs:∀ g,g<w.heap.size→(¬ Bv g∨g=B)→w'.heap[g]? = w.heap[g]?) (hb:Below base w w'):TL Bv base w' B d M R L Lr room N ss c n tt cc nn:=by
 obtain⟨Fv,ep,ec,hs',z,rl,h3⟩:=h.at_;refine⟨h.lowR,h.lowL,h.inB,(hs B (h.ltB h.inB) (.inr rfl)).trans h.bx,fun g=>Fv g∧g<w.heap.size,ep,ec,hs',(z.grow (fun g hg hn=>hs g hg (.inl (fun q=>hn (.inr (.inr (.inr q)))))) hb).sub (fun g hg=>.inl (hg.imp id (fun q=>q.imp id (fun q=>q.imp (fun z=>z.1) id)))),rl.lt.same (hs Lr rl.ltL (.inl (fun q=>(h3 Lr q).2.2 rfl))) (hs R rl.dk.ltR (.inl (fun q=>(h3 R q).2.1 rfl))) (fun g hg=>hs g hg.2 (.inl (fun q=>(h3 g q).1 hg.1))),fun g hg=>⟨fun q=>(h3 g hg).1 q.1,(h3 g hg).2⟩⟩
theorem do0_calls (t:TL Bv base w B d M R L Lr room N ss c n ss c n) (ls:LS room ss c n r1 r2) (lowB:base≤B) (hN:N+2≤302) (hn:n+2<1099511627776) (hl:c.es.length≤100000) (hE:EntsIn (fun g=>g<base) w h.ep es) (h6:sumN es≤6000) :
  Calls Tryz.prog 10 #[.pointer (some ⟨B,0,none⟩),.agg #[.int .i64 0,.slice h.ep es.length h.ec,.int .i64 ht,.int .i64 hv,.int .i64 mi,.int .i64 mt,.slice h.kp kp.length h.kc]] w (zfc Bv base B d M R room (N+2) c n w):=by
 have LE:=zaa t.le;have LTB:=zaa (fun g (hg:Bv g)=>t.ltB hg);have U1:=zaa (show Below w.heap.size w (w.alloc (.cells #[.int .i64 0,.slice h.ep es.length h.ec,.int .i64 ht,.int .i64 hv,.int .i64 mi,.int .i64 mt,.slice h.kp kp.length h.kc] 34)) from(Below.refl w.heap.size w).alloc (Nat.le_refl _) _);have X1:=zaa (zad w (.cells #[.int .i64 0,.slice h.ep es.length h.ec,.int .i64 ht,.int .i64 hv,.int .i64 mi,.int .i64 mt,.slice h.kp kp.length h.kc] 34));have T1:=zaa (t.more (za U1));have FEW:=zaa (show zfs 300 ss from fun x hx=>Nat.le_trans (t.fewC x hx) (by omega));have RIS:=zaa t.rise;have OKC:=zaa t.okC;have INB:=zaa t.inB;have LSH:=zaa ls;have LOB:=zaa lowB;clear t ls lowB;have NX:=zaa ((za LSH).appendN (za OKC) es);have h20:=sumN_len es
 have HD:=zaa (show ∀ e∈es,e.2.2.2.length≤6000 from fun e he=>by
  have h1:=sumN_mem he;have h2:sumN [e]=20+min e.2.2.2.length 6000:=by simp[sumN]
  omega)
 have HE:=zaa (show ∀ V,Below base w V→EntsIn (fun g=>g<base) V h.ep es from fun V u=>hE.same (fun g hg=>u.block g hg));have M3:es.length≤300:=by omega
 have CC:=zaa (zfh h.ep es.length h.ec es _ rfl (by omega) (fun e he=>by have:=za HD e he;omega) (za HE _ ((za U1).mono (za LE))).at_);clear hE h6 h20;go_enter Tryz.func10,Tryz.ntmps10
 go_wp2_with fail
 generalize w.alloc _=W1 at *;obtain⟨Cv,hCv⟩:∃ P:Nat→Prop,P=(fun g=>Bv g∨(w.heap.size≤g∧g<W1.heap.size)):=⟨_,rfl⟩
 rw[← hCv] at T1;have CD:=zaa (show Cv w.heap.size from by rw[hCv];exact .inr ⟨Nat.le_refl _,(Array.getElem?_eq_some_iff.1 (za X1)).1⟩);have CB:=zaa (show ∀ g,Bv g→Cv g from fun g hg=>by rw[hCv];exact .inl hg);clear hCv;go_at_call 28
 refine(za CC).mono ?_;rintro e V1 ⟨sp1,k1,rfl,oe,v1⟩;have T2:=zaa ((za T1).more v1);have XD1:=zaa (zac v1 (za X1));have OR1:=zaa (OwR.of oe);have EI1:=zaa (oe.entsIn);have S1:=zaa v1.size;have A1:=zaa ((za T1).asd v1);clear oe v1 CC;generalize hlo:W1.heap.size=lo at *;generalize hhi:V1.heap.size=hi at *;obtain⟨Dv,hDv⟩:∃ P:Nat→Prop,P=(fun g=>Cv g∨(lo≤g∧g<hi)):=⟨_,rfl⟩
 rw[← hDv] at T2;have DC:=zaa (show ∀ g,Cv g→Dv g from fun g hg=>by rw[hDv];exact .inl hg);have DO:=zaa (show ∀ g,lo≤g→g<hi→Dv g from fun g h1 h2=>by rw[hDv];exact .inr ⟨h1,h2⟩);have CL:=zaa (show ∀ g,Cv g→g<lo from fun g hg=>by rw[← hlo];exact(za T1).ltB hg);have HLO:=zaa (show base≤lo by rw[← hlo];exact(za T1).le);clear hDv hlo hhi;have b1:=(zbz (za T2).bx).2.1;have PC:=zaa (tappend_calls (za T2) (by omega) sp1 es.length k1 es rfl ((za EI1).sub (fun g hg=>.inr (za DO g hg.1 hg.2))) (by omega))
 go_wp2_with fail
 clear b1;go_at_call 29
 refine(za PC).mono ?_;rintro e V2 ⟨rfl,t2,a2⟩;have T3:=zaa t2;have A2:=zaa ((za A1).trans (a2.sub (za DC)));have XD2:=zaa ((a2.av _ (za DC _ (za CD))).trans (za XD1));have OR2:=zaa ((za OR1).same (fun g h1 h2=>a2.av g (za DO g h1 h2)));have EA2:=zaa (((za EI1).same (fun g hg=>a2.av g (za DO g hg.1 hg.2))).at_);have XE2:=zaa (za HE V2 (((za U1).mono (za LE)).trans (za A2).bel)).at_;have SC:=zaa (zda sp1 h.ep es.length k1 h.ec es V2 rfl (by omega) (za EA2) (za XE2));have d1:V2.cell? ⟨w.heap.size,1,none⟩=some (.slice h.ep es.length h.ec):=zab (za XD2) 1 _ rfl;clear t2 a2 PC T2 XD1 OR1 EI1 EA2 XE2 A1;generalize hrr:zei room n c es ss=rr at *;have HRR:=zaa hrr;clear hrr
 go_wp2_with fail
 clear d1;go_at_call 15
 refine(za SC).mono ?_;rintro e V3 ⟨rfl,v3⟩;have T4:=zaa ((za T3).later v3);have A3:=zaa ((za A2).trans (((za T3).asd v3).sub (za DC)));have XD3:=zaa (zac v3 (za XD2));have LV3:=zaa (show ∀ g,Dv g→g<V3.heap.size from fun g hg=>(za T4).ltB hg);have OX3:=zaa (OwX.start ((za OR2).same (w':=V3) (fun g h1 h2=>v3.block g ((za T3).ltB (za DO g h1 h2)))));clear v3 SC T3 A2 XD2 OR2;obtain⟨m,hm⟩:∃ m,es.length=m:=⟨_,rfl⟩
 have HM:=zaa hm;rw[hm] at M3
 go_wp2_with fail
 try rw[hm]
 clear hm;go_loopw [8,9] (fun i _ wr=>∃ (j:Nat),j≤m∧i=.int .i64 (j:Int)∧Hid (OwX lo hi V3 es sp1 wr)) (fun i _ _=>m - (intOf i).toNat)
 case atStart=>exact⟨0,by omega,rfl,OX3⟩
 case round =>
  obtain⟨j,hj,rfl,O5⟩:=hrel;obtain⟨V5,hV5⟩:∃ V5,V5=wr:=⟨_,rfl⟩
  subst hV5;by_cases hjm:j<m
  ·as_aux_lemma =>
   have y0:(0:Int)≤(j:Int):=by omega
   have y1:(j:Int)<(m:Int):=by omega
   have hjl:j<es.length:=by rw[za HM];exact hjm
   obtain⟨nj,hnj⟩:∃ nj,es[j].2.2.2.length=nj:=⟨_,rfl⟩
   have N6:nj≤6000:=by rw[← hnj];exact za HD _ (List.getElem_mem hjl)
   have RW:=zaa (show ∀ W,OwX lo hi V3 es sp1 W→∃ G dp dc,sp1=some ⟨G,0,none⟩∧W.cell? ⟨G,j*4+3,none⟩=some (.slice dp nj dc)∧(0<nj→∃ g,dp=some ⟨g,0,none⟩∧lo≤g∧g<hi∧g≠G∧PB W g nj) from fun W o=>by
    obtain⟨G,dp,dc,q1,_,_,q2,q3⟩:=o.row j hjl;rw[hnj] at q2 q3;refine⟨G,dp,dc,q1,q2,fun h0=>?_⟩;rcases q3 with q3|q3
    ·omega
    ·exact q3)
   clear hjl hnj
   go_wp2_with fail
   go_loopw [9] (fun k wr=>∃ (q:Nat),q≤nj∧k=.int .i64 (q:Int)∧Hid (OwX lo hi V3 es sp1 wr)) (fun k _=>nj - (intOf k).toNat)
   case atStart=>exact⟨0,by omega,rfl,O5⟩
   case round =>
    obtain⟨q,hq,rfl,O6⟩:=hrel;obtain⟨G,dp,dc,hsp,cl,hg⟩:=za RW _ (za O6);by_cases hqn:q<nj
    ·as_aux_lemma =>
     have z0:(0:Int)≤(q:Int):=by omega
     have z1:(q:Int)<(nj:Int):=by omega
     obtain⟨g,rfl,g1,g2,g3,g4⟩:=hg (by omega);obtain⟨bb,hbb,cb,fb⟩:=g4.cell hqn;obtain⟨y,hy,hy2⟩:=xor119 bb hbb;have O7:=zaa ((za O6).put (k:=q) g1 g2 (fun G' e=>by rw[hsp] at e;simp only[Option.some.injEq,Addr.mk.injEq,and_true] at e;rw[← e];exact g3) hy2);subst hsp;clear g4 g1 g2
     go_wp2_with fail
     exact⟨⟨q+1,by omega,by go_num,O7⟩,by simp[intOf];omega⟩
    ·as_aux_lemma =>
     have z1:¬ (q:Int)<(nj:Int):=by omega
     subst hsp;clear hg
     go_wp2_with fail
     exact⟨⟨j+1,by omega,by go_num,O6⟩,by simp[intOf];omega⟩
  ·as_aux_lemma =>
   have y1:¬ (j:Int)<(m:Int):=by omega
   have T5:=zaa ((za T4).grow (w':=V5) (fun g hg hn=>(za O5).far g hg (fun q=>by
    rcases hn with hn|hn
    ·exact hn (za DO g q.1 q.2)
    ·have h5:=za CL g (by rw[hn];exact za CB _ (za INB))
     omega)) ((za O5).bel.mono (za HLO)))
   have A5:=zaa (show Asd Cv base W1 V5 from(za A3).trans ⟨fun g hg=>(za O5).far g (za LV3 g (za DC g hg)) (fun q=>by have h5:=za CL g hg;omega),(za O5).bel.mono (za HLO)⟩);have XD5:=zaa (((za O5).far w.heap.size (Array.getElem?_eq_some_iff.1 (za XD3)).1 (fun q=>by have h5:=za CL _ (za CD);omega)).trans (za XD3));have XE5:=zaa (za HE V5.drew (((za U1).mono (za LE)).trans ((za A5).bel.drew)));have TA:=zaa (((za T5).later ((Below.refl V5.heap.size V5).drew)).sub (za DC) (za CB _ (za INB)));have AA:=zaa ((za A5).trans (((za T5).asd ((Below.refl V5.heap.size V5).drew)).sub (za DC)));have XB:=zaa (za TA).bx;have XD:=zaa (show V5.drew.heap[w.heap.size]? = some (.cells #[.int .i64 0,.slice h.ep es.length h.ec,.int .i64 ht,.int .i64 hv,.int .i64 mi,.int .i64 mt,.slice h.kp kp.length h.kc] 34 (0,0)) from za XD5);have E3:=zaa (za HM);clear T5 A5 T4 A3 OX3 O5 XD3 XD5;have PC:=zaa (trappend_calls (za TA) (za FEW) (za RIS) (by omega) (za LSH).some_ h.ep es.length h.ec es rfl (by rw[za HM];omega) (by rw[za HM];omega) ((za XE5).sub (fun g hg=>.inl hg)));rw[za HRR] at PC
   go_wp2_with fail
   refine wp_region_held_drew (S:=fun u=>u.cell? ⟨B,3,none⟩=some (.pointer (some ⟨Lr,0,none⟩))∧u.cell? ⟨w.heap.size,1,none⟩=some (.slice h.ep es.length h.ec)) (by kernel_rfl) ?_ (fun hHeld=>?_)
   ·try dsimp only
    exact⟨(zbz (za XB)).2.2.2,zab (za XD) 1 _ rfl⟩
   refine hT 0 ?_;refine hT 1 ?_;refine hT 2 ?_;refine hT 3 ?_;refine hT 4 ?_;refine hT 5 ?_;refine hT 6 ?_;refine hT 7 ?_;refine hT 8 ?_;refine hO 9 (fun K hK=>?_);go_simp
   first
    |(refine(za PC).mono ?_;rintro e V ⟨rfl,tt,aa⟩;have TB:=zaa tt;have AA:=zaa ((za AA).trans aa);have XD:=zaa ((aa.av _ (za CD)).trans (za XD));have XB:=zaa tt.bx;clear tt aa)
   go_wp2_with fail
   refine hK.out _ _ ?_ (fun hHeld=>?_)
   ·try dsimp only
    exact⟨(zbz (za XB)).2.2.2,zab (za XD) 1 _ rfl⟩
   clear hK K;refine hP ?_;refine hT 10 ?_;refine hT 11 ?_;refine hT 12 ?_;refine wpAnyH_done (by kernel_rfl) ?_ _;have FE:=zaa (zfc.of (by rw[za HM];omega) (za LE) (za LTB) (za U1) (za CB) (za INB) (za TB) (za AA) (za NX))
   go_wp2_with fail
   go_ret
   exact za FE
end
section
variable {Bv:Nat→Prop} {base B d M R L Lr room N:Nat} {w w' W1:World} {ss tt:Ds} {c cc:Wc} {n nn:Nat} {r1 r2:List (List Nat)}
theorem tstate_calls (h:TL Bv base w B d M R L Lr room N ss c n tt cc nn) (hi:Ix c):Calls Tryz.prog 19 #[.pointer (some ⟨L,0,none⟩)] w (StEnd w c):=by
 obtain⟨Fv,ep,ec,hs,z,_⟩:=h.at_;exact za7 z hi
theorem TL.ceLe (h:TL Bv base w B d M R L Lr room N ss c n tt cc nn):c.es.length≤1000000:=by
 obtain⟨Fv,ep,ec,hs,z,_⟩:=h.at_;exact z.le
end
end
end Go.Proofs.YtofllbpfajppeaaGreatDoor
