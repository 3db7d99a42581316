/- No logs: what is done to them, and that they are the same. -/
import Derived.Test.YtofllbpfajppeaaGreatDoorB39
import Derived.Deep.CutBlock
import Derived.Deep.CutRange
import Derived.Deep.DeepCutAuto
set_option linter.unusedVariables false
set_option maxRecDepth 20000
set_option maxHeartbeats 16000000
namespace Go.Proofs.YtofllbpfajppeaaGreatDoor
section
open Go.ChangeShapes Go.WideShapes Go.ChangeAt Go.RowKit Go.Maps
theorem zl4 (w:World) (v:Value):Calls Tryz.prog 30 #[.pointer none,v] w fun e w'=>e=.returned (.int .i64 1)∧Below w.heap.size w w':=by
 go_enter Tryz.func30,Tryz.ntmps30
 go_wp2
 go_ret
 exact⟨rfl,Below.refl _ _⟩
theorem zqv (w:World):Calls Tryz.prog 33 #[.pointer none] w fun e w'=>e=.returned (.int .i64 1)∧Below w.heap.size w w':=by
 go_enter Tryz.func33,Tryz.ntmps33
 go_wp2
 go_ret
 exact⟨rfl,Below.refl _ _⟩
theorem zk4 (w:World) (i:Int):Calls Tryz.prog 35 #[.pointer none,.int .i64 i] w fun e w'=>e=.returned (.int .i64 1)∧Below w.heap.size w w':=by
 go_enter Tryz.func35,Tryz.ntmps35
 go_wp2
 go_ret
 exact⟨rfl,Below.refl _ _⟩
theorem zd1 (w:World):Calls Tryz.prog 43 #[.pointer none] w fun e w'=>e=.returned (.int .i64 0)∧Below w.heap.size w w':=by
 go_enter Tryz.func43,Tryz.ntmps43
 go_wp2
 go_ret
 exact⟨rfl,Below.refl _ _⟩
theorem zd0 (w:World):Calls Tryz.prog 42 #[.pointer none] w fun e w'=>e=.returned (.string ⟨#[]⟩)∧Below w.heap.size w w':=by
 go_enter Tryz.func42,Tryz.ntmps42
 go_wp2
 go_ret
 exact⟨rfl,Below.refl _ _⟩
theorem zqp (w:World) (t v:Int):Calls Tryz.prog 32 #[.pointer none,.agg #[.int .i64 t,.int .i64 v]] w fun e w'=>e=.returned (.int .i64 1)∧Below w.heap.size w w':=by
 have u:Below w.heap.size w (w.alloc (.cells #[.int .i64 t,.int .i64 v] 29)):=(Below.refl _ _).alloc (Nat.le_refl _) _;go_enter Tryz.func32,Tryz.ntmps32
 go_wp2
 go_ret
 exact⟨rfl,u⟩
theorem zop (w:World) (t v:Int):Calls Tryz.prog 37 #[.pointer none,.agg #[.int .i64 t,.int .i64 v]] w fun e w'=>e=.returned (.int .i64 1)∧Below w.heap.size w w':=by
 have u:Below w.heap.size w (w.alloc (.cells #[.int .i64 t,.int .i64 v] 31)):=(Below.refl _ _).alloc (Nat.le_refl _) _;go_enter Tryz.func37,Tryz.ntmps37
 go_wp2
 go_ret
 exact⟨rfl,u⟩
def PnI (room base:Nat) (w0 wr:World) (B d M R j:Nat):Prop:=∃ N,TB (fun g=>g=B) base wr B d M R none none room N [] []∧N≤2+2*j∧Below base w0 wr
section
variable {Bv:Nat→Prop} {room base B d M R N j:Nat} {lp rp:Option Addr} {ss tt:Ds} {w w0 wr w':World}
theorem TB.pend (h:TB Bv base w B d M R lp rp room N ss tt) {f:Nat} {args:Array Value} (hk:Calls Tryz.prog f args w fun e w'=>e=.returned (.int .i64 1)∧Below w.heap.size w w'):Calls Tryz.prog f args w (zwe (fun C w=>TB C base w B d M R lp rp room N ss tt) base 1 Bv w) :=
 hk.mono fun e w' ⟨h1,h2⟩=>⟨h1,h.later h2,TB.pr.asd h h2⟩
theorem PnI.later (h:PnI room base w0 wr B d M R j) (u:Below wr.heap.size wr w'):PnI room base w0 w' B d M R j:=by
 obtain⟨N,t,h1,h2⟩:=h;exact⟨N,t.later u,h1,h2.trans (u.mono t.le)⟩
theorem PnI.next (h:PnI room base w0 wr B d M R j):PnI room base w0 wr B d M R (j+1):=by
 obtain⟨N,t,h1,h2⟩:=h;exact⟨N,t,by omega,h2⟩
theorem PnI.do_ (h:PnI room base w0 wr B d M R j) (hr:room<22) (hj:j<149) (lowB:base≤B) (hb0:w0.heap.size=base) (x:Wd) (hh:WdH) (hx:WdAt w0 x hh) (h6:zij x.es≤6000) :
  Calls Tryz.prog 10 #[.pointer (some ⟨B,0,none⟩),.agg (zhy x hh)] wr fun e w'=>e=.returned (.bool true)∧PnI room base w0 w' B d M R (j+1):=by
 obtain⟨N,t,hN,u⟩:=h;have fin:∀ e w',zfa (fun C w=>TB C base w B d M R none none room N [] []) base B (fun g=>g=B) wr e w'→e=.returned (.bool true)∧PnI room base w0 w' B d M R (j+1):=fun e w' ⟨h1,h2,h3,_⟩=>⟨h1,N,h2,by omega,u.trans h3⟩
 have fin2:∀ e w',zfa (fun C w=>TB C base w B d M R none none room (N+2) [] []) base B (fun g=>g=B) wr e w'→e=.returned (.bool true)∧PnI room base w0 w' B d M R (j+1):=fun e w' ⟨h1,h2,h3,_⟩=>⟨h1,N+2,h2,by omega,u.trans h3⟩
 obtain⟨kd,es,ht,hv,mi,mt,kp⟩:=x;have hE:EntsIn (fun g=>g<base) wr hh.ep es:=by
  have:=EntsIn.ofLt hx.en;rw[hb0] at this;exact this.same (fun g hg=>u.block g hg)
 have hlo:∀ b off,hh.kp=some ⟨b,off,none⟩→0<kp.length→b<base:=fun b off e h0=>by
  obtain⟨b',off',e',hc⟩:=hx.ks.cell 0 h0;rw[e] at e';simp only[Option.some.injEq,Addr.mk.injEq,and_true] at e';rw[e'.1,← hb0];exact zg hc
 have hI:IntsAt wr hh.kp kp:=hx.ks.same (fun b off e h0=>u.block b (hlo b off e h0));have ho:∀ (C:Nat→Prop) W,TB C base W B d M R none none room N [] []→_:=fun C W t=>qnone t lowB (by omega) hr;unfold zhy;dsimp only at h6 ⊢;by_cases k0:kd=0
 ·subst k0;exact(zmr TB.pr TB.pr TB.pr t hE h6 1 (fun C W sp k t _=>t.pend (znv W _)) (fun C W t _=>t.pend (zl4 W _))).mono fin
 by_cases k1:kd=1
 ·subst k1;exact(zms TB.pr TB.pr TB.pr t 1 (fun C W t=>t.pend (zl6 W ht hv)) (fun C W t=>t.pend (zqp W ht hv))).mono fin
 by_cases k2:kd=2
 ·subst k2;exact(zmt TB.pr TB.pr TB.pr t 1 (fun C W t=>t.pend (zsv W)) (fun C W t=>t.pend (zqv W))).mono fin
 by_cases k3:kd=3
 ·subst k3;exact(zmu TB.pr TB.pr TB.pr t 1 (fun C W t=>t.pend (zly W mi)) (fun C W t=>t.pend (zk4 W mi))).mono fin
 by_cases k4:kd=4
 ·subst k4;exact(zmv TB.pr TB.pr TB.pr t 1 (fun C W t=>t.pend (zql W mi mt)) (fun C W t=>t.pend (zop W mi mt))).mono fin
 by_cases k5:kd=5
 ·subst k5;exact(zmw TB.pr TB.pr TB.pr t hI hlo (fun C W t i=>t.callL (N':=N) (uu:=[]) (P:=fun e=>e=.returned (.tuple #[])) (fun Av h1 _=>zfd h1 hh.kp kp.length hh.kc kp rfl i (fun b off e h0=>.inl (hlo b off e h0)))) (fun C W t i=>t.callR (uu:=[]) (P:=fun e=>e=.returned (.tuple #[])) (fun Fv h2=>(zj0 (RSo.start h2) hh.kp kp.length hh.kc kp rfl i).mono fun e w' ⟨h1,h2,_⟩=>⟨h1,h2⟩)) _ (fun C D w q=>q.sub) ho).mono fin2
 by_cases k6:kd=6
 ·subst k6;exact(zmx TB.pr t _ (fun C D w q=>q.sub) ho).mono fin2
 ·exact(zmy TB.pr t ⟨k0,k1,k2,k3,k4,k5,k6⟩).mono fin
end
section
variable {Bv:Nat→Prop} {base B d M R room N:Nat} {w w':World}
theorem zsb (h:TB Bv base w B d M R none none room N [] []):Calls Tryz.prog 11 #[.pointer (some ⟨B,0,none⟩)] w fun e w'=>e=.returned (.bool true)∧Below w.heap.size w w':=by
 have BX:=zaa (fun W (u:Below w.heap.size w W)=>(h.later u).bx);have b2:=(zav h.bx).2.2.1
 have NC:=zaa (show Calls Tryz.prog 39 #[.pointer (some ⟨R,0,none⟩)] w fun e w'=>∃ sp m k,e=.returned (.slice sp m k)∧([]:Ds).length=m∧zfv w.heap.size w' sp k (([]:Ds).map (·.1))∧Below w.heap.size w w' from by
  obtain⟨Fv,h1,h2,_⟩:=h.at_;refine(zhd (RSo.start h2)).mono ?_;rintro e w' ⟨sp,m,k,h1,h2,h3,_,h4⟩
  exact⟨sp,m,k,h1,h2,h3,h4⟩)
 have DC:=zaa (show ∀ W,Below w.heap.size w W→Calls Tryz.prog 41 #[.pointer (some ⟨d,0,none⟩)] W fun e w'=>∃ sp m k,e=.returned (.slice sp m k)∧([]:Ds).length=m∧zfv W.heap.size w' sp k (([]:Ds).map (·.1))∧Below W.heap.size W w' from fun W u=>by
  obtain⟨Fv,h1,_⟩:=(h.later u).at_
  exact zep h1)
 clear h;go_enter Tryz.func11,Tryz.ntmps11
 go_wp2_with fail
 clear b2;go_at_call 39
 refine(za NC).mono ?_;rintro e V1 ⟨lp,ln,lk,rfl,hn1,o1,v1⟩;have U:=zaa (v1.drew);have HN:=zaa hn1;have O1:=zaa (show zfv w.heap.size V1.drew lp lk (([]:Ds).map (·.1)) from o1.later ((Below.refl _ _).drew));have L0:(ln:Int)=0:=by rw[← hn1];rfl
 have HL0:=zaa L0;clear o1 v1 NC hn1 L0
 go_wp2_with fail
 refine wp_region_held_drew (S:=fun u=>u.cell? ⟨B,0,none⟩=some (.pointer (some ⟨d,0,none⟩))∧u.cell? ⟨B,1,none⟩=some (.pointer none)∧u.cell? ⟨B,3,none⟩=some (.pointer none)) (by kernel_rfl) ?_ (fun hHeld=>?_)
 ·try dsimp only
  exact⟨(zav (za BX _ (za U))).1,(zav (za BX _ (za U))).2.1,(zav (za BX _ (za U))).2.2.2⟩
 refine hT 0 ?_;refine hT 1 ?_;refine hT 2 ?_;refine hT 3 ?_;refine hT 5 ?_;refine hO 4 (fun K hK=>?_);go_simp
 first
  |(go_at_call 41
    refine(za DC _ (za U)).mono ?_;rintro e V ⟨np,m2,nk,rfl,hn2,o2,v⟩;have hnn:m2=ln:=hn2.symm.trans (za HN);subst hnn;have U:=zaa ((za U).trans (v.mono (za U).size));have ST:=zaa (zbg _ _ V (([]:Ds).map (·.1)) m2 (by rw[List.length_map];exact hn2) (by rw[← hn2];simp) np lp nk lk o2 ((za O1).later v))
    clear v o2 hn2 O1)
  |(go_at_call 40
    refine(za ST).mono ?_;rintro e V ⟨rfl,v⟩;have U:=zaa ((za U).trans (v.mono (za U).size))
    clear v)
  |(go_at_call 23
    refine(zee _).mono ?_;rintro e V ⟨rfl,v⟩;have U:=zaa ((za U).trans (v.mono (za U).size))
    clear v)
  |(go_at_call 42
    refine(zd0 _).mono ?_;rintro e V ⟨rfl,v⟩;have U:=zaa ((za U).trans (v.mono (za U).size))
    clear v)
  |(go_at_call 24
    refine(zef _).mono ?_;rintro e V ⟨rfl,v⟩;have U:=zaa ((za U).trans (v.mono (za U).size))
    clear v)
  |(go_at_call 43
    refine(zd1 _).mono ?_;rintro e V ⟨rfl,v⟩;have U:=zaa ((za U).trans (v.mono (za U).size))
    clear v)
 go_wp2_with fail
 refine hK.out _ _ ?_ (fun hHeld=>?_)
 ·try dsimp only
  exact⟨(zav (za BX _ (za U))).1,(zav (za BX _ (za U))).2.1,(zav (za BX _ (za U))).2.2.2⟩
 clear hK K;refine hP ?_;refine hO 6 (fun K hK=>?_);go_simp
 first
  |(go_at_call 41
    refine(za DC _ (za U)).mono ?_;rintro e V ⟨np,m2,nk,rfl,hn2,o2,v⟩;have hnn:m2=ln:=hn2.symm.trans (za HN);subst hnn;have U:=zaa ((za U).trans (v.mono (za U).size));have ST:=zaa (zbg _ _ V (([]:Ds).map (·.1)) m2 (by rw[List.length_map];exact hn2) (by rw[← hn2];simp) np lp nk lk o2 ((za O1).later v))
    clear v o2 hn2 O1)
  |(go_at_call 40
    refine(za ST).mono ?_;rintro e V ⟨rfl,v⟩;have U:=zaa ((za U).trans (v.mono (za U).size))
    clear v)
  |(go_at_call 23
    refine(zee _).mono ?_;rintro e V ⟨rfl,v⟩;have U:=zaa ((za U).trans (v.mono (za U).size))
    clear v)
  |(go_at_call 42
    refine(zd0 _).mono ?_;rintro e V ⟨rfl,v⟩;have U:=zaa ((za U).trans (v.mono (za U).size))
    clear v)
  |(go_at_call 24
    refine(zef _).mono ?_;rintro e V ⟨rfl,v⟩;have U:=zaa ((za U).trans (v.mono (za U).size))
    clear v)
  |(go_at_call 43
    refine(zd1 _).mono ?_;rintro e V ⟨rfl,v⟩;have U:=zaa ((za U).trans (v.mono (za U).size))
    clear v)
 go_wp2_with fail
 refine hK.out _ _ ?_ (fun hHeld=>?_)
 ·try dsimp only
  exact⟨(zav (za BX _ (za U))).1,(zav (za BX _ (za U))).2.1,(zav (za BX _ (za U))).2.2.2⟩
 clear hK K;refine hP ?_;refine hT 7 ?_;refine hT 8 ?_;refine hT 9 ?_;refine hT 10 ?_;refine hT 11 ?_;refine hT 12 ?_;refine hT 14 ?_;refine hT 15 ?_;refine hT 16 ?_;refine hT 17 ?_;refine hO 13 (fun K hK=>?_);go_simp
 first
  |(go_at_call 41
    refine(za DC _ (za U)).mono ?_;rintro e V ⟨np,m2,nk,rfl,hn2,o2,v⟩;have hnn:m2=ln:=hn2.symm.trans (za HN);subst hnn;have U:=zaa ((za U).trans (v.mono (za U).size));have ST:=zaa (zbg _ _ V (([]:Ds).map (·.1)) m2 (by rw[List.length_map];exact hn2) (by rw[← hn2];simp) np lp nk lk o2 ((za O1).later v))
    clear v o2 hn2 O1)
  |(go_at_call 40
    refine(za ST).mono ?_;rintro e V ⟨rfl,v⟩;have U:=zaa ((za U).trans (v.mono (za U).size))
    clear v)
  |(go_at_call 23
    refine(zee _).mono ?_;rintro e V ⟨rfl,v⟩;have U:=zaa ((za U).trans (v.mono (za U).size))
    clear v)
  |(go_at_call 42
    refine(zd0 _).mono ?_;rintro e V ⟨rfl,v⟩;have U:=zaa ((za U).trans (v.mono (za U).size))
    clear v)
  |(go_at_call 24
    refine(zef _).mono ?_;rintro e V ⟨rfl,v⟩;have U:=zaa ((za U).trans (v.mono (za U).size))
    clear v)
  |(go_at_call 43
    refine(zd1 _).mono ?_;rintro e V ⟨rfl,v⟩;have U:=zaa ((za U).trans (v.mono (za U).size))
    clear v)
 go_wp2_with fail
 refine hK.out _ _ ?_ (fun hHeld=>?_)
 ·try dsimp only
  exact⟨(zav (za BX _ (za U))).1,(zav (za BX _ (za U))).2.1,(zav (za BX _ (za U))).2.2.2⟩
 clear hK K;refine hP ?_;refine hO 18 (fun K hK=>?_);go_simp
 first
  |(go_at_call 41
    refine(za DC _ (za U)).mono ?_;rintro e V ⟨np,m2,nk,rfl,hn2,o2,v⟩;have hnn:m2=ln:=hn2.symm.trans (za HN);subst hnn;have U:=zaa ((za U).trans (v.mono (za U).size));have ST:=zaa (zbg _ _ V (([]:Ds).map (·.1)) m2 (by rw[List.length_map];exact hn2) (by rw[← hn2];simp) np lp nk lk o2 ((za O1).later v))
    clear v o2 hn2 O1)
  |(go_at_call 40
    refine(za ST).mono ?_;rintro e V ⟨rfl,v⟩;have U:=zaa ((za U).trans (v.mono (za U).size))
    clear v)
  |(go_at_call 23
    refine(zee _).mono ?_;rintro e V ⟨rfl,v⟩;have U:=zaa ((za U).trans (v.mono (za U).size))
    clear v)
  |(go_at_call 42
    refine(zd0 _).mono ?_;rintro e V ⟨rfl,v⟩;have U:=zaa ((za U).trans (v.mono (za U).size))
    clear v)
  |(go_at_call 24
    refine(zef _).mono ?_;rintro e V ⟨rfl,v⟩;have U:=zaa ((za U).trans (v.mono (za U).size))
    clear v)
  |(go_at_call 43
    refine(zd1 _).mono ?_;rintro e V ⟨rfl,v⟩;have U:=zaa ((za U).trans (v.mono (za U).size))
    clear v)
 go_wp2_with fail
 refine hK.out _ _ ?_ (fun hHeld=>?_)
 ·try dsimp only
  exact⟨(zav (za BX _ (za U))).1,(zav (za BX _ (za U))).2.1,(zav (za BX _ (za U))).2.2.2⟩
 clear hK K;refine hP ?_;refine hT 19 ?_;refine hT 20 ?_;refine hT 21 ?_;refine hT 22 ?_;refine hT 23 ?_;refine hT 24 ?_;refine hT 25 ?_;refine hT 27 ?_;refine hT 28 ?_;refine hT 29 ?_;refine hT 30 ?_;refine hO 26 (fun K hK=>?_);go_simp
 first
  |(go_at_call 41
    refine(za DC _ (za U)).mono ?_;rintro e V ⟨np,m2,nk,rfl,hn2,o2,v⟩;have hnn:m2=ln:=hn2.symm.trans (za HN);subst hnn;have U:=zaa ((za U).trans (v.mono (za U).size));have ST:=zaa (zbg _ _ V (([]:Ds).map (·.1)) m2 (by rw[List.length_map];exact hn2) (by rw[← hn2];simp) np lp nk lk o2 ((za O1).later v))
    clear v o2 hn2 O1)
  |(go_at_call 40
    refine(za ST).mono ?_;rintro e V ⟨rfl,v⟩;have U:=zaa ((za U).trans (v.mono (za U).size))
    clear v)
  |(go_at_call 23
    refine(zee _).mono ?_;rintro e V ⟨rfl,v⟩;have U:=zaa ((za U).trans (v.mono (za U).size))
    clear v)
  |(go_at_call 42
    refine(zd0 _).mono ?_;rintro e V ⟨rfl,v⟩;have U:=zaa ((za U).trans (v.mono (za U).size))
    clear v)
  |(go_at_call 24
    refine(zef _).mono ?_;rintro e V ⟨rfl,v⟩;have U:=zaa ((za U).trans (v.mono (za U).size))
    clear v)
  |(go_at_call 43
    refine(zd1 _).mono ?_;rintro e V ⟨rfl,v⟩;have U:=zaa ((za U).trans (v.mono (za U).size))
    clear v)
 go_wp2_with fail
 refine hK.out _ _ ?_ (fun hHeld=>?_)
 ·try dsimp only
  exact⟨(zav (za BX _ (za U))).1,(zav (za BX _ (za U))).2.1,(zav (za BX _ (za U))).2.2.2⟩
 clear hK K;refine hP ?_;refine hO 31 (fun K hK=>?_);go_simp
 first
  |(go_at_call 41
    refine(za DC _ (za U)).mono ?_;rintro e V ⟨np,m2,nk,rfl,hn2,o2,v⟩;have hnn:m2=ln:=hn2.symm.trans (za HN);subst hnn;have U:=zaa ((za U).trans (v.mono (za U).size));have ST:=zaa (zbg _ _ V (([]:Ds).map (·.1)) m2 (by rw[List.length_map];exact hn2) (by rw[← hn2];simp) np lp nk lk o2 ((za O1).later v))
    clear v o2 hn2 O1)
  |(go_at_call 40
    refine(za ST).mono ?_;rintro e V ⟨rfl,v⟩;have U:=zaa ((za U).trans (v.mono (za U).size))
    clear v)
  |(go_at_call 23
    refine(zee _).mono ?_;rintro e V ⟨rfl,v⟩;have U:=zaa ((za U).trans (v.mono (za U).size))
    clear v)
  |(go_at_call 42
    refine(zd0 _).mono ?_;rintro e V ⟨rfl,v⟩;have U:=zaa ((za U).trans (v.mono (za U).size))
    clear v)
  |(go_at_call 24
    refine(zef _).mono ?_;rintro e V ⟨rfl,v⟩;have U:=zaa ((za U).trans (v.mono (za U).size))
    clear v)
  |(go_at_call 43
    refine(zd1 _).mono ?_;rintro e V ⟨rfl,v⟩;have U:=zaa ((za U).trans (v.mono (za U).size))
    clear v)
 go_wp2_with fail
 refine hK.out _ _ ?_ (fun hHeld=>?_)
 ·try dsimp only
  exact⟨(zav (za BX _ (za U))).1,(zav (za BX _ (za U))).2.1,(zav (za BX _ (za U))).2.2.2⟩
 clear hK K;refine hP ?_;refine hT 32 ?_;refine hT 33 ?_;refine wpAnyH_done (by kernel_rfl) ?_ _;obtain⟨V7,hV7⟩:∃ V',V'=V:=⟨_,rfl⟩
 subst hV7;have L0:=za HL0;have L1:¬ (0:Int)<(m2:Int):=by omega
 clear ST
 go_wp2_with fail
 go_loopw [4,5,6,7,8,9,10,11,12] (fun i _ _ _ _ _ _ _ _ wr=>i=.int .i64 0∧wr=V7) (fun _ _ _ _ _ _ _ _ _ _=>0)
 case atStart=>exact⟨rfl,rfl⟩
 case round =>
  obtain⟨rfl,rfl⟩:=hrel;have b3:wr.drew.cell? ⟨B,3,none⟩=some (.pointer none):=(zav (za BX _ (za U))).2.2.2;have FE:=zaa (za U)
  go_wp2_with fail
  refine wp_region_held_drew (S:=fun u=>u.cell? ⟨B,3,none⟩=some (.pointer none)) (by kernel_rfl) ?_ (fun hHeld=>?_)
  ·try dsimp only
   exact b3
  refine hT 0 ?_;refine hT 1 ?_;refine hT 2 ?_;refine hT 3 ?_;refine hT 4 ?_;refine hT 5 ?_;refine hN 6 ?_;refine hN 7 ?_;refine hN 8 ?_;refine hN 9 ?_;refine hN 11 ?_;refine hN 12 ?_;refine hN 13 ?_;refine hN 14 ?_;refine hN 15 ?_;refine hN 16 ?_;refine hN 17 ?_;refine zir 10 (by kernel_rfl) rfl (by rfl) (by assumption) ?_;refine hP ?_;refine zir 18 (by kernel_rfl) rfl (by rfl) (by assumption) ?_;refine hP ?_;refine hT 19 ?_;refine hT 20 ?_;refine wpAnyH_done (by kernel_rfl) ?_ _
  go_wp2_with fail
  go_ret
  exact⟨rfl,(za FE).drew⟩
end
def PuI (room base:Nat) (w0 wr:World) (B d M R j:Nat):Prop:=(22≤room∧PlI room base w0 wr B d M R j)∨(room<22∧PnI room base w0 wr B d M R j)
section
variable {room base B d M R j:Nat} {w0 wr w':World}
theorem PuI.later (h:PuI room base w0 wr B d M R j) (u:Below wr.heap.size wr w'):PuI room base w0 w' B d M R j:=h.imp (fun q=>⟨q.1,q.2.later u⟩) (fun q=>⟨q.1,q.2.later u⟩)
theorem PuI.next (h:PuI room base w0 wr B d M R j):PuI room base w0 wr B d M R (j+1):=h.imp (fun q=>⟨q.1,q.2.next⟩) (fun q=>⟨q.1,q.2.next⟩)
theorem PuI.bel (h:PuI room base w0 wr B d M R j):Below base w0 wr:=by
 rcases h with⟨_,_,_,_,_,_,_,_,_,_,_,_,_,_,q⟩|⟨_,_,_,_,q⟩
 ·exact q
 ·exact q
theorem PuI.do_ (h:PuI room base w0 wr B d M R j) (hj:j<149) (lowB:base≤B) (hb0:w0.heap.size=base) (x:Wd) (hh:WdH) (hx:WdAt w0 x hh) (h6:zij x.es≤6000) :
  Calls Tryz.prog 10 #[.pointer (some ⟨B,0,none⟩),.agg (zhy x hh)] wr fun e w'=>e=.returned (.bool true)∧PuI room base w0 w' B d M R (j+1):=by
 rcases h with⟨hr,h⟩|⟨hr,h⟩
 ·exact(h.do_ (by omega) lowB hb0 x hh hx h6).mono fun e w' q=>⟨q.1,.inl ⟨hr,q.2⟩⟩
 ·exact(h.do_ hr hj lowB hb0 x hh hx h6).mono fun e w' q=>⟨q.1,.inr ⟨hr,q.2⟩⟩
theorem PuI.same_ (h:PuI room base w0 wr B d M R j):Calls Tryz.prog 11 #[.pointer (some ⟨B,0,none⟩)] wr fun e w'=>e=.returned (.bool true)∧Below wr.heap.size wr w':=by
 rcases h with⟨hr,L,Lr,N,ss,c,n,r1,r2,t,ls,_⟩|⟨hr,N,t,_⟩
 ·exact zkg t ls
 ·exact zsb t
end
end
end Go.Proofs.YtofllbpfajppeaaGreatDoor
section
namespace Go.Proofs.YtofllbpfajppeaaGreatDoor.walPlays
open Go.ChangeShapes Go.WideShapes Go.ChangeAt Go.RowKit Go.Maps
theorem walk0 (n0:Int) (a1:Option Addr) (c1:Nat) (l1:List Wd) (w:World) (bn0:-9223372036854775808≤n0∧n0≤9223372036854775807) (hx1:l1.length≤maxLen) (hb1:WdsAt w a1 l1) (hTz:Tz w) :
  Calls Tryz.prog 3 #[.int .i64 n0,.slice a1 l1.length c1] w fun e w'=>e=.returned (.bool true)∧Below w.heap.size w w':=by
 have TZ:=zaa hTz;have HB0:=zaa hb1;simp only[maxLen] at hx1;generalize hq0:l1.length=m0 at *;have Q0:=zaa hq0;have NC:=zaa (zf9 w n0 hTz);clear hTz hb1 hq0 bn0;generalize n0.toNat=room at *;go_enter Tryz.func3,Tryz.ntmps3
 go_wp2_with fail
 go_at_call 8
 refine(za NC).mono ?_;rintro e V1 ⟨B,d,M,R,rfl,v1,lowB,hcase⟩
 have I1:=zaa (show PuI room w.heap.size w V1 B d M R 0 from by
  rcases hcase with⟨hr,t⟩|⟨hr,L,Lr,t⟩
  ·exact .inr ⟨hr,2,t,by omega,v1⟩
  ·exact .inl ⟨hr,L,Lr,2,ss1,wc0,1,_,_,t,(LS.begin hr).2,by omega,by omega,by simp[wc0],v1⟩)
 have LB:=zaa lowB;clear hcase v1 lowB NC
 go_upto_block 0 with fail
 go_cut [7] (fun _ wc=>∃ (j:Nat),j≤100∧Hid (PuI room w.heap.size w wc B d M R j))
 case first =>
  as_aux_lemma =>
  go_wp2_with fail
  go_loopw [7] (fun q wr=>∃ (j:Nat),j≤m0∧j≤100∧q=.int .i64 (j:Int)∧Hid (PuI room w.heap.size w wr B d M R j)) (fun q _=>100 - (intOf q).toNat)
  case atStart=>exact⟨0,by omega,by omega,rfl,I1⟩
  case round =>
   obtain⟨j,hj,hj6,rfl,I3⟩:=hrel;by_cases hj1:j<m0
   ·have y1:(j:Int)<(m0:Int):=by omega
    by_cases hj2:j<100
    ·have y0:(0:Int)≤(j:Int):=by omega
     have y2:(j:Int)<100:=by omega
     have hjl:j<l1.length:=by rw[za Q0];exact hj1
     have bb3:Below w.heap.size w wr:=(za I3).bel;obtain⟨b,off,h,rfl,⟨q0,q1,q2,q3,q4,q5,q6⟩,hA⟩:=(za HB0).cell j hjl;have p0:=cell_later bb3 q0;have p1:=cell_later bb3 q1;have p2:=cell_later bb3 q2;have p3:=cell_later bb3 q3;have p4:=cell_later bb3 q4;have p5:=cell_later bb3 q5;have p6:=cell_later bb3 q6;have K0:=zaa q0;clear q0 q1 q2 q3 q4 q5 q6;have HA:=zaa hA;have SH:=zaa (zfn _ h wr (hA.later bb3));generalize l1[j]=x at *;obtain⟨kd,es,ht,hv,mi,mt,kp⟩:=x;unfold zhy at SH;dsimp only at p0 p1 p2 p3 p4 p5 p6 SH K0;clear hA bb3 hjl
     go_wp2_with fail
     go_at_call 9
     refine(za SH).mono ?_;rintro e V4 ⟨b4,rfl,hb4,v4⟩;have I4:=zaa ((za I3).later v4);cases b4 with
     |false =>
      have I5:=zaa (za I4).next;clear hb4 v4 SH p0 p1 p2 p3 p4 p5 p6
      go_wp2
      exact⟨⟨j+1,by omega,by omega,by go_num,I5⟩,by simp[intOf];omega⟩
     |true =>
      have r0:=cell_later v4 p0;have r1:=cell_later v4 p1;have r2:=cell_later v4 p2;have r3:=cell_later v4 p3;have r4:=cell_later v4 p4;have r5:=cell_later v4 p5;have r6:=cell_later v4 p6;have DC:=zaa ((za I4).do_ (by omega) (za LB) rfl ⟨kd,es,ht,hv,mi,mt,kp⟩ h (za HA) (hb4 rfl).1);unfold zhy at DC;dsimp only at DC;clear hb4 v4 SH p0 p1 p2 p3 p4 p5 p6
      go_wp2_with fail
      clear r0 r1 r2 r3 r4 r5 r6;go_at_call 10
      refine(za DC).mono ?_;rintro e V5 ⟨rfl,i5⟩;have I5:=zaa i5;have k5:=cell_later i5.bel (za K0);clear i5 DC;by_cases hk:4<kd
      ·have SC:=zaa (za I5).same_
       go_wp2_with fail
       clear k5;go_at_call 11
       refine(za SC).mono ?_;rintro e V6 ⟨rfl,v6⟩;have I6:=zaa ((za I5).later v6);clear v6 SC
       go_wp2
       exact⟨⟨j+1,by omega,by omega,by go_num,I6⟩,by simp[intOf];omega⟩
      ·go_wp2
       exact⟨⟨j+1,by omega,by omega,by go_num,I5⟩,by simp[intOf];omega⟩
    ·have y2:¬ (j:Int)<100:=by omega
     go_wp2_with fail
     go_meet
     case rel=>exact⟨j,by omega,I3⟩
   ·have y1:¬ (j:Int)<(m0:Int):=by omega
    go_wp2_with fail
    go_meet
    case rel=>exact⟨j,by omega,I3⟩
 case rest =>
  as_aux_lemma =>
  obtain⟨j,hj6,I9⟩:=hcut;have B9:=zaa (za I9).bel;have LC:=zaa (zbv _ ((za TZ).later (za B9)))
  go_wp2_with fail
  go_at_call 12
  refine(za LC).mono ?_;rintro e V7 ⟨rfl,v7⟩;have I7:=zaa ((za I9).later v7);have SC:=zaa (za I7).same_;have B7:=zaa (za I7).bel;clear v7 LC
  go_wp2_with fail
  go_at_call 11
  refine(za SC).mono ?_;rintro e V8 ⟨rfl,v8⟩;have FE:=zaa ((za B7).trans (v8.mono (za B7).size));clear v8 SC
  go_wp2
  go_ret
  exact⟨rfl,za FE⟩
end Go.Proofs.YtofllbpfajppeaaGreatDoor.walPlays
end
