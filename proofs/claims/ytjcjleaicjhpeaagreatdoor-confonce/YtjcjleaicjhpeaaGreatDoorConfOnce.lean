/- Proved: a client's command that is done again is told what it was told and changes nothing; for every commands (up to 150), command (open_cmdS) and number; no condition beyond the library's variable that is read (lz_of). -/
import Derived.Test.YtjcjleaicjhpeaaGreatDoorB32
import Derived.Test.YtjcjleaicjhpeaaGreatDoorB01
import Derived.Test.YtjcjleaicjhpeaaGreatDoorTie
import Derived.Test.YtjcjleaicjhpeaaGreatDoorCards
import Derived.Lay
import Derived.MakeChecks
import Derived.SevenTiedAt
import Derived.Stop.Joined
set_option linter.unusedVariables false
set_option maxRecDepth 20000
set_option maxHeartbeats 16000000
namespace Go.Proofs.YtjcjleaicjhpeaaGreatDoor.confOnce
open Go.ChangeShapes Go.WideShapes Go.ChangeAt Go.RowKit
theorem own:ownKnob Tryz.prog.godebug=none:=by kernel_rfl
theorem zd3:laidOutB Tryz.prog=true:=by kernel_rfl
theorem zor {n:Int} (h:(Lit.int .u8 n).wf=true):∃ m:Nat,n=(m:Int)∧m<256:=by
 have:=bounds_u8 h;exact⟨n.toNat,by omega,by omega⟩
theorem walk (a:Option Addr) (cc:Nat) (l:List CmdQ) (c:Cmd) (q:Option Addr×Nat) (n:Nat) (w:World) (hx:l.length≤maxLen) (hC:CmdsAt w a l) (hc:CmdAt w c q.1 q.2) (hn:n<256) (hLz:Lz w) :
  Calls Tryz.prog 4 #[.slice a l.length cc,zam c q.1 q.2,.int .u8 (n:Int)] w fun e w'=>e=.returned (.bool true)∧Below w.heap.size w w':=zky a cc l c q n w hx hC hc hn hLz
theorem zgo (os:Os) (started:os.Started) (H:Type) (enc:TypeId×Value→H) :
  ReturnsInHanded {} Tryz.checked os 4 .any (fun w args=>(Rows.confOnceSpec.pre enc Tryz.prog Tryz.f4 Rows.confOnceRow.domain false w args∧laidMetH Tryz.prog Rows.confOnceRow.laid w)∧sizedMet enc Tryz.prog Tryz.f4 (OpenSpec.ofChange Rows.confOnceSpec) false w args)
   (Rows.confOnceSpec.post enc Tryz.prog Tryz.f4 false true false false):=by
 refine zdh (C:=Tryz.checked) (X:=fun w _=>laidMetH Tryz.prog Rows.confOnceRow.laid w) (fun _ _ _ hh h=>h.of_heap hh) own started (by kernel_rfl) Tryz.func4
  (ChangeSpec.witness_shaped (enc:=enc) (C:=Tryz.checked) (os:=os) (X:=fun w _=>laidMetH Tryz.prog Rows.confOnceRow.laid w) false (World.laidAll Tryz.prog os Rows.confOnceRow.laid) #[.slice none 0 0,.agg #[.int .i64 0,.int .i64 0,.int .i64 0,.int .i64 0,.string ⟨#[]⟩,.string ⟨#[]⟩,.string ⟨#[]⟩,.slice none 0 0],.int .u8 0] 8 (World.laidAll_os _ _ _)
   (World.shaped_of_ZipB (by kernel_rfl) (by kernel_rfl)) (by kernel_rfl) (by kernel_rfl) (by kernel_rfl)
   (by rw[MakeChecks.laidMetH_plain _ _ _ (by kernel_rfl)];exact laidMet_laidAll _ (by kernel_rfl) (by kernel_rfl))) ?_
 intro W base args ds gs before hval0 hW hcnd hsz hL hsh _;have hLz:Lz W:=ziy (by rw[MakeChecks.laidMetH_plain _ _ _ (by kernel_rfl)] at hL;exact hL) hsh;have hval:∀ (j:Nat) t v,Tryz.f4.params[j]? = some t→args[j]? = some v→Value.okWide Tryz.prog W .any base t v:=hval0;have hW':=hW;obtain⟨p,q,hA0,hV,rfl,hfz,hnd⟩:=hW;have hA:DataW.TrodAll enc Tryz.prog W 0 (fun _=>true) true Tryz.f4.params.toList args.toList ds p:=hA0;rw[Tryz.params4] at hA hval;obtain⟨v0,vs0,d0,ds0,p0,q0,hargs,rfl,rfl,h0,r0⟩:=trodAll_cons hA;obtain⟨v1,vs1,d1,ds1,p1,q1,rfl,rfl,rfl,h1,r1⟩:=trodAll_cons r0;obtain⟨v2,vs2,d2,ds2,p2,q2,rfl,rfl,rfl,h2,r2⟩:=trodAll_cons r1;obtain⟨rfl,rfl,rfl⟩:=trodAll_nil r2;obtain rfl:args=#[v0,v1,v2]:=by cases args;simp_all
 obtain⟨rfl,rfl⟩:=trodVars_none hV;obtain⟨a0,len0,c0,rfl⟩:=okWide_slice Tryz.underlying22 (hval 0 22 v0 rfl rfl);have k0:=h0;have lt0:∀ x∈p0,x.block<W.heap.size:=by obtain⟨m,hm⟩:=k0;exact DataW.trod_lt m _ _ _ hm
 obtain⟨l0,rfl,hx0,hb0⟩:=zf1 h0 (fun n hn=>of_decide_eq_true (List.all_eq_true.1 hsz n (DataW.weights_mem_each (j:=0) (d:=d0) rfl rfl n hn)));have k1:=h1;have lt1:∀ x∈p1,x.block<W.heap.size:=by obtain⟨m,hm⟩:=k1;exact DataW.trod_lt m _ _ _ hm
 obtain⟨e1,q1,rfl,hb1⟩:=zi2 (hval 1 33 v1 rfl rfl) h1 (fun n hn=>of_decide_eq_true (List.all_eq_true.1 hsz n (DataW.weights_mem_each (j:=1) (d:=d1) rfl rfl n hn)));obtain⟨n2,rfl,rfl,rfl,w2⟩:=open_int Tryz.underlying5 (hval 2 5 v2 rfl rfl) h2;obtain⟨n2,rfl,hn2⟩:=zor w2;clear hA0 hval0;refine(walk a0 c0 l0 e1 q1 n2 W hx0 hb0 hb1 hn2 hLz).mono fun e W' ⟨he,bel⟩=>?_;subst he;exact⟨_,rfl,_,_,_,[],_,[],hW',trodAll_mk1 (shut_bool Tryz.underlying4 _),(trodAll_cons_mk (Below.trod zd3 (by kernel_rfl) (of_decide_eq_true (by kernel_rfl)) k0 bel lt0) (trodAll_cons_mk (Below.trod zd3 (by kernel_rfl) (of_decide_eq_true (by kernel_rfl)) k1 bel lt1) (trodAll_cons_mk (shut_int Tryz.underlying5 w2) trodAll_mk0))),rfl,bel.frame _,fun h=>by cases h⟩
theorem proved:Rows.ConfOnceSaid :=
 OpenClaim.holds_of_wide 4 Tryz.f4 rfl rfl rfl rfl rfl rfl rfl ⟨rfl,rfl,rfl,rfl,rfl⟩ rfl rfl rfl rfl rfl (by kernel_rfl) Tryz.func4 (by kernel_rfl)
  (of_decide_eq_true (by kernel_rfl)) (by unfold Func.isWrapper;first|(rw[if_pos (by decide +kernel)];kernel_rfl)|(rw[if_neg (by decide +kernel)];exact⟨rfl,rfl⟩))
  (fun os started H enc _=>zgo os started H enc)
theorem card:Rows.ConfOnceCardSaid :=
 Claim7.holds_tied_plain_at .later [] [.data,.pinned] true (true,"89d1760e23aee8cb48403b92d66bdb27becc73d2bdf8439e6d812ff72b70fd86") true proved (fun _ h=>by cases h) (by kernel_rfl) (fun _ h=>by cases h) confOnce_row_tie rfl ⟨rfl,rfl⟩ (by kernel_rfl) rfl
  (fun f fn hf hfn=>by
   obtain rfl:f=4:=Option.some.inj ((show Tryz.prog.funcNamed "tollgate/tollgatelaw08.ConfOnce" = some 4 by kernel_rfl).symm.trans hf) |>.symm;obtain rfl:fn=Tryz.f4:=(Option.some.inj (Tryz.func4.symm.trans hfn)).symm
   exact⟨by kernel_rfl,fun j t ht=>by
    rw[Tryz.params4] at ht;have hm:t∈[22,33,5]:=by simpa using Array.mem_of_getElem? ht
    have hall:([22,33,5].all fun u=>!Tryz.prog.wantsStandIn u)=true:=by kernel_rfl
    exact(show Tryz.prog.wantsStandIn t=false by simpa using List.all_eq_true.1 hall t hm)⟩)
  (by kernel_rfl)
end Go.Proofs.YtjcjleaicjhpeaaGreatDoor.confOnce
namespace Go.Proofs.YtjcjleaicjhpeaaGreatDoor
theorem confOnce_holds:Rows.ConfOnceCardSaid:=confOnce.card
#print axioms confOnce_holds
end Go.Proofs.YtjcjleaicjhpeaaGreatDoor
