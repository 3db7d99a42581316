/- Proved: what is synced is there, to the last entry, behind every crash, behind every script of up to 60 deeds and whatever is kept; no condition beyond the tables that the row lists (tz_of). -/
import Derived.Test.YtofllbpfajppeaaGreatDoorB09
import Derived.Test.YtofllbpfajppeaaGreatDoorB43
import Derived.Test.YtofllbpfajppeaaGreatDoorTie
import Derived.Test.YtofllbpfajppeaaGreatDoorCards
import Derived.Lay
import Derived.MakeChecks
import Derived.SevenTiedAt
import Derived.Stop.Joined
set_option linter.unusedVariables false
set_option maxRecDepth 20000
set_option maxHeartbeats 16000000
namespace Go.Proofs.YtofllbpfajppeaaGreatDoor.walSynced
open Go.ChangeShapes Go.WideShapes Go.ChangeAt Go.RowKit
theorem own:ownKnob Tryz.prog.godebug=none:=by kernel_rfl
theorem zg3:laidOutB Tryz.prog=true:=by kernel_rfl
theorem walk (a0:Option Addr) (c0:Nat) (l0:List Wd) (a1:Option Addr) (c1:Nat) (l1:List Int) (w:World) (hx0:l0.length≤maxLen) (hb0:WdsAt w a0 l0) (hx1:l1.length≤maxLen) (hb1:IntsAt w a1 l1) (hTz:Tz w) :
  Calls Tryz.prog 5 #[.slice a0 l0.length c0,.slice a1 l1.length c1] w fun e w'=>e=.returned (.bool true)∧Below w.heap.size w w' :=
 walk0 a0 c0 l0 a1 c1 l1 w hx0 hb0 hx1 hb1 hTz
theorem zkt (os:Os) (started:os.Started) (H:Type) (enc:TypeId×Value→H) :
  ReturnsInHanded {} Tryz.checked os 5 .any (fun w args=>(Rows.walSyncedSpec.pre enc Tryz.prog Tryz.f5 Rows.walSyncedRow.domain false w args∧laidMetH Tryz.prog Rows.walSyncedRow.laid w)∧sizedMet enc Tryz.prog Tryz.f5 (OpenSpec.ofChange Rows.walSyncedSpec) false w args)
   (Rows.walSyncedSpec.post enc Tryz.prog Tryz.f5 false true false false):=by
 refine returnsInHanded_of_change_and (C:=Tryz.checked) (X:=fun w _=>laidMetH Tryz.prog Rows.walSyncedRow.laid w) (fun _ _ _ hh h=>h.of_heap hh) own started (by kernel_rfl) Tryz.func5
  (ChangeSpec.witness_shaped (enc:=enc) (C:=Tryz.checked) (os:=os) (X:=fun w _=>laidMetH Tryz.prog Rows.walSyncedRow.laid w) false (World.laidAll Tryz.prog os Rows.walSyncedRow.laid) #[.slice none 0 0,.slice none 0 0] 8 (World.laidAll_os _ _ _)
   (World.shaped_of_ZipB (by kernel_rfl) (by kernel_rfl)) (by kernel_rfl) (by kernel_rfl) (by kernel_rfl)
   (by rw[MakeChecks.laidMetH_plain _ _ _ (by kernel_rfl)];exact laidMet_laidAll _ (by kernel_rfl) (by kernel_rfl))) ?_
 intro W base args ds gs before hval0 hW hcnd hsz hL _;have hTz:Tz W:=zrg (by rw[MakeChecks.laidMetH_plain _ _ _ (by kernel_rfl)] at hL;exact hL);have hval:∀ (j:Nat) t v,Tryz.f5.params[j]? = some t→args[j]? = some v→Value.okWide Tryz.prog W .any base t v:=hval0;have hW':=hW;obtain⟨p,q,hA0,hV,rfl,hfz,hnd⟩:=hW;have hA:DataW.TrodAll enc Tryz.prog W 0 (fun _=>true) true Tryz.f5.params.toList args.toList ds p:=hA0;rw[Tryz.params5] at hA hval;obtain⟨v0,vs0,d0,ds0,p0,q0,hargs,rfl,rfl,h0,r0⟩:=trodAll_cons hA;obtain⟨v1,vs1,d1,ds1,p1,q1,rfl,rfl,rfl,h1,r1⟩:=trodAll_cons r0;obtain⟨rfl,rfl,rfl⟩:=trodAll_nil r1;obtain rfl:args=#[v0,v1]:=by cases args;simp_all
 obtain⟨rfl,rfl⟩:=trodVars_none hV;obtain⟨a0,len0,c0,rfl⟩:=okWide_slice Tryz.underlying22 (hval 0 22 v0 rfl rfl);have k0:=h0;have lt0:∀ x∈p0,x.block<W.heap.size:=by obtain⟨m,hm⟩:=k0;exact DataW.trod_lt m _ _ _ hm
 obtain⟨l0,rfl,hx0,hb0⟩:=zhh h0;obtain⟨a1,len1,c1,rfl⟩:=okWide_slice Tryz.underlying32 (hval 1 32 v1 rfl rfl);have k1:=h1;have lt1:∀ x∈p1,x.block<W.heap.size:=by obtain⟨m,hm⟩:=k1;exact DataW.trod_lt m _ _ _ hm
 obtain⟨l1,rfl,hx1,hb1⟩:=zBy h1;clear hA0 hval0;refine(walk a0 c0 l0 a1 c1 l1 W hx0 hb0 hx1 hb1 hTz).mono fun e W' ⟨he,bel⟩=>?_;subst he;exact⟨_,rfl,_,_,_,[],_,[],hW',trodAll_mk1 (shut_bool Tryz.underlying4 _),(trodAll_cons_mk (Below.trod zg3 (by kernel_rfl) (of_decide_eq_true (by kernel_rfl)) k0 bel lt0) (trodAll_cons_mk (Below.trod zg3 (by kernel_rfl) (of_decide_eq_true (by kernel_rfl)) k1 bel lt1) trodAll_mk0)),rfl,bel.frame _,fun h=>by cases h⟩
theorem proved:Rows.WalSyncedSaid :=
 OpenClaim.holds_of_wide 5 Tryz.f5 rfl rfl rfl rfl rfl rfl rfl ⟨rfl,rfl,rfl,rfl,rfl⟩ rfl rfl rfl rfl rfl (by kernel_rfl) Tryz.func5 (by kernel_rfl)
  (of_decide_eq_true (by kernel_rfl)) (by unfold Func.isWrapper;first|(rw[if_pos (by decide +kernel)];kernel_rfl)|(rw[if_neg (by decide +kernel)];exact⟨rfl,rfl⟩))
  (fun os started H enc _=>zkt os started H enc)
theorem card:Rows.WalSyncedCardSaid :=
 Claim7.holds_tied_plain_at .later [] [.data,.data,.data,.sentinel,.sentinel] true (true,"61c0607c8fe767eb8bb46e42f3e000c77568c1a1dac1b8e952a7e5edddf921b8") true proved (fun _ h=>by cases h) (by kernel_rfl) (fun _ h=>by cases h) walSynced_row_tie rfl ⟨rfl,rfl⟩ (by kernel_rfl) rfl
  (fun f fn hf hfn=>by
   obtain rfl:f=5:=Option.some.inj ((show Tryz.prog.funcNamed "tollgate/tollgatelaw06.WalSynced" = some 5 by kernel_rfl).symm.trans hf) |>.symm;obtain rfl:fn=Tryz.f5:=(Option.some.inj (Tryz.func5.symm.trans hfn)).symm
   exact⟨by kernel_rfl,fun j t ht=>by
    rw[Tryz.params5] at ht;have hm:t∈[22,32]:=by simpa using Array.mem_of_getElem? ht
    have hall:([22,32].all fun u=>!Tryz.prog.wantsStandIn u)=true:=by kernel_rfl
    exact(show Tryz.prog.wantsStandIn t=false by simpa using List.all_eq_true.1 hall t hm)⟩)
  (by kernel_rfl)
end Go.Proofs.YtofllbpfajppeaaGreatDoor.walSynced
namespace Go.Proofs.YtofllbpfajppeaaGreatDoor
theorem walSynced_holds:Rows.WalSyncedCardSaid:=walSynced.card
#print axioms walSynced_holds
end Go.Proofs.YtofllbpfajppeaaGreatDoor
