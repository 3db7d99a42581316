/- Proved: the program and the document take any bytes for the same store, or refuse them with the same error; the store's bytes are those; for all bytes; no condition beyond the library's variable that is read (lz_of). -/
import Derived.Test.YtjcjleaicjhpeaaGreatDoorB36
import Derived.Test.YtjcjleaicjhpeaaGreatDoorB07
import Derived.Test.YtjcjleaicjhpeaaGreatDoorTie
import Derived.Test.YtjcjleaicjhpeaaGreatDoorCards
import Derived.Lay
import Derived.MakeChecks
import Derived.SevenTiedAt
import Derived.Stop.Joined
set_option linter.unusedVariables false
set_option maxRecDepth 20000
set_option maxHeartbeats 16000000
namespace Go.Proofs.YtjcjleaicjhpeaaGreatDoor.confLoads
open Go.ChangeShapes Go.WideShapes Go.ChangeAt Go.RowKit
theorem own:ownKnob Tryz.prog.godebug=none:=by kernel_rfl
theorem ztc:laidOutB Tryz.prog=true:=by kernel_rfl
theorem walk (a1:Option Addr) (c1:Nat) (l1:List Nat) (w:World) (hc1:l1.length≤c1) (hm1:c1≤140737488355328) (hb1:BytesAt w a1 l1) (hz1:a1=none→c1=0) (hLz:Lz w) :
  Calls Tryz.prog 8 #[.slice a1 l1.length c1] w fun e w'=>e=.returned (.bool true)∧Below w.heap.size w w':=zm9 a1 c1 l1 w hc1 hm1 hb1 hz1 hLz
theorem zui (os:Os) (started:os.Started) (H:Type) (enc:TypeId×Value→H) :
  ReturnsInHanded {} Tryz.checked os 8 .any (fun w args=>(Rows.confLoadsSpec.pre enc Tryz.prog Tryz.f8 Rows.confLoadsRow.domain false w args∧laidMetH Tryz.prog Rows.confLoadsRow.laid w)∧sizedMet enc Tryz.prog Tryz.f8 (OpenSpec.ofChange Rows.confLoadsSpec) false w args)
   (Rows.confLoadsSpec.post enc Tryz.prog Tryz.f8 false true false false):=by
 refine zm3 (C:=Tryz.checked) (X:=fun w _=>laidMetH Tryz.prog Rows.confLoadsRow.laid w) (fun _ _ _ hh h=>h.of_heap hh) own started (by kernel_rfl) Tryz.func8
  (ChangeSpec.witness_shaped (enc:=enc) (C:=Tryz.checked) (os:=os) (X:=fun w _=>laidMetH Tryz.prog Rows.confLoadsRow.laid w) false (World.laidAll Tryz.prog os Rows.confLoadsRow.laid) #[.slice none 0 0] 8 (World.laidAll_os _ _ _)
   (World.shaped_of_ZipB (by kernel_rfl) (by kernel_rfl)) (by kernel_rfl) (by kernel_rfl) (by kernel_rfl)
   (by rw[MakeChecks.laidMetH_plain _ _ _ (by kernel_rfl)];exact laidMet_laidAll _ (by kernel_rfl) (by kernel_rfl))) ?_
 intro W base args ds gs before hval0 hW hcnd hsz hL hsh _;have hLz:Lz W:=zum (by rw[MakeChecks.laidMetH_plain _ _ _ (by kernel_rfl)] at hL;exact hL) hsh;have hval:∀ (j:Nat) t v,Tryz.f8.params[j]? = some t→args[j]? = some v→Value.okWide Tryz.prog W .any base t v:=hval0;have hW':=hW;obtain⟨p,q,hA0,hV,rfl,hfz,hnd⟩:=hW;have hA:DataW.TrodAll enc Tryz.prog W 0 (fun _=>true) true Tryz.f8.params.toList args.toList ds p:=hA0;rw[Tryz.params8] at hA hval;obtain⟨v0,vs0,d0,ds0,p0,q0,hargs,rfl,rfl,h0,r0⟩:=trodAll_cons hA;obtain⟨rfl,rfl,rfl⟩:=trodAll_nil r0;obtain rfl:args=#[v0]:=by cases args;simp_all
 obtain⟨rfl,rfl⟩:=trodVars_none hV;obtain⟨a0,len0,c0,rfl⟩:=okWide_slice Tryz.underlying50 (hval 0 50 v0 rfl rfl);have k0:=h0;have lt0:∀ x∈p0,x.block<W.heap.size:=by obtain⟨m,hm⟩:=k0;exact DataW.trod_lt m _ _ _ hm
 obtain⟨l0,rfl,hc0,hx0,hb0,hz0,hr0⟩:=row8 h0;clear hA0 hval0;have hm0:c0≤140737488355328:=zut hsz (j:=0) (d:=d0) rfl rfl hr0;refine(walk a0 c0 l0 W hc0 hm0 hb0 hz0 hLz).mono fun e W' ⟨he,bel⟩=>?_;subst he;exact⟨_,rfl,_,_,_,[],_,[],hW',trodAll_mk1 (shut_bool Tryz.underlying4 _),(trodAll_cons_mk (Below.trod ztc (by kernel_rfl) (of_decide_eq_true (by kernel_rfl)) k0 bel lt0) trodAll_mk0),rfl,bel.frame _,fun h=>by cases h⟩
theorem proved:Rows.ConfLoadsSaid :=
 OpenClaim.holds_of_wide 8 Tryz.f8 rfl rfl rfl rfl rfl rfl rfl ⟨rfl,rfl,rfl,rfl,rfl⟩ rfl rfl rfl rfl rfl (by kernel_rfl) Tryz.func8 (by kernel_rfl)
  (of_decide_eq_true (by kernel_rfl)) (by unfold Func.isWrapper;first|(rw[if_pos (by decide +kernel)];kernel_rfl)|(rw[if_neg (by decide +kernel)];exact⟨rfl,rfl⟩))
  (fun os started H enc _=>zui os started H enc)
theorem card:Rows.ConfLoadsCardSaid :=
 Claim7.holds_tied_plain_at .later [] [.data,.pinned] true (true,"89d1760e23aee8cb48403b92d66bdb27becc73d2bdf8439e6d812ff72b70fd86") true proved (fun _ h=>by cases h) (by kernel_rfl) (fun _ h=>by cases h) confLoads_row_tie rfl ⟨rfl,rfl⟩ (by kernel_rfl) rfl
  (fun f fn hf hfn=>by
   obtain rfl:f=8:=Option.some.inj ((show Tryz.prog.funcNamed "tollgate/tollgatelaw08.ConfLoads" = some 8 by kernel_rfl).symm.trans hf) |>.symm;obtain rfl:fn=Tryz.f8:=(Option.some.inj (Tryz.func8.symm.trans hfn)).symm
   exact⟨by kernel_rfl,fun j t ht=>by
    rw[Tryz.params8] at ht;have hm:t∈[50]:=by simpa using Array.mem_of_getElem? ht
    have hall:([50].all fun u=>!Tryz.prog.wantsStandIn u)=true:=by kernel_rfl
    exact(show Tryz.prog.wantsStandIn t=false by simpa using List.all_eq_true.1 hall t hm)⟩)
  (by kernel_rfl)
end Go.Proofs.YtjcjleaicjhpeaaGreatDoor.confLoads
namespace Go.Proofs.YtjcjleaicjhpeaaGreatDoor
theorem confLoads_holds:Rows.ConfLoadsCardSaid:=confLoads.card
#print axioms confLoads_holds
end Go.Proofs.YtjcjleaicjhpeaaGreatDoor
