/- Proved: Load of Put is a store that goes on as the first one, clients' last commands too; for every commands (up to 150), and more behind (up to 150); no condition beyond the library's variable that is read (lz_of). -/
import Derived.Test.YtjcjleaicjhpeaaGreatDoorB36
import Derived.Test.YtjcjleaicjhpeaaGreatDoorTie
import Derived.Test.YtjcjleaicjhpeaaGreatDoorCards
import Derived.Lay
import Derived.MakeChecks
import Derived.SevenTiedAt
import Derived.Stop.Joined
set_option linter.unusedVariables false
set_option maxRecDepth 20000
set_option maxHeartbeats 16000000
namespace Go.Proofs.YtjcjleaicjhpeaaGreatDoor.confSaves
open Go.ChangeShapes Go.WideShapes Go.ChangeAt Go.RowKit
theorem own:ownKnob Tryz.prog.godebug=none:=by kernel_rfl
theorem zp4:laidOutB Tryz.prog=true:=by kernel_rfl
theorem walk (a:Option Addr) (cc:Nat) (l:List CmdQ) (a2:Option Addr) (cc2:Nat) (l2:List CmdQ) (w:World) (hx:l.length≤maxLen) (hC:CmdsAt w a l) (hx2:l2.length≤maxLen) (hC2:CmdsAt w a2 l2) (hLz:Lz w) :
  Calls Tryz.prog 9 #[.slice a l.length cc,.slice a2 l2.length cc2] w fun e w'=>e=.returned (.bool true)∧Below w.heap.size w w':=zmw a cc l a2 cc2 l2 w hx hC hx2 hC2 hLz
theorem ztq (os:Os) (started:os.Started) (H:Type) (enc:TypeId×Value→H) :
  ReturnsInHanded {} Tryz.checked os 9 .any (fun w args=>(Rows.confSavesSpec.pre enc Tryz.prog Tryz.f9 Rows.confSavesRow.domain false w args∧laidMetH Tryz.prog Rows.confSavesRow.laid w)∧sizedMet enc Tryz.prog Tryz.f9 (OpenSpec.ofChange Rows.confSavesSpec) false w args)
   (Rows.confSavesSpec.post enc Tryz.prog Tryz.f9 false true false false):=by
 refine zmd (C:=Tryz.checked) (X:=fun w _=>laidMetH Tryz.prog Rows.confSavesRow.laid w) (fun _ _ _ hh h=>h.of_heap hh) own started (by kernel_rfl) Tryz.func9
  (ChangeSpec.witness_shaped (enc:=enc) (C:=Tryz.checked) (os:=os) (X:=fun w _=>laidMetH Tryz.prog Rows.confSavesRow.laid w) false (World.laidAll Tryz.prog os Rows.confSavesRow.laid) #[.slice none 0 0,.slice none 0 0] 8 (World.laidAll_os _ _ _)
   (World.shaped_of_ZipB (by kernel_rfl) (by kernel_rfl)) (by kernel_rfl) (by kernel_rfl) (by kernel_rfl)
   (by rw[MakeChecks.laidMetH_plain _ _ _ (by kernel_rfl)];exact laidMet_laidAll _ (by kernel_rfl) (by kernel_rfl))) ?_
 intro W base args ds gs before hval0 hW hcnd hsz hL hsh _;have hLz:Lz W:=ztu (by rw[MakeChecks.laidMetH_plain _ _ _ (by kernel_rfl)] at hL;exact hL) hsh;have hval:∀ (j:Nat) t v,Tryz.f9.params[j]? = some t→args[j]? = some v→Value.okWide Tryz.prog W .any base t v:=hval0;have hW':=hW;obtain⟨p,q,hA0,hV,rfl,hfz,hnd⟩:=hW;have hA:DataW.TrodAll enc Tryz.prog W 0 (fun _=>true) true Tryz.f9.params.toList args.toList ds p:=hA0;rw[Tryz.params9] at hA hval;obtain⟨v0,vs0,d0,ds0,p0,q0,hargs,rfl,rfl,h0,r0⟩:=trodAll_cons hA;obtain⟨v1,vs1,d1,ds1,p1,q1,rfl,rfl,rfl,h1,r1⟩:=trodAll_cons r0;obtain⟨rfl,rfl,rfl⟩:=trodAll_nil r1;obtain rfl:args=#[v0,v1]:=by cases args;simp_all
 obtain⟨rfl,rfl⟩:=trodVars_none hV;obtain⟨a0,len0,c0,rfl⟩:=okWide_slice Tryz.underlying22 (hval 0 22 v0 rfl rfl);have k0:=h0;have lt0:∀ x∈p0,x.block<W.heap.size:=by obtain⟨m,hm⟩:=k0;exact DataW.trod_lt m _ _ _ hm
 obtain⟨l0,rfl,hx0,hb0⟩:=zne h0 (fun n hn=>of_decide_eq_true (List.all_eq_true.1 hsz n (DataW.weights_mem_each (j:=0) (d:=d0) rfl rfl n hn)));obtain⟨a1,len1,c1,rfl⟩:=okWide_slice Tryz.underlying22 (hval 1 22 v1 rfl rfl);have k1:=h1;have lt1:∀ x∈p1,x.block<W.heap.size:=by obtain⟨m,hm⟩:=k1;exact DataW.trod_lt m _ _ _ hm
 obtain⟨l1,rfl,hx1,hb1⟩:=zne h1 (fun n hn=>of_decide_eq_true (List.all_eq_true.1 hsz n (DataW.weights_mem_each (j:=1) (d:=d1) rfl rfl n hn)));clear hA0 hval0;refine(walk a0 c0 l0 a1 c1 l1 W hx0 hb0 hx1 hb1 hLz).mono fun e W' ⟨he,bel⟩=>?_;subst he;exact⟨_,rfl,_,_,_,[],_,[],hW',trodAll_mk1 (shut_bool Tryz.underlying4 _),(trodAll_cons_mk (Below.trod zp4 (by kernel_rfl) (of_decide_eq_true (by kernel_rfl)) k0 bel lt0) (trodAll_cons_mk (Below.trod zp4 (by kernel_rfl) (of_decide_eq_true (by kernel_rfl)) k1 bel lt1) trodAll_mk0)),rfl,bel.frame _,fun h=>by cases h⟩
theorem proved:Rows.ConfSavesSaid :=
 OpenClaim.holds_of_wide 9 Tryz.f9 rfl rfl rfl rfl rfl rfl rfl ⟨rfl,rfl,rfl,rfl,rfl⟩ rfl rfl rfl rfl rfl (by kernel_rfl) Tryz.func9 (by kernel_rfl)
  (of_decide_eq_true (by kernel_rfl)) (by unfold Func.isWrapper;first|(rw[if_pos (by decide +kernel)];kernel_rfl)|(rw[if_neg (by decide +kernel)];exact⟨rfl,rfl⟩))
  (fun os started H enc _=>ztq os started H enc)
theorem card:Rows.ConfSavesCardSaid :=
 Claim7.holds_tied_plain_at .later [] [.data,.pinned] true (true,"89d1760e23aee8cb48403b92d66bdb27becc73d2bdf8439e6d812ff72b70fd86") true proved (fun _ h=>by cases h) (by kernel_rfl) (fun _ h=>by cases h) confSaves_row_tie rfl ⟨rfl,rfl⟩ (by kernel_rfl) rfl
  (fun f fn hf hfn=>by
   obtain rfl:f=9:=Option.some.inj ((show Tryz.prog.funcNamed "tollgate/tollgatelaw08.ConfSaves" = some 9 by kernel_rfl).symm.trans hf) |>.symm;obtain rfl:fn=Tryz.f9:=(Option.some.inj (Tryz.func9.symm.trans hfn)).symm
   exact⟨by kernel_rfl,fun j t ht=>by
    rw[Tryz.params9] at ht;have hm:t∈[22,22]:=by simpa using Array.mem_of_getElem? ht
    have hall:([22,22].all fun u=>!Tryz.prog.wantsStandIn u)=true:=by kernel_rfl
    exact(show Tryz.prog.wantsStandIn t=false by simpa using List.all_eq_true.1 hall t hm)⟩)
  (by kernel_rfl)
end Go.Proofs.YtjcjleaicjhpeaaGreatDoor.confSaves
namespace Go.Proofs.YtjcjleaicjhpeaaGreatDoor
theorem confSaves_holds:Rows.ConfSavesCardSaid:=confSaves.card
#print axioms confSaves_holds
end Go.Proofs.YtjcjleaicjhpeaaGreatDoor
