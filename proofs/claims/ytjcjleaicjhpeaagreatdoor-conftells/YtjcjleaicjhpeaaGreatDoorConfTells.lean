/- Proved: a route that was put is there until it is put otherwise or dropped, and the others stay; for every commands (up to 150) and texts; no condition beyond the library's variable that is read (lz_of). -/
import Derived.Test.YtjcjleaicjhpeaaGreatDoorB34
import Derived.SizedLaws
import Derived.Test.YtjcjleaicjhpeaaGreatDoorTie
import Derived.Test.YtjcjleaicjhpeaaGreatDoorCards
import Derived.Lay
import Derived.MakeChecks
import Derived.SevenTiedAt
import Derived.Stop.Joined
set_option linter.unusedVariables false
set_option maxRecDepth 20000
set_option maxHeartbeats 16000000
namespace Go.Proofs.YtjcjleaicjhpeaaGreatDoor.confTells
open Go.ChangeShapes Go.WideShapes Go.ChangeAt Go.RowKit
theorem own:ownKnob Tryz.prog.godebug=none:=by kernel_rfl
theorem zd3:laidOutB Tryz.prog=true:=by kernel_rfl
theorem walk (a:Option Addr) (cc:Nat) (l:List CmdQ) (ho pr:ByteArray) (w:World) (hx:l.length≤maxLen) (hC:CmdsAt w a l) (hh0:ho.size≤maxLen) (hh:ho.size≤140737488355328) (hp0:pr.size≤maxLen) (hp:pr.size≤140737488355328) (hLz:Lz w) :
  Calls Tryz.prog 7 #[.slice a l.length cc,.string ho,.string pr] w fun e w'=>e=.returned (.bool true)∧Below w.heap.size w w':=zjw a cc l ho pr w hx hC hh0 hh hp0 hp hLz
theorem zgo (os:Os) (started:os.Started) (H:Type) (enc:TypeId×Value→H) :
  ReturnsInHanded {} Tryz.checked os 7 .any (fun w args=>(Rows.confTellsSpec.pre enc Tryz.prog Tryz.f7 Rows.confTellsRow.domain false w args∧laidMetH Tryz.prog Rows.confTellsRow.laid w)∧sizedMet enc Tryz.prog Tryz.f7 (OpenSpec.ofChange Rows.confTellsSpec) false w args)
   (Rows.confTellsSpec.post enc Tryz.prog Tryz.f7 false true false false):=by
 refine zdh (C:=Tryz.checked) (X:=fun w _=>laidMetH Tryz.prog Rows.confTellsRow.laid w) (fun _ _ _ hh h=>h.of_heap hh) own started (by kernel_rfl) Tryz.func7
  (ChangeSpec.witness_shaped (enc:=enc) (C:=Tryz.checked) (os:=os) (X:=fun w _=>laidMetH Tryz.prog Rows.confTellsRow.laid w) false (World.laidAll Tryz.prog os Rows.confTellsRow.laid) #[.slice none 0 0,.string ⟨#[]⟩,.string ⟨#[]⟩] 8 (World.laidAll_os _ _ _)
   (World.shaped_of_ZipB (by kernel_rfl) (by kernel_rfl)) (by kernel_rfl) (by kernel_rfl) (by kernel_rfl)
   (by rw[MakeChecks.laidMetH_plain _ _ _ (by kernel_rfl)];exact laidMet_laidAll _ (by kernel_rfl) (by kernel_rfl))) ?_
 intro W base args ds gs before hval0 hW hcnd hsz hL hsh _;have hLz:Lz W:=ziy (by rw[MakeChecks.laidMetH_plain _ _ _ (by kernel_rfl)] at hL;exact hL) hsh;have hval:∀ (j:Nat) t v,Tryz.f7.params[j]? = some t→args[j]? = some v→Value.okWide Tryz.prog W .any base t v:=hval0;have hW':=hW;obtain⟨p,q,hA0,hV,rfl,hfz,hnd⟩:=hW;have hA:DataW.TrodAll enc Tryz.prog W 0 (fun _=>true) true Tryz.f7.params.toList args.toList ds p:=hA0;rw[Tryz.params7] at hA hval;obtain⟨v0,vs0,d0,ds0,p0,q0,hargs,rfl,rfl,h0,r0⟩:=trodAll_cons hA;obtain⟨v1,vs1,d1,ds1,p1,q1,rfl,rfl,rfl,h1,r1⟩:=trodAll_cons r0;obtain⟨v2,vs2,d2,ds2,p2,q2,rfl,rfl,rfl,h2,r2⟩:=trodAll_cons r1;obtain⟨rfl,rfl,rfl⟩:=trodAll_nil r2;obtain rfl:args=#[v0,v1,v2]:=by cases args;simp_all
 obtain⟨rfl,rfl⟩:=trodVars_none hV;obtain⟨a0,len0,c0,rfl⟩:=okWide_slice Tryz.underlying22 (hval 0 22 v0 rfl rfl);have k0:=h0;have lt0:∀ x∈p0,x.block<W.heap.size:=by obtain⟨m,hm⟩:=k0;exact DataW.trod_lt m _ _ _ hm
 obtain⟨l0,rfl,hx0,hb0⟩:=zf1 h0 (fun n hn=>of_decide_eq_true (List.all_eq_true.1 hsz n (DataW.weights_mem_each (j:=0) (d:=d0) rfl rfl n hn)));obtain⟨n1,rfl,rfl,rfl,hn1⟩:=ChangeMaps.open_string Tryz.underlying9 (hval 1 9 v1 rfl rfl) h1;have hr1:n1.size≤140737488355328:=by
  have:=sized_string hsz (j:=1) rfl rfl;simp[reachBytes] at this;omega
 obtain⟨n2,rfl,rfl,rfl,hn2⟩:=ChangeMaps.open_string Tryz.underlying9 (hval 2 9 v2 rfl rfl) h2;have hr2:n2.size≤140737488355328:=by
  have:=sized_string hsz (j:=2) rfl rfl;simp[reachBytes] at this;omega
 clear hA0 hval0;refine(walk a0 c0 l0 n1 n2 W hx0 hb0 hn1 hr1 hn2 hr2 hLz).mono fun e W' ⟨he,bel⟩=>?_;subst he;exact⟨_,rfl,_,_,_,[],_,[],hW',trodAll_mk1 (shut_bool Tryz.underlying4 _),(trodAll_cons_mk (Below.trod zd3 (by kernel_rfl) (of_decide_eq_true (by kernel_rfl)) k0 bel lt0) (trodAll_cons_mk (ChangeMaps.shut_string Tryz.underlying9 hn1) (trodAll_cons_mk (ChangeMaps.shut_string Tryz.underlying9 hn2) trodAll_mk0))),rfl,bel.frame _,fun h=>by cases h⟩
theorem proved:Rows.ConfTellsSaid :=
 OpenClaim.holds_of_wide 7 Tryz.f7 rfl rfl rfl rfl rfl rfl rfl ⟨rfl,rfl,rfl,rfl,rfl⟩ rfl rfl rfl rfl rfl (by kernel_rfl) Tryz.func7 (by kernel_rfl)
  (of_decide_eq_true (by kernel_rfl)) (by unfold Func.isWrapper;first|(rw[if_pos (by decide +kernel)];kernel_rfl)|(rw[if_neg (by decide +kernel)];exact⟨rfl,rfl⟩))
  (fun os started H enc _=>zgo os started H enc)
theorem card:Rows.ConfTellsCardSaid :=
 Claim7.holds_tied_plain_at .later [] [.data,.pinned] true (true,"89d1760e23aee8cb48403b92d66bdb27becc73d2bdf8439e6d812ff72b70fd86") true proved (fun _ h=>by cases h) (by kernel_rfl) (fun _ h=>by cases h) confTells_row_tie rfl ⟨rfl,rfl⟩ (by kernel_rfl) rfl
  (fun f fn hf hfn=>by
   obtain rfl:f=7:=Option.some.inj ((show Tryz.prog.funcNamed "tollgate/tollgatelaw08.ConfTells" = some 7 by kernel_rfl).symm.trans hf) |>.symm;obtain rfl:fn=Tryz.f7:=(Option.some.inj (Tryz.func7.symm.trans hfn)).symm
   exact⟨by kernel_rfl,fun j t ht=>by
    rw[Tryz.params7] at ht;have hm:t∈[22,9,9]:=by simpa using Array.mem_of_getElem? ht
    have hall:([22,9,9].all fun u=>!Tryz.prog.wantsStandIn u)=true:=by kernel_rfl
    exact(show Tryz.prog.wantsStandIn t=false by simpa using List.all_eq_true.1 hall t hm)⟩)
  (by kernel_rfl)
end Go.Proofs.YtjcjleaicjhpeaaGreatDoor.confTells
namespace Go.Proofs.YtjcjleaicjhpeaaGreatDoor
theorem confTells_holds:Rows.ConfTellsCardSaid:=confTells.card
#print axioms confTells_holds
end Go.Proofs.YtjcjleaicjhpeaaGreatDoor
