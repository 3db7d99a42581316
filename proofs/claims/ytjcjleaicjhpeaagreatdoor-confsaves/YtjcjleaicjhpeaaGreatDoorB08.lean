/- Conf: places compared and sorted. -/
import Derived.Test.YtjcjleaicjhpeaaGreatDoorB07
import Derived.Test.YtjcjleaicjhpeaaGreatDoorB01
import Derived.Test.YtjcjleaicjhpeaaGreatDoorB03
import Derived.Shelf.SlSortCmp.NoneTotal
import Derived.Sort.Walk0
import Derived.RangeFuncNested
import Derived.RangeFuncBound
import Derived.RangeFuncWrites
import Derived.Sort.MapsRangeIn
import Derived.RangeFuncSeq
import Derived.Maps.OwnIn
import Derived.RangeFuncCalls
import Derived.RangeFuncLeaves
import Derived.Shelf.RegionOpen
import Derived.LoopNIn
import Derived.LoopIn
import Derived.TacticsInMore
import Derived.RegionIn
import Derived.OwnWalkIn
import Derived.Test.YtjcjleaicjhpeaaGreatDoorB06
import Derived.Maps.AppendAt
set_option linter.unusedVariables false
set_option maxRecDepth 20000
set_option maxHeartbeats 16000000
namespace Go.Proofs.YtjcjleaicjhpeaaGreatDoor
section
open Go.ChangeShapes Go.WideShapes Go.ChangeAt Go.RowKit Go.Sort Go.Shelf
theorem zp5 (a b:ByteArray):Op.bytesLess a.toList b.toList=decide (Kord.lt a b):=by
 rw[bytesLess_eq,ByteArray.toList_eq,ByteArray.toList_eq];rfl
def zeo {κ:Type} [Kord κ] (a b:κ):Int:=if Kord.lt a b then -1 else if Kord.lt b a then 1 else 0
theorem zi (x:ByteArray) (w:World):Calls Tryz.prog 147 #[.string x] w fun e w'=>e=.returned (.bool false)∧w'=w:=by
 go_enter Tryz.func147,Tryz.ntmps147
 go_wp2
 go_ret
 exact⟨by simp,rfl⟩
theorem zfy (x y:ByteArray) (w:World):Calls Tryz.prog 90 #[.string x,.string y] w fun e w'=>e=.returned (.int .i64 (zeo x y))∧w'=w:=by
 have K:=zaa (show zeo x y=if Kord.lt x y then -1 else if Kord.lt y x then 1 else 0 from rfl);have l1:=zp5 x y;have l2:=zp5 y x;generalize zeo x y=r at *;by_cases h1:Kord.lt x y
 ·have R:=zaa (show r=-1 by rw[za K];rw[if_pos h1]);rw[decide_eq_true h1] at l1;clear K l2 h1;go_enter Tryz.func90,Tryz.ntmps90
  go_wp2_with (go_at_call 147;refine(zi _ _).mono ?_;rintro e V ⟨rfl,rfl⟩)
  go_ret
  exact⟨by rw[za R];rfl,rfl⟩
 ·rw[decide_eq_false h1] at l1;by_cases h2:Kord.lt y x
  ·have R:=zaa (show r=1 by rw[za K];rw[if_neg h1,if_pos h2]);rw[decide_eq_true h2] at l2;have le:(x.toList==y.toList)=false:=by
    rw[beq_eq_false_iff_ne,ByteArray.toList_eq,ByteArray.toList_eq];intro e;rw[zet e] at h2;exact Kord.irr _ h2
   clear K h1 h2;go_enter Tryz.func90,Tryz.ntmps90
   go_wp2_with (go_at_call 147;refine(zi _ _).mono ?_;rintro e V ⟨rfl,rfl⟩)
   go_ret
   exact⟨by rw[za R];rfl,rfl⟩
  ·have R:=zaa (show r=0 by rw[za K];rw[if_neg h1,if_neg h2]);rw[decide_eq_false h2] at l2;have le:(x.toList==y.toList)=true:=by
    rw[beq_iff_eq,((Kord.tri x y).resolve_left h1).resolve_right h2]
   clear K h1 h2;go_enter Tryz.func90,Tryz.ntmps90
   go_wp2_with (go_at_call 147;refine(zi _ _).mono ?_;rintro e V ⟨rfl,rfl⟩)
   go_ret
   exact⟨by rw[za R];rfl,rfl⟩
def or2 (a b:Int):Int:=if a≠0 then a else b
theorem zrf (a b:Int) (w:World) (B c:Nat) (hB:w.heap[B]? = some (.cells #[.int .i64 a,.int .i64 b] 3 (0,0))):Calls Tryz.prog 89 #[.slice (some ⟨B,0,none⟩) 2 c] w fun e w'=>e=.returned (.int .i64 (or2 a b))∧w'=w:=by
 have c0:=zag hB 0 _ rfl;have c1:=zag hB 1 _ rfl;have K:=zaa (show or2 a b=if a≠0 then a else b from rfl);generalize or2 a b=r at *;clear hB;go_enter Tryz.func89,Tryz.ntmps89
 go_wp2
 go_loopw [8] (fun i wr=>∃ j:Nat,j≤2∧i=.int .i64 (j:Int)∧Hid ((0<j→a=0)∧(1<j→b=0))∧Hid (wr=w)) (fun i _=>2 - (intOf i).toNat)
 case atStart=>exact⟨0,by omega,rfl,zaa ⟨fun h=>by omega,fun h=>by omega⟩,zaa rfl⟩
 case round =>
  obtain⟨j,hj,rfl,hz,hw⟩:=hrel;obtain⟨hz1,hz2⟩:=za hz;have hw':=za hw;subst hw';clear hw
  match j,hj with
  |0,_ =>
   by_cases ha:a=0
   ·have R:=zaa (show r=b by rw[za K,if_neg (by simpa using ha)]);subst ha;clear hz1 hz2 K hz
    go_wp2
    exact⟨⟨1,by omega,rfl,zaa ⟨fun _=>(by first|rfl|trivial),fun h=>by omega⟩,zaa (by first|rfl|trivial)⟩,by simp[intOf]⟩
   ·have R:=zaa (show r=a by rw[za K,if_pos ha]);have e1:(a==0)=false:=by simpa using ha
    have e2:(a != 0)=true:=by simpa using ha
    clear hz1 hz2 K hz ha
    go_wp2
    go_ret
    exact⟨by rw[za R];rfl,rfl⟩
  |1,_ =>
   have ha:=hz1 (by omega);have R:=zaa (show r=b by rw[za K,if_neg (by simpa using ha)]);have HA:=zaa ha;clear hz1 hz2 K hz ha;by_cases hb:b=0
   ·subst hb
    go_wp2
    exact⟨⟨2,by omega,rfl,zaa ⟨fun _=>za HA,fun _=>(by first|rfl|trivial)⟩,zaa (by first|rfl|trivial)⟩,by simp[intOf]⟩
   ·have e1:(b==0)=false:=by simpa using hb
    have e2:(b != 0)=true:=by simpa using hb
    clear hb
    go_wp2
    go_ret
    exact⟨by rw[za R];rfl,rfl⟩
  |2,_ =>
   have ha:=hz1 (by omega);have hb:=hz2 (by omega);have R:=zaa (show r=0 by rw[za K,if_neg (by simpa using ha),hb]);clear hz1 hz2 K hz ha hb
   go_wp2
   go_ret
   exact⟨by rw[za R];rfl,rfl⟩
theorem zt0 (a b:ByteArray×ByteArray):or2 (zeo a.1 b.1) (zeo a.2 b.2)=zeo a b:=by
 unfold or2;have h:∀ x y:ByteArray×ByteArray,Kord.lt x y↔(Kord.lt x.1 y.1∨(x.1=y.1∧Kord.lt x.2 y.2)):=fun x y=>Iff.rfl;rcases Kord.tri a.1 b.1 with h1|h1|h1
 ·have e1:zeo a.1 b.1=-1:=by unfold zeo;rw[if_pos h1]
  have e2:zeo a b=-1:=by unfold zeo;rw[if_pos ((h _ _).2 (.inl h1))]
  rw[e1,e2];rfl
 ·have i1:¬ Kord.lt a.1 b.1:=by rw[h1];exact Kord.irr _
  have i2:¬ Kord.lt b.1 a.1:=by rw[h1];exact Kord.irr _
  have e1:zeo a.1 b.1=0:=by unfold zeo;rw[if_neg i1,if_neg i2]
  rw[e1,if_neg (by simp)];unfold zeo;have p1:Kord.lt a b↔Kord.lt a.2 b.2:=by rw[h];exact⟨fun q=>q.elim (fun r=>absurd r i1) (fun r=>r.2),fun q=>.inr ⟨h1,q⟩⟩
  have p2:Kord.lt b a↔Kord.lt b.2 a.2:=by rw[h];exact⟨fun q=>q.elim (fun r=>absurd r i2) (fun r=>r.2),fun q=>.inr ⟨h1.symm,q⟩⟩
  by_cases q1:Kord.lt a.2 b.2
  ·rw[if_pos q1,if_pos (p1.2 q1)]
  ·rw[if_neg q1,if_neg (fun r=>q1 (p1.1 r))];by_cases q2:Kord.lt b.2 a.2
   ·rw[if_pos q2,if_pos (p2.2 q2)]
   ·rw[if_neg q2,if_neg (fun r=>q2 (p2.1 r))]
 ·have i1:¬ Kord.lt a.1 b.1:=fun q=>Kord.irr _ (Kord.tr q h1);have i2:¬ Kord.lt a b:=fun q=>((h _ _).1 q).elim i1 (fun r=>Kord.irr _ (r.1 ▸ h1));have e1:zeo a.1 b.1=1:=by unfold zeo;rw[if_neg i1,if_pos h1]
  have e2:zeo a b=1:=by unfold zeo;rw[if_neg i2,if_pos ((h _ _).2 (.inl h1))]
  rw[e1,e2];rfl
theorem ltP {κ:Type} [Kord κ] (x y:κ):ltOf zeo x y=decide (Kord.lt x y):=by
 unfold ltOf zeo;by_cases h1:Kord.lt x y
 ·simp[h1]
 ·by_cases h2:Kord.lt y x <;> simp[h1,h2]
theorem swoP {κ:Type} [Kord κ]:SWO (ltOf (zeo (κ:=κ))) where
 irrefl x:=by rw[ltP];simpa using Kord.irr x
 trans x y z h1 h2:=by rw[ltP] at *;simp at *;exact Kord.tr h1 h2
 ntrans x y z h1 h2:=by
  rw[ltP] at *;simp at *;intro h3;rcases Kord.tri x y with h|h|h
  ·exact h1 h
  ·rw[h] at h3;exact h2 h3
  ·exact h2 (Kord.tr h h3)
theorem zhq (x y:ByteArray×ByteArray) (W:World):Calls Tryz.prog 46 #[plV x,plV y] W fun e w'=>e=.returned (.int .i64 (zeo x y))∧∃ q os',w'=grow (W.drewN q) os':=by
 have EQ:=zaa (zt0 x y);unfold plV;obtain⟨xh,xp⟩:=x;obtain⟨yh,yp⟩:=y;simp only at *;generalize zeo (xh,xp) (yh,yp)=r at *;have s1:(W.alloc (.cells #[.string xh,.string xp] 89)).heap.size=W.heap.size+1:=by simp
 have X1:=zaa (show((W.alloc (.cells #[.string xh,.string xp] 89)).alloc (.cells #[.string yh,.string yp] 89)).heap[W.heap.size]? = some (.cells #[.string xh,.string xp] 89 (0,0)) by rw[Below.heap_alloc _ _ _ (by simp)];exact zac _ _);have X2:=zaa (show((W.alloc (.cells #[.string xh,.string xp] 89)).alloc (.cells #[.string yh,.string yp] 89)).heap[W.heap.size+1]? = some (.cells #[.string yh,.string yp] 89 (0,0)) by rw[← s1];exact zac _ _);have GR:=zaa (show ∀ o,∃ q os',(((W.alloc (.cells #[.string xh,.string xp] 89)).alloc (.cells #[.string yh,.string yp] 89)).drew.alloc o)=grow (W.drewN q) os' from fun o=>⟨1,_,by rw[alloc_eq_grow,alloc_eq_grow,alloc_eq_grow,grow_grow];exact grow_grow W.drew _ _⟩);have SZ:=zaa (show((W.alloc (.cells #[.string xh,.string xp] 89)).alloc (.cells #[.string yh,.string yp] 89)).heap.size=W.heap.size+2 by simp);have c0:=zag (za X1) 0 (.string xh) rfl;have c1:=zag (za X1) 1 (.string xp) rfl;have d0:=zag (za X2) 0 (.string yh) rfl;have d1:=zag (za X2) 1 (.string yp) rfl;go_enter Tryz.func46,Tryz.ntmps46
 go_wp2_with fail
 generalize ((W.alloc (.cells #[.string xh,.string xp] 89)).alloc (.cells #[.string yh,.string yp] 89))=V at *;have CA:=zaa (zfy xh yh);have CB:=zaa (zfy xp yp);generalize zeo xh yh=ra at *;generalize zeo xp yp=rb at *;have OC:=zaa (zrf ra rb (V.drew.alloc (.cells #[.int .i64 ra,.int .i64 rb] 3)) V.heap.size 2 (zac V.drew _));have KB:=zaa (show Below V.heap.size V (V.drew.alloc (.cells #[.int .i64 ra,.int .i64 rb] 3)) from((Below.refl _ _).drew).alloc (Nat.le_refl _) _);have KC:=zaa (show(V.drew.alloc (.cells #[.int .i64 ra,.int .i64 rb] 3)).cell? ⟨W.heap.size,0,none⟩=some (.string xh)∧(V.drew.alloc (.cells #[.int .i64 ra,.int .i64 rb] 3)).cell? ⟨W.heap.size,1,none⟩=some (.string xp)∧(V.drew.alloc (.cells #[.int .i64 ra,.int .i64 rb] 3)).cell? ⟨W.heap.size+1,0,none⟩=some (.string yh)∧(V.drew.alloc (.cells #[.int .i64 ra,.int .i64 rb] 3)).cell? ⟨W.heap.size+1,1,none⟩=some (.string yp) from⟨cell_later (za KB) c0,cell_later (za KB) c1,cell_later (za KB) d0,cell_later (za KB) d1⟩);refine wp_region_held_drew (S:=fun w'=>w'.cell? ⟨W.heap.size,0,none⟩=some (.string xh)∧w'.cell? ⟨W.heap.size,1,none⟩=some (.string xp)∧w'.cell? ⟨W.heap.size+1,0,none⟩=some (.string yh)∧w'.cell? ⟨W.heap.size+1,1,none⟩=some (.string yp)) (by kernel_rfl) ?_ (fun hHeld=>?_)
 ·try dsimp only
  first|exact za KC|exact⟨c0,c1,d0,d1⟩
 refine hT 0 ?_;refine hT 1 ?_;refine hT 2 ?_;refine hT 3 ?_;refine hT 5 ?_;refine hT 6 ?_;refine hT 7 ?_;refine hT 8 ?_;refine wpAnyH_ready (rs:=[4]) (by kernel_rfl) (by simp) ?_;refine AllReadyH.cons rfl (fun K hK=>?_) ?_
 ·go_simp
  go_at_call 90
  refine(za CA _).mono ?_;rintro e V1 ⟨rfl,rfl⟩
  go_wp2_with fail
  refine hK.out _ _ ?_ (fun hHeld=>?_)
  ·try dsimp only
   first|exact za KC|exact⟨c0,c1,d0,d1⟩
  clear hK K;refine hP ?_;refine wpAnyH_ready (rs:=[9]) (by kernel_rfl) (by simp) ?_;refine AllReadyH.cons rfl (fun K hK=>?_) ?_
  ·go_simp
   go_at_call 90
   refine(za CB _).mono ?_;rintro e V1 ⟨rfl,rfl⟩
   go_wp2_with fail
   refine hK.out _ _ ?_ (fun hHeld=>?_)
   ·try dsimp only
    first|exact za KC|exact⟨c0,c1,d0,d1⟩
   clear hK K;refine hP ?_;refine wpAnyH_ready (rs:=[10]) (by kernel_rfl) (by simp) ?_;refine AllReadyH.cons rfl (fun K hK=>?_) ?_
   ·go_simp
    go_wp2_with fail
    refine hK.out _ _ ?_ (fun hHeld=>?_)
    ·try dsimp only
     first|exact za KC|exact⟨c0,c1,d0,d1⟩
    clear hK K;refine hP ?_;refine wpAnyH_ready (rs:=[11]) (by kernel_rfl) (by simp) ?_;refine AllReadyH.cons rfl (fun K hK=>?_) ?_
    ·go_simp
     go_at_call 89
     refine(za OC).mono ?_;rintro e V1 ⟨rfl,rfl⟩
     go_wp2_with fail
     refine hK.out _ _ ?_ (fun hHeld=>?_)
     ·try dsimp only
      first|exact za KC|exact⟨c0,c1,d0,d1⟩
     clear hK K;refine hP ?_;refine hT 12 ?_;refine wpAnyH_done (by kernel_rfl) ?_ _
     go_wp2
     go_ret
     exact⟨by rw[← za EQ];rfl,za GR _⟩
    exact AllReadyH.nil
   exact AllReadyH.nil
  exact AllReadyH.nil
 exact AllReadyH.nil
end
section
open Go.ChangeShapes Go.WideShapes Go.ChangeAt Go.RowKit Go.Maps Go.Shelf
attribute [local go_sem] Oper.semAt_some
structure LeftK {P:Program} {K:TypeId} {κ:Type} (X:Kx P K κ) (fs:List (κ×Value)) (ks:List κ) (left:Lit→Bool):Prop where
 nd:ks.Nodup
 sub:∀ k∈ks,k∈fs.map (·.1)
 is:∀ k∈fs.map (·.1),(left (X.kl k)=true↔k ∉ ks)
theorem LeftK.step {P:Program} {K:TypeId} {κ:Type} {X:Kx P K κ} {fs:List (κ×Value)} {ks:List κ} {left:Lit→Bool} (h:LeftK X fs ks left) (hsame:∀ a b:κ,(X.kl a).sameKey (X.kl b)=true↔X.kl a=X.kl b) (hok:∀ x∈fs,X.ok x.1) {k:κ} (hk:k∈fs.map (·.1)) (hl:left (X.kl k)=true):LeftK X fs (ks++[k]) (fun z=>left z && !z.sameKey (X.kl k)):=by
 have okk:∀ a∈fs.map (·.1),X.ok a:=fun a ha=>by
  obtain⟨y,hy,rfl⟩:=List.mem_map.1 ha;exact hok y hy
 have hn:=(h.is k hk).1 hl;refine⟨?_,?_,?_⟩
 ·rw[List.nodup_append];refine⟨h.nd,by simp,fun a ha b hb e=>?_⟩;simp at hb;subst hb e;exact hn ha
 ·intro a ha;rcases List.mem_append.1 ha with ha|ha
  ·exact h.sub a ha
  ·simp at ha;rw[ha];exact hk
 ·intro a ha;have hs:(X.kl a).sameKey (X.kl k)=true↔a=k:=(hsame a k).trans ⟨fun e=>X.inj (okk a ha) (okk k hk) e,fun e=>by rw[e]⟩;rw[Bool.and_eq_true,h.is a ha,List.mem_append,List.mem_singleton,Bool.not_eq_true',← Bool.not_eq_true,hs,not_or]
section
variable {P:Program} {K:TypeId} {κ:Type} [Kord κ] {X:Kx P K κ} {w:World} {B:Nat} {fs:List (κ×Value)}
theorem LeftK.perm {ks:List κ} {left:Lit→Bool} (h:LeftK X fs ks left) (hr:Kr fs) (h0:∀ kl,left kl=false):ks.Perm (fs.map (·.1)):=by
 refine(List.perm_ext_iff_of_nodup h.nd hr.nodup).2 fun k=>⟨h.sub k,fun hk=>?_⟩
 by_cases e:k∈ks
 ·exact e
 ·have:=(h.is k hk).2 e;rw[h0] at this;cases this
theorem MapG.left (h:MapG X w B fs):∃ D:DataW Value,w.ownsMap P K zb7 B fs.length D∧Maps.size D=fs.length∧LeftK X fs [] (Maps.has D)∧(∀ k,X.ok k→Maps.has D (X.kl k)=true→k∈fs.map (·.1))∧(∀ x∈fs,∀ zd,D.atKey (X.kl x.1) zd=.held x.2):=by
 obtain⟨D,hD,hH,hA,hS⟩:=h.map;refine⟨D,hD,hS,⟨List.nodup_nil,by simp,fun k hk=>?_⟩,fun k hk hh=>(hH k hk).1 hh,hA⟩;obtain⟨y,hy,rfl⟩:=List.mem_map.1 hk;have:=(hH _ (h.okk y hy)).2 hk;simp[this]
end
theorem zt1 (a b:ByteArray×ByteArray):(kxP.kl a).sameKey (kxP.kl b)=true↔kxP.kl a=kxP.kl b:=by
 show(Lit.sameKey (plL a) (plL b))=true↔plL a=plL b
 unfold plL Lit.sameKey;simp
abbrev Pl:=ByteArray×ByteArray
def zq5 (p:Pl):Array Value:=#[plV p]
theorem zqc (n:Nat) (hn:1≤n) (l Bm b:Nat) {fs:List (Pl×Value)} (J Jx:List Pl→World→Prop)
  (W:World) (hJ:AbidesFrom W.heap.size J) (hY:∀ pre x W1,J pre W1→pre.length<fs.length→YieldAt Fence.wide (n - 1) Tryz.prog l (zq5 x) W1 fun e W'=>(e=.returned (.bool true)∧J (pre++[x]) W'∧KeepsWalks W1 W')∨(e=.returned (.bool false)∧Jx (pre++[x]) W'))
  (hm:W.cell? ⟨Bm,0,none⟩=some (.map (some b))) (hown:MapG kxP W b fs) (h0:J [] W) :
  CallsIn Fence.wide n Tryz.prog 88 #[.func (.yield l) #[] #[],.pointer (some ⟨Bm,0,none⟩)] W fun e W'=>(∃ v,e=.returned v)∧((∃ ks:List Pl,ks.Perm (fs.map (·.1))∧J ks W')∨(∃ pre,True∧Jx pre W')):=by
 obtain⟨D0,hD,hS,hL,hH,hA⟩:=hown.left;have hok:=hown.okk;have hrise:=hown.rise;refine callsIn_of_wp Tryz.func88 rfl trivial ?_ rfl;simp only[Tryz.ntmps88,List.size_toArray,List.length_cons,List.length_nil,Nat.reduceAdd,Nat.reduceSub,Array.replicate_succ,Array.replicate_zero,List.push_toArray,List.append_toArray,List.nil_append,List.cons_append]
 gi_wp2_with (first
  |(gi_at_range;refine wpListIn_range_own _ rfl _ 76 rfl 89 56 zgh zk9 _ b fs.length _ rfl hD ?_;intro w0 hrg0 hg0 hs0)
  |gi_in)
 go_frame
 gi_loopw [3] (fun _ wr=>∃ (left:Lit→Bool) (cnt:Nat) (ks:List Pl),wr.ranges Tryz.prog 89 zb7 b W.heap.size fs.length D0 left cnt∧ks.length+cnt≤fs.length∧LeftK kxP fs ks left∧J ks wr)
  (fun _ wr=>wr.rangeLeft b W.heap.size)
 case atStart =>
  exact⟨_,_,[],hrg0,by simp[hS],hL,hJ [] W w0 none h0 hg0 (fun r e=>by cases e)⟩
 case round =>
  obtain⟨left,cnt,ks,hrg,hcs,hC,hJs⟩:=hrel
  gi_wp2_with (first
   |(gi_at_next;refine wpListIn_next_ranges _ rfl _ rfl 89 zgh zb7 plV id (fun key kl hk=>by obtain⟨x,_,hx,_⟩:=kxP.inv hk;exact⟨x,hx⟩) (fun v _ _=>⟨v,rfl⟩) b W.heap.size fs.length _ _ _ rfl hrg ?_ ?_)
   |gi_in)
  ·intro hc0 hl0
   gi_wp2
   go_end0
   exact⟨⟨_,rfl⟩,.inl ⟨ks,hC.perm hrise hl0,hJs⟩⟩
  ·intro x1 x2 c kl yd yp w2 cnt2 hkey hlk hv hat hrg2 hlt hg2 hs2 hen;obtain⟨x',hok',ex,rfl⟩:=kxP.inv hkey;obtain rfl:(x1,x2)=x':=kxP.vinj ex;have hxf:(x1,x2)∈fs.map (·.1):=hH (x1,x2) hok' (has_true_of_atKey hat);have hJ2:J ks w2:=hJ ks wr w2 (some W.heap.size) hJs hg2 (fun r e=>by cases e;exact⟨Nat.le_refl _,hrg.iter_walk⟩);have hC2:=hC.step zt1 hok hxf hlk;have ga:=World.grownBy_alloc w2 (.cells #[.string x1,.string x2] 89) none;have hJ3:J ks (w2.alloc (.cells #[.string x1,.string x2] 89)):=hJ ks w2 _ none hJ2 ga (fun r e=>by cases e);have hrg3:=hrg2.of_walks (KeepsWalks.alloc w2 (.cells #[.string x1,.string x2] 89));obtain⟨fn,tmps,assign,body,hy,hR⟩:=hY ks (x1,x2) _ hJ3 (by omega);have hX:=zac w2 (.cells #[.string x1,.string x2] 89);have q0:=zag hX 0 _ rfl;have q1:=zag hX 1 _ rfl;simp only[zq5,plV] at hy hen;clear hs2
   gi_wp2
   refine hR.mono ?_;rintro e W3 (⟨rfl,hJ4,hk3⟩|⟨rfl,hJx3⟩)
   ·gi_wp2
    have hrg4:=hrg3.of_walks hk3
    go_roundw
    case rel=>exact⟨_,cnt2,ks++[(x1,x2)],hrg4,by simp;omega,hC2,hJ4⟩
    case measure=>rw[hrg4.left_eq,hrg.left_eq];exact hlt
   ·gi_wp2
    refine bodyPost_ret (results_none rfl _ _ _) rfl ?_;exact⟨⟨_,rfl⟩,.inr ⟨_,trivial,hJx3⟩⟩
end
section
open Go.ChangeShapes Go.WideShapes Go.ChangeAt Go.RowKit Go.Maps Go.Shelf Go.Sort
attribute [local go_sem] Oper.semAt_some
def zb6 (p:Pl):List Value:=[.string p.1,.string p.2]
def zdm (l:List Pl):List Value:=l.flatMap zb6
theorem zgm (l:List Pl):(zdm l).length=l.length*2:=by
 induction l with
 |nil=>rfl
 |cons x r ih =>
  show(zb6 x++zdm r).length=_
  rw[List.length_append,ih,List.length_cons,show(zb6 x).length=2 from rfl];omega
theorem zg9:∀ (xs:List Pl) (i f:Nat) (hi:i<xs.length) (_:f<2),(zdm xs)[i*2+f]? = (zb6 xs[i])[f]?
 |x::r,0,f,_,hf=>by
  show(zb6 x++zdm r)[0*2+f]? = _
  rw[List.getElem?_append_left (by rw[show(zb6 x).length=2 from rfl];omega)];simp
 |x::r,i+1,f,hi,hf=>by
  show(zb6 x++zdm r)[(i+1)*2+f]? = _
  have ih:=zg9 r i f (by simpa using hi) hf;rw[List.getElem?_append_right (by rw[show(zb6 x).length=2 from rfl];omega)];have e4:(i+1)*2+f - (zb6 x).length=i*2+f:=by rw[show(zb6 x).length=2 from rfl];omega
  rw[e4];exact ih
theorem zov (l:List Pl):∀ u∈zdm l,u.oneCell'=true:=by
 intro u hu;obtain⟨t,_,ht⟩:=List.mem_flatMap.1 hu;simp only[zb6,List.mem_cons,List.not_mem_nil,or_false] at ht;rcases ht with rfl|rfl <;> rfl
theorem ztp:(Tryz.prog.info? 89).map (fun i=>(i.zero,i.size,i.bytes))=some (some (.agg #[.string ByteArray.empty,.string ByteArray.empty]),2,32):=by kernel_rfl
def zfl (base:Nat) (w:World) (sp:Option Addr) (c:Nat) (l:List Pl):Prop:=w.ownsRow base 89 2 (.slice sp l.length c) l.length (zdm l)
theorem zml (n:Nat) (hn:1≤n) (Bm b:Nat) {fs:List (Pl×Value)} (w:World) (hB:Bm<w.heap.size) (hm:w.cell? ⟨Bm,0,none⟩=some (.map (some b))) (hown:MapG kxP w b fs) :
  SeqStopsK Fence.wide n Tryz.prog 88 #[.pointer (some ⟨Bm,0,none⟩)] zq5 KeepsWalks (fun ks=>ks.Perm (fs.map (·.1))) (fun _=>True) fs.length w:=fun l J Jx W hW hJ _ hY h0 =>
 zqc n hn l Bm b J Jx W hJ hY ((hW.cell (p:=⟨Bm,0,none⟩) hB).trans hm) (hown.later hW) h0
structure AppI (w0:World) (Bs:Nat) (pre:List Pl) (W:World):Prop where
 box:∃ sp c,W.heap[Bs]? = some (.cells #[.slice sp pre.length c] 86 (0,0))∧zfl w0.heap.size W sp c pre
 bel:Below w0.heap.size w0 W
 big:w0.heap.size+1≤W.heap.size
theorem zfl.blk {base:Nat} {w:World} {sp:Option Addr} {c:Nat} {l:List Pl} (h:zfl base w sp c l) {g:Nat} (hg:(Value.slice sp l.length c).ownBlock=some g):base≤g∧∃ cur:Array Value,w.heap[g]? = some (.cells cur 89 (0,0)):=by
 rcases h.2 with⟨hv,h0⟩|⟨g',cap,cur,hv,hb,hh,_⟩
 ·rw[hv] at hg;cases hg
 ·rw[hv] at hg;simp[Value.ownBlock] at hg;subst hg;exact⟨hb,cur,hh⟩
theorem zfl.keep {base:Nat} {w w':World} {sp:Option Addr} {c:Nat} {l:List Pl} (h:zfl base w sp c l) (hs:∀ g,(Value.slice sp l.length c).ownBlock=some g→w'.heap[g]? = w.heap[g]?):zfl base w' sp c l:=by
 refine⟨h.1,?_⟩;rcases h.2 with hv|⟨g,cap,cur,hv,hb,hg,r⟩
 ·exact .inl hv
 ·exact .inr ⟨g,cap,cur,hv,hb,(hs g (by rw[hv];rfl)).trans hg,r⟩
theorem AppI.kept {w0 W W':World} {Bs:Nat} {pre:List Pl} {row:Option Nat} (h:AppI w0 Bs pre W) (hg:W.grownBy W' row) (hr:∀ r,row=some r→w0.heap.size≤r∧∃ o:Obj,W.heap[r]? = some o∧o.isCells=false):AppI w0 Bs pre W':=by
 obtain⟨sp,c,h1,h2⟩:=h.box;refine⟨⟨sp,c,(hg.block Bs (Array.getElem?_eq_some_iff.1 h1).1 (fun e=>?_)).trans h1,h2.keep (fun g hb=>?_)⟩,h.bel.grown hg h.bel.size (fun g e=>(hr g e).1),Nat.le_trans h.big hg.size⟩
 ·obtain⟨_,o,ho,hc⟩:=hr Bs e.symm;rw[h1] at ho;cases ho;cases hc
 ·obtain⟨_,cur,hh⟩:=h2.blk hb;refine hg.block g (Array.getElem?_eq_some_iff.1 hh).1 (fun e=>?_);obtain⟨_,o,ho,hc⟩:=hr g e.symm;rw[hh] at ho;cases ho;cases hc
theorem zlt {F:Fence} {n:Nat} {P:Program} {w w':World} {ops:Array Oper} {rest:List Oper} {o:Oper} {a:Act} {Q:Exit→Act→World→Prop} (hg:o.guard=none) (s x:Operand) (t:TypeId)
  (hop:o.op=Op.call { callee:=Callee.builtin Builtin.append,args:=#[s,x],argTypes:=#[t,t] }) {v u v':Value} (hs:a.eval s=v) (hx:a.eval x=u) (hrun:(Builtin.append_ #[t,t] o.type #[v,u]).run P w=.ok v' w')
  (hK:wpListIn F n P ops Q rest (a.put o.dst v') w'):wpListIn F n P ops Q (o::rest) a w:=by
 refine wpListIn_plain hg fun K hK'=>?_;unfold Oper.wpIn;refine⟨?_,?_⟩
 ·simp[Oper.about,hop,resolve,Target.leads,Sem.run_pure]
 ·rw[Oper.semAt_plain F _ _ (by rw[hop];intro c hc';cases hc')];simp[execOp,hop,resolve,invoke,builtin,hs,hx,hrun,Result.andThen];exact hK' _ _ hK
theorem zhg {w:World} {fs:List (Pl×Value)} {b Bm:Nat} (hown:MapG kxP w b fs) (hB:Bm<w.heap.size) (hm:w.cell? ⟨Bm,0,none⟩=some (.map (some b))) (hl:fs.length≤1000) :
  Calls Tryz.prog 145 #[.slice none 0 0,.func (.func 88) #[] #[.pointer (some ⟨Bm,0,none⟩)]] w fun e w'=>∃ sp c ks,e=.returned (.slice sp ks.length c)∧ks.Perm (fs.map (·.1))∧zfl w.heap.size w' sp c ks∧Below w.heap.size w w':=by
 have b0:=zaa (show Below w.heap.size w (w.alloc (.cells #[.slice none 0 0] 86)) from(Below.refl _ _).alloc (Nat.le_refl _) _);have I0:=zaa (show AppI w w.heap.size [] (w.alloc (.cells #[.slice none 0 0] 86)) from⟨⟨none,0,zac _ _,⟨rfl,.inl ⟨rfl,rfl⟩⟩⟩,za b0,by simp⟩);have ST:=zaa (zml 4 (by omega) Bm b (w.alloc (.cells #[.slice none 0 0] 86)) (by have:=(za b0).size;omega) (cell_later (za b0) hm) (hown.later (za b0)));have hs0:=zaa (show(w.alloc (.cells #[.slice none 0 0] 86)).heap.size=w.heap.size+1 by simp);clear hown hm;refine callsIn_wide.1 (callsIn_of_wp_marks (n:=5) Tryz.func145 rfl trivial (wpIn_wide.2 ?_) rfl);simp only[Tryz.ntmps145,List.size_toArray,List.length_cons,List.length_nil,Nat.reduceAdd,Nat.reduceSub,Array.replicate_succ,Array.replicate_zero,List.push_toArray,List.append_toArray,List.nil_append,List.cons_append]
 go_wp2_with fail
 refine(wpIn_wide (n:=5)).1 ?_;generalize hW0:w.alloc (.cells #[.slice none 0 0] 86)=W0 at *;have hsz:=za hs0;refine wpIn_rangeFunc_ownH rfl (by omega) (gf:=88) (lb:=#[.pointer (some ⟨Bm,0,none⟩)]) rfl trivial (enters_of Tryz.func88 (by kernel_rfl) rfl)
  (za ST) (fun h k=>h.trans k) (fun W l o o' h1 h2 h3 h4=>KeepsWalks.putObj o' h2 h4) (Below.refl _ _) (fun _=>rfl)
  (fun pre W=>AppI w w.heap.size pre W) (fun _ _ _=>False) ?hI (fun _ _ _ _ _ hs _ _=>hs) (za I0)
  (fun x a' W=>∃ Bx,w.heap.size+1≤Bx∧W.heap[Bx]? = some (.cells #[.string x.1,.string x.2] 89 (0,0))∧a' = {
   tmps:=#[Value.slice none 0 0,Value.func (Fn.func 88) #[] #[Value.pointer (some { block:=Bm,off:=0 })],
    Value.pointer (some { block:=w.heap.size,off:=0 }),undef,Value.slice none 0 0,Value.pointer (some { block:=Bx,off:=0 }),
    Value.func (Fn.func 88) #[] #[Value.pointer (some { block:=Bm,off:=0 })],.agg #[.string x.1,.string x.2],undef,undef,undef,undef,undef],
   defers:=[] }) ?hAx ?assign ?body ?done ?stop
 case hI =>
  rintro s W W' row h hg hrow;exact h.kept hg (fun r e=>⟨by have:=(hrow r e).1;omega,(hrow r e).2⟩)
 case hAx =>
  rintro x a' s W W' row ⟨Bx,h1,h2,h3⟩ hg hrow;refine⟨Bx,h1,(hg.block Bx (Array.getElem?_eq_some_iff.1 h2).1 (fun e=>?_)).trans h2,h3⟩;obtain⟨_,o,ho,hc⟩:=hrow Bx e.symm;rw[h2] at ho;cases ho
  cases hc
 case assign =>
  rintro l0 pre x W K h hK;simp only[zq5,plV]
  gi_wp2
  have ga:=World.grownBy_alloc W (.cells #[.string x.1,.string x.2] 89) none;exact hK _ _ ((KeepsOthers.alloc _ _).from _) (KeepsWalks.alloc _ _) (h.kept ga (fun r e=>by cases e)) ⟨W.heap.size,h.big,zac _ _,rfl⟩
 case body =>
  rintro l0 pre x a' W hl0 ⟨r,hr⟩ h ⟨Bx,hBx,hX,rfl⟩ hlt;obtain⟨x1,x2⟩:=x;obtain⟨sp,c,hbox,hown⟩:=h.box;have hbel:=h.bel;have hbig:=h.big;obtain⟨i0,hi,hz0,hz1,hz2⟩:=info_parts ztp;have cB:=zag hbox 0 _ rfl;have cX:=zag hX 0 _ rfl;have cY:=zag hX 1 _ rfl;have ga:=World.grownBy_alloc W (.cells #[.string x1,.string x2] 89) none
  have hown2:zfl w.heap.size (W.alloc (.cells #[.string x1,.string x2] 89)) sp c pre:=hown.keep (fun g hg=>by
   obtain⟨_,cur,hh⟩:=hown.blk hg
   exact ga.block g (Array.getElem?_eq_some_iff.1 hh).1 (by simp))
  obtain⟨v',w3,hrun,h1,h2,h3⟩:=run_append_own (P:=Tryz.prog) (W.alloc (.cells #[.string x1,.string x2] 89)) w.heap.size 86 86 89 i0 _ 2 32 Tryz.underlying86 hi hz0 hz1 hz2 rfl (by omega) _ _ _ hown2 ⟨W.heap.size,0,none⟩ 1 1 (zb6 (x1,x2)) rfl
   (fun j u hu=>by
    rw[Addr.add_lit,Nat.zero_add,cell_of_row _ _ _ _ _ _ (zac W (.cells #[.string x1,.string x2] 89))]
    rw[← hu,← Array.getElem?_toList];rfl) (fun u hu=>zov [(x1,x2)] u (by simpa [zdm] using hu)) (by simp only[maxLen];omega) (by omega) (by simp;omega)
  have hv:∃ sp' c',v'=.slice sp' (pre.length+1) c':=by
   rcases h1.2 with⟨hv,h0⟩|⟨g,cap,cur,hv,_⟩
   ·omega
   ·exact⟨_,_,hv⟩
  obtain⟨sp',c',rfl⟩:=hv;have hown3:zfl w.heap.size w3 sp' c' (pre++[(x1,x2)]):=by
   unfold zfl;rw[List.length_append,show zdm (pre++[(x1,x2)])=zdm pre++zb6 (x1,x2) from by simp[zdm]];exact h1
  have hneB:∀ g,(Value.slice sp pre.length c).ownBlock=some g→g≠w.heap.size:=fun g hg e=>by
   obtain⟨_,cur,hh⟩:=hown.blk hg;rw[e,hbox] at hh;simp at hh
  have hbox3:w3.heap[w.heap.size]? = some (.cells #[.slice sp pre.length c] 86 (0,0)):=(h2.block w.heap.size (by simp;omega) (fun e=>hneB _ e.symm rfl)).trans ((ga.block _ (Array.getElem?_eq_some_iff.1 hbox).1 (by simp)).trans hbox);have cB3:=zag hbox3 0 _ rfl;have fB3:=zds hbox3 0;have hbel3:Below w.heap.size w w3:=(hbel.grown ga hbel.size (fun k e=>by cases e)).grown h2 (by have:=hbel.size;simp;omega) (fun k e=>(hown2.blk e).1);have K3:KeepsOthers W w3∧KeepsWalks W w3:=by
   have hc:∀ (j:Nat) (o:Obj),(Value.slice sp pre.length c).ownBlock=some j→(W.alloc (.cells #[.string x1,.string x2] 89)).heap[j]? = some o→o.isCells=true∧o.isWalk=false:=fun j o e ho=>by
    obtain⟨_,cur,hh⟩:=hown2.blk e;rw[hh] at ho;cases ho;exact⟨rfl,rfl⟩
   exact⟨(KeepsOthers.alloc _ _).trans (KeepsOthers.of_grownBy h2 (fun j o e ho=>(hc j o e ho).1)),(KeepsWalks.alloc _ _).trans (KeepsWalks.of_grownBy h2 (fun j o e ho=>(hc j o e ho).2))⟩
  have hz3:w.heap.size<w3.heap.size:=(Array.getElem?_eq_some_iff.1 hbox3).1
  have FIN:=zaa (show KeepsFrom (w.heap.size+1) W (w3.setCell ⟨w.heap.size,0,none⟩ (.slice sp' (pre.length+1) c'))∧KeepsWalks W (w3.setCell ⟨w.heap.size,0,none⟩ (.slice sp' (pre.length+1) c'))∧AppI w w.heap.size (pre++[(x1,x2)]) (w3.setCell ⟨w.heap.size,0,none⟩ (.slice sp' (pre.length+1) c')) from by
   have gs:w3.grownBy (w3.setCell ⟨w.heap.size,0,none⟩ (.slice sp' (pre.length+1) c')) (some w.heap.size):=zdj w3 _ _ _;refine⟨(K3.1.trans (KeepsOthers.of_grownBy gs (fun j o e ho=>by cases e;rw[hbox3] at ho;cases ho;rfl))).from _,K3.2.trans (KeepsWalks.setCell _ _ _),⟨⟨sp',c',?_,?_⟩,?_,?_⟩⟩
   ·have:=heap_setCell_same w3 w.heap.size 0 _ _ (.slice sp' (pre.length+1) c') hbox3;rw[List.length_append];exact this
   ·refine hown3.keep (fun g hg=>gs.block g ?_ (fun e=>?_))
    ·obtain⟨_,cur,hh⟩:=hown3.blk hg;exact(Array.getElem?_eq_some_iff.1 hh).1
    ·obtain⟨_,cur,hh⟩:=hown3.blk hg;rw[Option.some.inj e,hbox3] at hh;simp at hh
   ·exact hbel3.grown gs hbel3.size (fun k e=>by cases e;exact Nat.le_refl _)
   ·have:=gs.size;omega)
  clear hown hown2 hown3 h1 h2 h3 K3 hbel hbel3 hneB hi hz0 hz1 hz2 hbox hbox3 h ga;dsimp only at cX cY ⊢;have HR:=zaa hrun;clear hrun
  gi_wp2_with (gi_at_builtin;refine zlt rfl (.tmp 8) (.tmp 10) 86 rfl rfl rfl (za HR) ?_)
  exact za FIN
 case done =>
  rintro D xs W hD hS h hK;obtain⟨sp,c,hbox,hown⟩:=h.box;have hbel:=h.bel;have cB:=zag hbox 0 _ rfl
  go_wp2
  refine⟨by simp,.inl ⟨_,_,rfl,run_takeDeferred hK,?_⟩⟩;refine⟨_,results_tmp rfl _ _ _,sp,c,xs,rfl,hS,hown.keep (fun g hg=>?_),hbel.grown (grownBy_putObj' _ D _) hbel.size (fun g e=>by have:=Option.some.inj e;omega)⟩;refine(grownBy_putObj' W D _).block g ?_ (fun e=>?_)
  ·obtain⟨_,cur,hh⟩:=hown.blk hg;exact(Array.getElem?_eq_some_iff.1 hh).1
  ·obtain⟨_,cur,hh⟩:=hown.blk hg;rw[Option.some.inj e,hK] at hh;cases hh
 case stop =>
  intro D cc pre W _ _ h _;exact h.elim
theorem ziv {w:World} {fs:List (Pl×Value)} {b Bm:Nat} (hown:MapG kxP w b fs) (hB:Bm<w.heap.size) (hm:w.cell? ⟨Bm,0,none⟩=some (.map (some b))) (hl:fs.length≤1000) :
  Calls Tryz.prog 86 #[.func (.func 88) #[] #[.pointer (some ⟨Bm,0,none⟩)]] w fun e w'=>∃ sp c ks,e=.returned (.slice sp ks.length c)∧ks.Perm (fs.map (·.1))∧zfl w.heap.size w' sp c ks∧Below w.heap.size w w':=by
 have AC:=zaa (zhg hown hB hm hl);go_enter Tryz.func86,Tryz.ntmps86
 go_wp2_with fail
 refine(za AC).mono ?_;rintro e w' ⟨sp,c,ks,rfl,h1,h2,h3⟩
 go_wp2
 go_ret
 exact⟨sp,c,ks,rfl,h1,h2,h3⟩
theorem zmg (b:Nat) (w:World):Calls Tryz.prog 45 #[.map (some b)] w fun e w'=>e=.returned (.func (.func 88) #[] #[.pointer (some ⟨w.heap.size,0,none⟩)])∧w'=w.alloc (.cells #[.map (some b)] 76):=by
 go_enter Tryz.func45,Tryz.ntmps45
 go_wp2
 go_ret
 exact⟨rfl,rfl⟩
theorem zh7 (fs:List Pl):(flatK zb6 2 fs.toArray).toList=zdm fs:=by
 apply List.ext_getElem?
 intro t;by_cases ht:t<fs.length*2
 ·have h1:=zg9 fs (t / 2) (t % 2) (by omega) (by omega);rw[show t / 2*2+t % 2=t by omega] at h1;rw[h1,Array.getElem?_toList];have hs:t<(flatK zb6 2 fs.toArray).size:=by rw[size_flatK];simpa using ht
  rw[Array.getElem?_eq_getElem hs,← getElem!_pos _ t hs,get_flatK _ _ _ _ (by simpa using ht)];have hd:(fs.toArray)[t / 2]! = fs[t / 2]:=by rw[getElem!_pos _ _ (by simp;omega)];simp
  rw[hd];have hf:t % 2<(zb6 fs[t / 2]).length:=by show t % 2<2;omega
  rw[List.getElem?_eq_getElem hf];exact congrArg some (getElem!_pos (zb6 fs[t / 2]) (t % 2) hf)
 ·rw[List.getElem?_eq_none (by rw[Array.length_toList,size_flatK];simp;omega),List.getElem?_eq_none (by rw[zgm];omega)]
theorem zq3 (blk off size:Nat) (w:World):CmpLays Tryz.prog 46 #[] zb6 2 zeo blk off size w:=fun _ _ _ _ x y=>zhq x y _
theorem zmx {w:World} {g n:Nat} {os:Array Obj} {cur:Array Value} {e:TypeId} {fr:Nat×Nat} (d:Array Value) (hb:w.heap[g]? = some (.cells cur e fr)) :
  (grow (putRow id (Sort.ahead w n) g 0 d) os).heap[g]? = some (.cells (putCells id 0 d cur) e fr):=by
 have hg:g<w.heap.size:=(Array.getElem?_eq_some_iff.1 hb).1;rw[heap_grow_old _ _ (by simpa using hg)];simp[putRow,mapBlock,Sort.ahead,Array.getElem?_modify,hb,onCells]
theorem zlk {w:World} {g n:Nat} {os:Array Obj} (d:Array Value):w.grownBy (grow (putRow id (Sort.ahead w n) g 0 d) os) (some g):=by
 refine⟨rfl,rfl,rfl,by simp,fun k hk hne=>?_⟩;rw[heap_grow_old _ _ (by simpa using hk)];have:g≠k:=fun e=>hne (by rw[e]);simp[putRow,mapBlock,Sort.ahead,Array.getElem?_modify,this]
theorem zrt (cur:Array Value) (d:Array Value) (h:d.size≤cur.size):(putCells id 0 d cur).toList.take d.size=d.toList:=by
 apply List.ext_getElem?
 intro j;by_cases hj:j<d.size
 ·rw[List.getElem?_take_of_lt hj,Array.getElem?_toList,Array.getElem?_toList];simp[putCells,hj,show j<cur.size by omega]
 ·rw[List.getElem?_take_eq_none (by omega),List.getElem?_eq_none (by simp;omega)]
end
end Go.Proofs.YtjcjleaicjhpeaaGreatDoor
