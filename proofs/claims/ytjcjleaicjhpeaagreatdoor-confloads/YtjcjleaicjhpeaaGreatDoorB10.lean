/- Conf: the keys of its three maps; zero values. -/
import Derived.Test.YtjcjleaicjhpeaaGreatDoorB09
import Derived.Test.YtjcjleaicjhpeaaGreatDoorB01
import Derived.DeepKeys4
import Derived.Sort.KeysCollected
import Derived.Shelf.SlSortCmp.WholeK
import Derived.Ground.SlsfProg
import Derived.Test.YtjcjleaicjhpeaaGreatDoorProg
import Derived.Test.YtjcjleaicjhpeaaGreatDoorB03
import Derived.Shelf.SlSortCmp.NoneTotal
import Derived.Sort.Walk0
import Derived.RangeFuncNested
import Derived.RangeFuncBound
import Derived.RangeFuncWrites
import Derived.Sort.MapsRangeIn
import Derived.RangeFuncSeq
import Derived.Maps.OwnIn
import Derived.RangeFuncCalls
import Derived.RangeFuncLeaves
import Derived.Shelf.RegionOpen
import Derived.LoopNIn
import Derived.LoopIn
import Derived.TacticsInMore
import Derived.RegionIn
import Derived.OwnWalkIn
set_option linter.unusedVariables false
set_option maxRecDepth 20000
set_option maxHeartbeats 16000000
namespace Go.Proofs.YtjcjleaicjhpeaaGreatDoor
section
open Go.ChangeShapes Go.WideShapes Go.ChangeAt Go.RowKit Go.Maps
def kxS:Kx Tryz.prog 9 ByteArray where
 kv s:=.string s
 kl s:=.string s.data.toList
 ok s:=s.size≤maxLen
 law:=string_keyed Tryz.underlying9
 key h:=WideMaps.keyOf_string_mk Tryz.underlying9 h
 vinj h:=by simpa using h
 inv {v l} h:=by
  cases v <;> simp[keyOf,Tryz.underlying9,mapKey] at h
  rename_i s
  exact⟨s,h.1,rfl,h.2.symm⟩
def kxI:Kx Tryz.prog 3 Int where
 kv n:=.int .i64 n
 kl n:=.int .i64 n
 ok n:=(Lit.int .i64 n).wf=true
 law:=int_keyed Tryz.underlying3
 key h:=keyOf_int_mk Tryz.underlying3 h
 vinj h:=by simpa using h
 inv {v l} h:=by
  cases v <;> simp[keyOf,Tryz.underlying3,mapKey] at h
  rename_i q n
  obtain⟨⟨rfl,h1⟩,h2⟩:=h;exact⟨n,h1,rfl,h2.symm⟩
theorem zr0:laidOutB Tryz.prog=true:=by kernel_rfl
theorem zgg:Keyed Tryz.prog 89:=Keyed.of_law (deep_law_laid zr0 (m:=Tryz.prog.types.size+1) (of_decide_eq_true (by kernel_rfl)) (of_decide_eq_true (by kernel_rfl)) (by kernel_rfl) (by kernel_rfl))
def plV (p:ByteArray×ByteArray):Value:=.agg #[.string p.1,.string p.2]
def plL (p:ByteArray×ByteArray):Lit:=.string (keyBytes [.string p.1.data.toList,.string p.2.data.toList])
theorem zm4 (m:Nat) (v:Value):Tryz.prog.keyLits (m+1) 9 [v]=(match v with | .string s=>if s.size≤maxLen then some [.string s.data.toList] else none|_=>none):=by
 unfold Program.keyLits;cases v <;> simp[Tryz.underlying9]
theorem zjr (a b:Value):keyOf Tryz.prog 89 (.agg #[a,b])=(match a,b with | .string s,.string t=>if s.size≤maxLen then (if t.size≤maxLen then some (plL (s,t)) else none) else none|_,_=>none):=by
 have hk:Tryz.prog.keyType 89=true:=by kernel_rfl
 have hs:Tryz.prog.types.size+1=2+(Tryz.prog.types.size - 1):=by
  have:1≤Tryz.prog.types.size:=of_decide_eq_true (by kernel_rfl);omega
 have hcell:Tryz.prog.cellsOf 89=2:=by kernel_rfl
 have hc3:Tryz.prog.cellsOf 9=1:=by kernel_rfl
 unfold keyOf;simp only[Tryz.underlying89];rw[if_pos (by simp[hk,Value.formed,Tryz.underlying89,hcell]),hs,show 2+(Tryz.prog.types.size - 1)=(Tryz.prog.types.size - 1)+1+1 by omega];generalize Tryz.prog.types.size - 1=m;have h3:Tryz.prog.keyLits (m+1+1) 89 [a,b]=(match a,b with | .string s,.string t=>if s.size≤maxLen then (if t.size≤maxLen then some [.string s.data.toList,.string t.data.toList] else none) else none|_,_=>none):=by
  unfold Program.keyLits;simp only[Tryz.underlying89];rw[if_pos ⟨by rw[hcell];rfl,by kernel_rfl⟩];simp only[List.mapM_cons,List.mapM_nil,hc3,List.drop_zero,List.drop_succ_cons,List.take_succ_cons,List.take_zero,zm4];cases a <;> try (simp;done)
  rename_i s
  by_cases h1:s.size≤maxLen
  ·cases b <;> try (simp[h1];done)
   rename_i t
   by_cases h2:t.size≤maxLen <;> simp[h1,h2]
  ·cases b <;> simp[h1]
 show(Tryz.prog.keyLits (m+1+1) 89 [a,b]).map _=_
 rw[h3];cases a <;> try rfl
 cases b <;> try rfl
 rename_i s t
 by_cases h1:s.size≤maxLen
 ·by_cases h2:t.size≤maxLen
  ·simp only[h1,h2,if_true];rfl
  ·simp only[h1,h2,if_true,if_false];rfl
 ·simp only[h1,if_false];rfl
def kxP:Kx Tryz.prog 89 (ByteArray×ByteArray) where
 kv p:=plV p
 kl p:=plL p
 ok p:=p.1.size≤maxLen∧p.2.size≤maxLen
 law:=zgg
 key {k} h:=by
  unfold plV;rw[zjr];simp only[h.1,h.2,if_true]
 vinj {a b} h:=by
  simp only[plV,Value.agg.injEq,Array.mk.injEq,List.cons.injEq,Value.string.injEq,and_true] at h;exact Prod.ext h.1 h.2
 inv {v l} h:=by
  have hc:Tryz.prog.cellsOf 89=2:=by kernel_rfl
  have hf:v.formed Tryz.prog 89=true:=by
   unfold keyOf at h;simp only[Tryz.underlying89] at h;split at h
   ·rename_i h1
    simp only[Bool.and_eq_true] at h1;exact h1.2
   ·cases h
  cases v <;> simp[Value.formed,Tryz.underlying89] at hf
  rename_i cs
  rw[hc] at hf;obtain⟨l2⟩:=cs;obtain⟨a,b,rfl⟩:∃ a b,l2=[a,b]:=by
   match l2,hf with
   |[a,b],_=>exact⟨a,b,rfl⟩
  rw[zjr] at h;cases a <;> try cases h
  cases b <;> try cases h
  rename_i s t
  simp only at h;split at h
  ·split at h
   ·rename_i h1 h2
    exact⟨(s,t),⟨h1,h2⟩,rfl,(Option.some.inj h).symm⟩
   ·cases h
  ·cases h
theorem zkt (w:World):(zeroValue 54).run Tryz.prog w=.ok (.agg #[.string ⟨#[]⟩,.slice none 0 0]) w:=by kernel_rfl
theorem zjd (w:World):(zeroValue 56).run Tryz.prog w=.ok (.agg #[.string ⟨#[]⟩,.string ⟨#[]⟩,.string ⟨#[]⟩]) w:=by kernel_rfl
theorem zow (w:World):(zeroValue 74).run Tryz.prog w=.ok (.agg #[.int .i64 0,.int .i64 0,.int .i64 0]) w:=by kernel_rfl
theorem zpf:Tryz.prog.underlying 75=some (.map 9 54):=Tryz.underlying75
theorem zli:Tryz.prog.underlying 76=some (.map 89 56):=Tryz.underlying76
theorem ztm:Tryz.prog.underlying 77=some (.map 3 74):=Tryz.underlying77
end
end Go.Proofs.YtjcjleaicjhpeaaGreatDoor
section
namespace Go.Proofs
open Go.RowKit Go.Sort Go.Shelf
def Tryz.sortF87_ren:Go.Shelf.Ren:=⟨fun|6=>87|15=>144|14=>146|28=>178|29=>179|20=>180|21=>181|22=>182|23=>183|24=>184|25=>185|26=>186|27=>187|46=>209|47=>205|48=>206|49=>210|50=>211|57=>220|n=>n,fun|22=>86|24=>89|25=>93|3=>3|39=>191|0=>0|53=>218|55=>143|4=>4|46=>210|45=>209|50=>215|5=>5|9=>9|66=>237|70=>241|76=>251|77=>252|n=>n,fun|n=>n⟩
theorem Tryz.sortF87:Go.Proofs.SlLaysF0.n6 Tryz.prog Tryz.sortF87_ren:={
 mixed:=by kernel_rfl
 f6:=⟨Tryz.f87.name,by decide,Tryz.func87.trans (congrArg some (by kernel_rfl))⟩
 f14:=⟨Tryz.f146.name,by decide,Tryz.func146.trans (congrArg some (by kernel_rfl))⟩
 f15:=Tryz.func144.trans (congrArg some (by kernel_rfl))
 f20:=⟨Tryz.f180.name,by decide,Tryz.func180.trans (congrArg some (by kernel_rfl))⟩
 f21:=⟨Tryz.f181.name,by decide,Tryz.func181.trans (congrArg some (by kernel_rfl))⟩
 f22:=⟨Tryz.f182.name,by decide,Tryz.func182.trans (congrArg some (by kernel_rfl))⟩
 f23:=⟨Tryz.f183.name,by decide,Tryz.func183.trans (congrArg some (by kernel_rfl))⟩
 f24:=⟨Tryz.f184.name,by decide,Tryz.func184.trans (congrArg some (by kernel_rfl))⟩
 f25:=⟨Tryz.f185.name,by decide,Tryz.func185.trans (congrArg some (by kernel_rfl))⟩
 f26:=⟨Tryz.f186.name,by decide,Tryz.func186.trans (congrArg some (by kernel_rfl))⟩
 f27:=⟨Tryz.f187.name,by decide,Tryz.func187.trans (congrArg some (by kernel_rfl))⟩
 f28:=Tryz.func178.trans (congrArg some (by kernel_rfl))
 f29:=Tryz.func179.trans (congrArg some (by kernel_rfl))
 f46:=⟨Tryz.f209.name,by decide,Tryz.func209.trans (congrArg some (by kernel_rfl))⟩
 f47:=Tryz.func205.trans (congrArg some (by kernel_rfl))
 f48:=Tryz.func206.trans (congrArg some (by kernel_rfl))
 f49:=⟨Tryz.f210.name,by decide,Tryz.func210.trans (congrArg some (by kernel_rfl))⟩
 f50:=⟨Tryz.f211.name,by decide,Tryz.func211.trans (congrArg some (by kernel_rfl))⟩
 f57:=⟨Tryz.f220.name,by decide,Tryz.func220.trans (congrArg some (by kernel_rfl))⟩
 t0:=Tryz.underlying0
 a0:=Tryz.isAgg0
 z0:=Tryz.sizeOf0
 v0:=Tryz.zeroValue0
 t3:=Tryz.underlying3
 a3:=Tryz.isAgg3
 z3:=Tryz.sizeOf3
 v3:=Tryz.zeroValue3
 t4:=Tryz.underlying4
 a4:=Tryz.isAgg4
 z4:=Tryz.sizeOf4
 v4:=Tryz.zeroValue4
 t5:=Tryz.underlying5
 a5:=Tryz.isAgg5
 z5:=Tryz.sizeOf5
 v5:=Tryz.zeroValue5
 t9:=Tryz.underlying9
 a9:=Tryz.isAgg9
 z9:=Tryz.sizeOf9
 v9:=Tryz.zeroValue9
 t22:=Tryz.underlying86
 a22:=Tryz.isAgg86
 z22:=Tryz.sizeOf86
 v22:=Tryz.zeroValue86
 t25:=Tryz.underlying93
 a25:=Tryz.isAgg93
 z25:=Tryz.sizeOf93
 v25:=Tryz.zeroValue93
 t39:=Tryz.underlying191
 a39:=Tryz.isAgg191
 z39:=Tryz.sizeOf191
 v39:=Tryz.zeroValue191
 t45:=Tryz.underlying209
 a45:=Tryz.isAgg209
 z45:=Tryz.sizeOf209
 v45:=Tryz.zeroValue209
 t46:=Tryz.underlying210
 a46:=Tryz.isAgg210
 z46:=Tryz.sizeOf210
 v46:=Tryz.zeroValue210
 t50:=Tryz.underlying215
 a50:=Tryz.isAgg215
 z50:=Tryz.sizeOf215
 v50:=Tryz.zeroValue215
 t53:=Tryz.underlying218
 a53:=Tryz.isAgg218
 z53:=Tryz.sizeOf218
 v53:=Tryz.zeroValue218
 t55:=Tryz.underlying143
 a55:=Tryz.isAgg143
 z55:=Tryz.sizeOf143
 v55:=Tryz.zeroValue143
 t66:=Tryz.underlying237
 a66:=Tryz.isAgg237
 z66:=Tryz.sizeOf237
 v66:=Tryz.zeroValue237
 t70:=Tryz.underlying241
 a70:=Tryz.isAgg241
 z70:=Tryz.sizeOf241
 v70:=Tryz.zeroValue241
 t76:=Tryz.underlying251
 a76:=Tryz.isAgg251
 z76:=Tryz.sizeOf251
 v76:=Tryz.zeroValue251
 t77:=Tryz.underlying252
 a77:=Tryz.isAgg252
 z77:=Tryz.sizeOf252
 v77:=Tryz.zeroValue252 }
end Go.Proofs
end
namespace Go.Proofs.YtjcjleaicjhpeaaGreatDoor
section
open Go.ChangeShapes Go.WideShapes Go.ChangeAt Go.RowKit Go.Sort Go.Shelf
theorem zqt (a b:ByteArray):Op.bytesLess a.toList b.toList=decide (Kord.lt a b):=by
 rw[bytesLess_eq,ByteArray.toList_eq,ByteArray.toList_eq];rfl
def zes {κ:Type} [Kord κ] (a b:κ):Int:=if Kord.lt a b then -1 else if Kord.lt b a then 1 else 0
theorem zig (x:ByteArray) (w:World):Calls Tryz.prog 147 #[.string x] w fun e w'=>e=.returned (.bool false)∧w'=w:=by
 go_enter Tryz.func147,Tryz.ntmps147
 go_wp2
 go_ret
 exact⟨by simp,rfl⟩
theorem zfy (x y:ByteArray) (w:World):Calls Tryz.prog 90 #[.string x,.string y] w fun e w'=>e=.returned (.int .i64 (zes x y))∧w'=w:=by
 have K:=zaa (show zes x y=if Kord.lt x y then -1 else if Kord.lt y x then 1 else 0 from rfl);have l1:=zqt x y;have l2:=zqt y x;generalize zes x y=r at *;by_cases h1:Kord.lt x y
 ·have R:=zaa (show r=-1 by rw[za K];rw[if_pos h1]);rw[decide_eq_true h1] at l1;clear K l2 h1;go_enter Tryz.func90,Tryz.ntmps90
  go_wp2_with (go_at_call 147;refine(zig _ _).mono ?_;rintro e V ⟨rfl,rfl⟩)
  go_ret
  exact⟨by rw[za R];rfl,rfl⟩
 ·rw[decide_eq_false h1] at l1;by_cases h2:Kord.lt y x
  ·have R:=zaa (show r=1 by rw[za K];rw[if_neg h1,if_pos h2]);rw[decide_eq_true h2] at l2;have le:(x.toList==y.toList)=false:=by
    rw[beq_eq_false_iff_ne,ByteArray.toList_eq,ByteArray.toList_eq];intro e;rw[zex e] at h2;exact Kord.irr _ h2
   clear K h1 h2;go_enter Tryz.func90,Tryz.ntmps90
   go_wp2_with (go_at_call 147;refine(zig _ _).mono ?_;rintro e V ⟨rfl,rfl⟩)
   go_ret
   exact⟨by rw[za R];rfl,rfl⟩
  ·have R:=zaa (show r=0 by rw[za K];rw[if_neg h1,if_neg h2]);rw[decide_eq_false h2] at l2;have le:(x.toList==y.toList)=true:=by
    rw[beq_iff_eq,((Kord.tri x y).resolve_left h1).resolve_right h2]
   clear K h1 h2;go_enter Tryz.func90,Tryz.ntmps90
   go_wp2_with (go_at_call 147;refine(zig _ _).mono ?_;rintro e V ⟨rfl,rfl⟩)
   go_ret
   exact⟨by rw[za R];rfl,rfl⟩
def or2 (a b:Int):Int:=if a≠0 then a else b
theorem zsa (a b:Int) (w:World) (B c:Nat) (hB:w.heap[B]? = some (.cells #[.int .i64 a,.int .i64 b] 3 (0,0))):Calls Tryz.prog 89 #[.slice (some ⟨B,0,none⟩) 2 c] w fun e w'=>e=.returned (.int .i64 (or2 a b))∧w'=w:=by
 have c0:=zae hB 0 _ rfl;have c1:=zae hB 1 _ rfl;have K:=zaa (show or2 a b=if a≠0 then a else b from rfl);generalize or2 a b=r at *;clear hB;go_enter Tryz.func89,Tryz.ntmps89
 go_wp2
 go_loopw [8] (fun i wr=>∃ j:Nat,j≤2∧i=.int .i64 (j:Int)∧Hid ((0<j→a=0)∧(1<j→b=0))∧Hid (wr=w)) (fun i _=>2 - (intOf i).toNat)
 case atStart=>exact⟨0,by omega,rfl,zaa ⟨fun h=>by omega,fun h=>by omega⟩,zaa rfl⟩
 case round =>
  obtain⟨j,hj,rfl,hz,hw⟩:=hrel;obtain⟨hz1,hz2⟩:=za hz;have hw':=za hw;subst hw';clear hw
  match j,hj with
  |0,_ =>
   by_cases ha:a=0
   ·have R:=zaa (show r=b by rw[za K,if_neg (by simpa using ha)]);subst ha;clear hz1 hz2 K hz
    go_wp2
    exact⟨⟨1,by omega,rfl,zaa ⟨fun _=>(by first|rfl|trivial),fun h=>by omega⟩,zaa (by first|rfl|trivial)⟩,by simp[intOf]⟩
   ·have R:=zaa (show r=a by rw[za K,if_pos ha]);have e1:(a==0)=false:=by simpa using ha
    have e2:(a != 0)=true:=by simpa using ha
    clear hz1 hz2 K hz ha
    go_wp2
    go_ret
    exact⟨by rw[za R];rfl,rfl⟩
  |1,_ =>
   have ha:=hz1 (by omega);have R:=zaa (show r=b by rw[za K,if_neg (by simpa using ha)]);have HA:=zaa ha;clear hz1 hz2 K hz ha;by_cases hb:b=0
   ·subst hb
    go_wp2
    exact⟨⟨2,by omega,rfl,zaa ⟨fun _=>za HA,fun _=>(by first|rfl|trivial)⟩,zaa (by first|rfl|trivial)⟩,by simp[intOf]⟩
   ·have e1:(b==0)=false:=by simpa using hb
    have e2:(b != 0)=true:=by simpa using hb
    clear hb
    go_wp2
    go_ret
    exact⟨by rw[za R];rfl,rfl⟩
  |2,_ =>
   have ha:=hz1 (by omega);have hb:=hz2 (by omega);have R:=zaa (show r=0 by rw[za K,if_neg (by simpa using ha),hb]);clear hz1 hz2 K hz ha hb
   go_wp2
   go_ret
   exact⟨by rw[za R];rfl,rfl⟩
theorem zur (a b:ByteArray×ByteArray):or2 (zes a.1 b.1) (zes a.2 b.2)=zes a b:=by
 unfold or2;have h:∀ x y:ByteArray×ByteArray,Kord.lt x y↔(Kord.lt x.1 y.1∨(x.1=y.1∧Kord.lt x.2 y.2)):=fun x y=>Iff.rfl;rcases Kord.tri a.1 b.1 with h1|h1|h1
 ·have e1:zes a.1 b.1=-1:=by unfold zes;rw[if_pos h1]
  have e2:zes a b=-1:=by unfold zes;rw[if_pos ((h _ _).2 (.inl h1))]
  rw[e1,e2];rfl
 ·have i1:¬ Kord.lt a.1 b.1:=by rw[h1];exact Kord.irr _
  have i2:¬ Kord.lt b.1 a.1:=by rw[h1];exact Kord.irr _
  have e1:zes a.1 b.1=0:=by unfold zes;rw[if_neg i1,if_neg i2]
  rw[e1,if_neg (by simp)];unfold zes;have p1:Kord.lt a b↔Kord.lt a.2 b.2:=by rw[h];exact⟨fun q=>q.elim (fun r=>absurd r i1) (fun r=>r.2),fun q=>.inr ⟨h1,q⟩⟩
  have p2:Kord.lt b a↔Kord.lt b.2 a.2:=by rw[h];exact⟨fun q=>q.elim (fun r=>absurd r i2) (fun r=>r.2),fun q=>.inr ⟨h1.symm,q⟩⟩
  by_cases q1:Kord.lt a.2 b.2
  ·rw[if_pos q1,if_pos (p1.2 q1)]
  ·rw[if_neg q1,if_neg (fun r=>q1 (p1.1 r))];by_cases q2:Kord.lt b.2 a.2
   ·rw[if_pos q2,if_pos (p2.2 q2)]
   ·rw[if_neg q2,if_neg (fun r=>q2 (p2.1 r))]
 ·have i1:¬ Kord.lt a.1 b.1:=fun q=>Kord.irr _ (Kord.tr q h1);have i2:¬ Kord.lt a b:=fun q=>((h _ _).1 q).elim i1 (fun r=>Kord.irr _ (r.1 ▸ h1));have e1:zes a.1 b.1=1:=by unfold zes;rw[if_neg i1,if_pos h1]
  have e2:zes a b=1:=by unfold zes;rw[if_neg i2,if_pos ((h _ _).2 (.inl h1))]
  rw[e1,e2];rfl
theorem ltP {κ:Type} [Kord κ] (x y:κ):ltOf zes x y=decide (Kord.lt x y):=by
 unfold ltOf zes;by_cases h1:Kord.lt x y
 ·simp[h1]
 ·by_cases h2:Kord.lt y x <;> simp[h1,h2]
theorem swoP {κ:Type} [Kord κ]:SWO (ltOf (zes (κ:=κ))) where
 irrefl x:=by rw[ltP];simpa using Kord.irr x
 trans x y z h1 h2:=by rw[ltP] at *;simp at *;exact Kord.tr h1 h2
 ntrans x y z h1 h2:=by
  rw[ltP] at *;simp at *;intro h3;rcases Kord.tri x y with h|h|h
  ·exact h1 h
  ·rw[h] at h3;exact h2 h3
  ·exact h2 (Kord.tr h h3)
theorem zhr (x y:ByteArray×ByteArray) (W:World):Calls Tryz.prog 46 #[plV x,plV y] W fun e w'=>e=.returned (.int .i64 (zes x y))∧∃ q os',w'=grow (W.drewN q) os':=by
 have EQ:=zaa (zur x y);unfold plV;obtain⟨xh,xp⟩:=x;obtain⟨yh,yp⟩:=y;simp only at *;generalize zes (xh,xp) (yh,yp)=r at *;have s1:(W.alloc (.cells #[.string xh,.string xp] 89)).heap.size=W.heap.size+1:=by simp
 have X1:=zaa (show((W.alloc (.cells #[.string xh,.string xp] 89)).alloc (.cells #[.string yh,.string yp] 89)).heap[W.heap.size]? = some (.cells #[.string xh,.string xp] 89 (0,0)) by rw[Below.heap_alloc _ _ _ (by simp)];exact zad _ _);have X2:=zaa (show((W.alloc (.cells #[.string xh,.string xp] 89)).alloc (.cells #[.string yh,.string yp] 89)).heap[W.heap.size+1]? = some (.cells #[.string yh,.string yp] 89 (0,0)) by rw[← s1];exact zad _ _);have GR:=zaa (show ∀ o,∃ q os',(((W.alloc (.cells #[.string xh,.string xp] 89)).alloc (.cells #[.string yh,.string yp] 89)).drew.alloc o)=grow (W.drewN q) os' from fun o=>⟨1,_,by rw[alloc_eq_grow,alloc_eq_grow,alloc_eq_grow,grow_grow];exact grow_grow W.drew _ _⟩);have SZ:=zaa (show((W.alloc (.cells #[.string xh,.string xp] 89)).alloc (.cells #[.string yh,.string yp] 89)).heap.size=W.heap.size+2 by simp);have c0:=zae (za X1) 0 (.string xh) rfl;have c1:=zae (za X1) 1 (.string xp) rfl;have d0:=zae (za X2) 0 (.string yh) rfl;have d1:=zae (za X2) 1 (.string yp) rfl;go_enter Tryz.func46,Tryz.ntmps46
 go_wp2_with fail
 generalize ((W.alloc (.cells #[.string xh,.string xp] 89)).alloc (.cells #[.string yh,.string yp] 89))=V at *;have CA:=zaa (zfy xh yh);have CB:=zaa (zfy xp yp);generalize zes xh yh=ra at *;generalize zes xp yp=rb at *;have OC:=zaa (zsa ra rb (V.drew.alloc (.cells #[.int .i64 ra,.int .i64 rb] 3)) V.heap.size 2 (zad V.drew _));have KB:=zaa (show Below V.heap.size V (V.drew.alloc (.cells #[.int .i64 ra,.int .i64 rb] 3)) from((Below.refl _ _).drew).alloc (Nat.le_refl _) _);have KC:=zaa (show(V.drew.alloc (.cells #[.int .i64 ra,.int .i64 rb] 3)).cell? ⟨W.heap.size,0,none⟩=some (.string xh)∧(V.drew.alloc (.cells #[.int .i64 ra,.int .i64 rb] 3)).cell? ⟨W.heap.size,1,none⟩=some (.string xp)∧(V.drew.alloc (.cells #[.int .i64 ra,.int .i64 rb] 3)).cell? ⟨W.heap.size+1,0,none⟩=some (.string yh)∧(V.drew.alloc (.cells #[.int .i64 ra,.int .i64 rb] 3)).cell? ⟨W.heap.size+1,1,none⟩=some (.string yp) from⟨cell_later (za KB) c0,cell_later (za KB) c1,cell_later (za KB) d0,cell_later (za KB) d1⟩);refine wp_region_held_drew (S:=fun w'=>w'.cell? ⟨W.heap.size,0,none⟩=some (.string xh)∧w'.cell? ⟨W.heap.size,1,none⟩=some (.string xp)∧w'.cell? ⟨W.heap.size+1,0,none⟩=some (.string yh)∧w'.cell? ⟨W.heap.size+1,1,none⟩=some (.string yp)) (by kernel_rfl) ?_ (fun hHeld=>?_)
 ·try dsimp only
  first|exact za KC|exact⟨c0,c1,d0,d1⟩
 refine hT 0 ?_;refine hT 1 ?_;refine hT 2 ?_;refine hT 3 ?_;refine hT 5 ?_;refine hT 6 ?_;refine hT 7 ?_;refine hT 8 ?_;refine wpAnyH_ready (rs:=[4]) (by kernel_rfl) (by simp) ?_;refine AllReadyH.cons rfl (fun K hK=>?_) ?_
 ·go_simp
  go_at_call 90
  refine(za CA _).mono ?_;rintro e V1 ⟨rfl,rfl⟩
  go_wp2_with fail
  refine hK.out _ _ ?_ (fun hHeld=>?_)
  ·try dsimp only
   first|exact za KC|exact⟨c0,c1,d0,d1⟩
  clear hK K;refine hP ?_;refine wpAnyH_ready (rs:=[9]) (by kernel_rfl) (by simp) ?_;refine AllReadyH.cons rfl (fun K hK=>?_) ?_
  ·go_simp
   go_at_call 90
   refine(za CB _).mono ?_;rintro e V1 ⟨rfl,rfl⟩
   go_wp2_with fail
   refine hK.out _ _ ?_ (fun hHeld=>?_)
   ·try dsimp only
    first|exact za KC|exact⟨c0,c1,d0,d1⟩
   clear hK K;refine hP ?_;refine wpAnyH_ready (rs:=[10]) (by kernel_rfl) (by simp) ?_;refine AllReadyH.cons rfl (fun K hK=>?_) ?_
   ·go_simp
    go_wp2_with fail
    refine hK.out _ _ ?_ (fun hHeld=>?_)
    ·try dsimp only
     first|exact za KC|exact⟨c0,c1,d0,d1⟩
    clear hK K;refine hP ?_;refine wpAnyH_ready (rs:=[11]) (by kernel_rfl) (by simp) ?_;refine AllReadyH.cons rfl (fun K hK=>?_) ?_
    ·go_simp
     go_at_call 89
     refine(za OC).mono ?_;rintro e V1 ⟨rfl,rfl⟩
     go_wp2_with fail
     refine hK.out _ _ ?_ (fun hHeld=>?_)
     ·try dsimp only
      first|exact za KC|exact⟨c0,c1,d0,d1⟩
     clear hK K;refine hP ?_;refine hT 12 ?_;refine wpAnyH_done (by kernel_rfl) ?_ _
     go_wp2
     go_ret
     exact⟨by rw[← za EQ];rfl,za GR _⟩
    exact AllReadyH.nil
   exact AllReadyH.nil
  exact AllReadyH.nil
 exact AllReadyH.nil
end
section
open Go.ChangeShapes Go.WideShapes Go.ChangeAt Go.RowKit Go.Maps Go.Shelf
attribute [local go_sem] Oper.semAt_some
structure LeftK {P:Program} {K:TypeId} {κ:Type} (X:Kx P K κ) (fs:List (κ×Value)) (ks:List κ) (left:Lit→Bool):Prop where
 nd:ks.Nodup
 sub:∀ k∈ks,k∈fs.map (·.1)
 is:∀ k∈fs.map (·.1),(left (X.kl k)=true↔k ∉ ks)
theorem LeftK.step {P:Program} {K:TypeId} {κ:Type} {X:Kx P K κ} {fs:List (κ×Value)} {ks:List κ} {left:Lit→Bool} (h:LeftK X fs ks left) (hsame:∀ a b:κ,(X.kl a).sameKey (X.kl b)=true↔X.kl a=X.kl b) (hok:∀ x∈fs,X.ok x.1) {k:κ} (hk:k∈fs.map (·.1)) (hl:left (X.kl k)=true):LeftK X fs (ks++[k]) (fun z=>left z && !z.sameKey (X.kl k)):=by
 have okk:∀ a∈fs.map (·.1),X.ok a:=fun a ha=>by
  obtain⟨y,hy,rfl⟩:=List.mem_map.1 ha;exact hok y hy
 have hn:=(h.is k hk).1 hl;refine⟨?_,?_,?_⟩
 ·rw[List.nodup_append];refine⟨h.nd,by simp,fun a ha b hb e=>?_⟩;simp at hb;subst hb e;exact hn ha
 ·intro a ha;rcases List.mem_append.1 ha with ha|ha
  ·exact h.sub a ha
  ·simp at ha;rw[ha];exact hk
 ·intro a ha;have hs:(X.kl a).sameKey (X.kl k)=true↔a=k:=(hsame a k).trans ⟨fun e=>X.inj (okk a ha) (okk k hk) e,fun e=>by rw[e]⟩;rw[Bool.and_eq_true,h.is a ha,List.mem_append,List.mem_singleton,Bool.not_eq_true',← Bool.not_eq_true,hs,not_or]
section
variable {P:Program} {K:TypeId} {κ:Type} [Kord κ] {X:Kx P K κ} {w:World} {B:Nat} {fs:List (κ×Value)}
theorem LeftK.perm {ks:List κ} {left:Lit→Bool} (h:LeftK X fs ks left) (hr:Kr fs) (h0:∀ kl,left kl=false):ks.Perm (fs.map (·.1)):=by
 refine(List.perm_ext_iff_of_nodup h.nd hr.nodup).2 fun k=>⟨h.sub k,fun hk=>?_⟩
 by_cases e:k∈ks
 ·exact e
 ·have:=(h.is k hk).2 e;rw[h0] at this;cases this
theorem MapG.left (h:MapG X w B fs):∃ D:DataW Value,w.ownsMap P K zca B fs.length D∧Maps.size D=fs.length∧LeftK X fs [] (Maps.has D)∧(∀ k,X.ok k→Maps.has D (X.kl k)=true→k∈fs.map (·.1))∧(∀ x∈fs,∀ zd,D.atKey (X.kl x.1) zd=.held x.2):=by
 obtain⟨D,hD,hH,hA,hS⟩:=h.map;refine⟨D,hD,hS,⟨List.nodup_nil,by simp,fun k hk=>?_⟩,fun k hk hh=>(hH k hk).1 hh,hA⟩;obtain⟨y,hy,rfl⟩:=List.mem_map.1 hk;have:=(hH _ (h.okk y hy)).2 hk;simp[this]
end
theorem zuw (a b:ByteArray×ByteArray):(kxP.kl a).sameKey (kxP.kl b)=true↔kxP.kl a=kxP.kl b:=by
 show(Lit.sameKey (plL a) (plL b))=true↔plL a=plL b
 unfold plL Lit.sameKey;simp
abbrev Pl:=ByteArray×ByteArray
def zr3 (p:Pl):Array Value:=#[plV p]
theorem zq4 (n:Nat) (hn:1≤n) (l Bm b:Nat) {fs:List (Pl×Value)} (J Jx:List Pl→World→Prop)
  (W:World) (hJ:AbidesFrom W.heap.size J) (hY:∀ pre x W1,J pre W1→pre.length<fs.length→YieldAt Fence.wide (n - 1) Tryz.prog l (zr3 x) W1 fun e W'=>(e=.returned (.bool true)∧J (pre++[x]) W'∧KeepsWalks W1 W')∨(e=.returned (.bool false)∧Jx (pre++[x]) W'))
  (hm:W.cell? ⟨Bm,0,none⟩=some (.map (some b))) (hown:MapG kxP W b fs) (h0:J [] W) :
  CallsIn Fence.wide n Tryz.prog 88 #[.func (.yield l) #[] #[],.pointer (some ⟨Bm,0,none⟩)] W fun e W'=>(∃ v,e=.returned v)∧((∃ ks:List Pl,ks.Perm (fs.map (·.1))∧J ks W')∨(∃ pre,True∧Jx pre W')):=by
 obtain⟨D0,hD,hS,hL,hH,hA⟩:=hown.left;have hok:=hown.okk;have hrise:=hown.rise;refine callsIn_of_wp Tryz.func88 rfl trivial ?_ rfl;simp only[Tryz.ntmps88,List.size_toArray,List.length_cons,List.length_nil,Nat.reduceAdd,Nat.reduceSub,Array.replicate_succ,Array.replicate_zero,List.push_toArray,List.append_toArray,List.nil_append,List.cons_append]
 gi_wp2_with (first
  |(gi_at_range;refine wpListIn_range_own _ rfl _ 76 rfl 89 56 zgg zli _ b fs.length _ rfl hD ?_;intro w0 hrg0 hg0 hs0)
  |gi_in)
 go_frame
 gi_loopw [3] (fun _ wr=>∃ (left:Lit→Bool) (cnt:Nat) (ks:List Pl),wr.ranges Tryz.prog 89 zca b W.heap.size fs.length D0 left cnt∧ks.length+cnt≤fs.length∧LeftK kxP fs ks left∧J ks wr)
  (fun _ wr=>wr.rangeLeft b W.heap.size)
 case atStart =>
  exact⟨_,_,[],hrg0,by simp[hS],hL,hJ [] W w0 none h0 hg0 (fun r e=>by cases e)⟩
 case round =>
  obtain⟨left,cnt,ks,hrg,hcs,hC,hJs⟩:=hrel
  gi_wp2_with (first
   |(gi_at_next;refine wpListIn_next_ranges _ rfl _ rfl 89 zgg zca plV id (fun key kl hk=>by obtain⟨x,_,hx,_⟩:=kxP.inv hk;exact⟨x,hx⟩) (fun v _ _=>⟨v,rfl⟩) b W.heap.size fs.length _ _ _ rfl hrg ?_ ?_)
   |gi_in)
  ·intro hc0 hl0
   gi_wp2
   go_end0
   exact⟨⟨_,rfl⟩,.inl ⟨ks,hC.perm hrise hl0,hJs⟩⟩
  ·intro x1 x2 c kl yd yp w2 cnt2 hkey hlk hv hat hrg2 hlt hg2 hs2 hen;obtain⟨x',hok',ex,rfl⟩:=kxP.inv hkey;obtain rfl:(x1,x2)=x':=kxP.vinj ex;have hxf:(x1,x2)∈fs.map (·.1):=hH (x1,x2) hok' (has_true_of_atKey hat);have hJ2:J ks w2:=hJ ks wr w2 (some W.heap.size) hJs hg2 (fun r e=>by cases e;exact⟨Nat.le_refl _,hrg.iter_walk⟩);have hC2:=hC.step zuw hok hxf hlk;have ga:=World.grownBy_alloc w2 (.cells #[.string x1,.string x2] 89) none;have hJ3:J ks (w2.alloc (.cells #[.string x1,.string x2] 89)):=hJ ks w2 _ none hJ2 ga (fun r e=>by cases e);have hrg3:=hrg2.of_walks (KeepsWalks.alloc w2 (.cells #[.string x1,.string x2] 89));obtain⟨fn,tmps,assign,body,hy,hR⟩:=hY ks (x1,x2) _ hJ3 (by omega);have hX:=zad w2 (.cells #[.string x1,.string x2] 89);have q0:=zae hX 0 _ rfl;have q1:=zae hX 1 _ rfl;simp only[zr3,plV] at hy hen;clear hs2
   gi_wp2
   refine hR.mono ?_;rintro e W3 (⟨rfl,hJ4,hk3⟩|⟨rfl,hJx3⟩)
   ·gi_wp2
    have hrg4:=hrg3.of_walks hk3
    go_roundw
    case rel=>exact⟨_,cnt2,ks++[(x1,x2)],hrg4,by simp;omega,hC2,hJ4⟩
    case measure=>rw[hrg4.left_eq,hrg.left_eq];exact hlt
   ·gi_wp2
    refine bodyPost_ret (results_none rfl _ _ _) rfl ?_;exact⟨⟨_,rfl⟩,.inr ⟨_,trivial,hJx3⟩⟩
end
end Go.Proofs.YtjcjleaicjhpeaaGreatDoor
