/- Conf, plain: a route that was put, and dropped. -/
import Derived.Test.YtjcjleaicjhpeaaGreatDoorB31
set_option linter.unusedVariables false
set_option maxRecDepth 20000
set_option maxHeartbeats 16000000
namespace Go.Proofs.YtjcjleaicjhpeaaGreatDoor
open Go.ChangeShapes Go.WideShapes Go.ChangeAt Go.RowKit
section
variable {κ α:Type} [Kord κ]
theorem zlj (kf:α→κ) (k:κ):∀ l:List α,Kl kf l→(l.filter (fun x=>decide (kf x=k))).length=if (zap kf k l).isSome then 1 else 0
 |[],_=>rfl
 |b::l,h=>by
  have ih:=zlj kf k l h.tail;rw[zb6,List.filter_cons];by_cases e:kf b=k
  ·have hn:zap kf k l=none:=ze6 (fun x hx e2=>by
    have:=h.head x hx;rw[e,e2] at this
    exact Kord.irr _ this)
   rw[hn] at ih;rw[if_pos e,if_pos (decide_eq_true e),List.length_cons,ih];rfl
  ·rw[if_neg e,if_neg (by simp[e])];exact ih
theorem zj8 (kf:α→κ) (k:κ):∀ l:List α,(zcr kf k l).length+(l.filter (fun x=>decide (kf x=k))).length=l.length
 |[]=>rfl
 |b::l=>by
  have ih:=zj8 kf k l;unfold zcr at *;rw[List.filter_cons,List.filter_cons];by_cases e:kf b=k
  ·rw[if_neg (by simp[e]),if_pos (decide_eq_true e),List.length_cons,List.length_cons];omega
  ·rw[if_pos (by simp[e]),if_neg (by simp[e]),List.length_cons,List.length_cons];omega
theorem zly (kf:α→κ) (k:κ) (l:List α):zap kf k (zcr kf k l)=none:=ze6 (fun x hx=>by
 have:=(List.mem_filter.1 hx).2
 exact of_decide_eq_true this)
theorem Kl.same {kf:α→κ} {l:List α} (h:Kl kf l) {a b:α} (ha:a∈l) (hb:b∈l) (e:kf a=kf b):a=b:=by
 have h1:=zgk h (x:=(kf a,a)) (List.mem_map.2 ⟨a,ha,rfl⟩);have h2:=zgk h (x:=(kf b,b)) (List.mem_map.2 ⟨b,hb,rfl⟩);dsimp only at h1 h2;rw[e,h2] at h1;exact(Option.some.inj h1).symm
theorem zh3 (kf:α→κ) (a:α) (l:List α):a∈zbk kf a l:=(zf6 kf _ a _ (zd4 kf a l)).1
end
theorem Po8.kr {j b:Nat} {w:World} {h:StH} {z:Sm} (p:Po8 j b w h z):Kl rpl z.rs:=by
 obtain⟨x,h1,h2,h3,h4,h5⟩:=p.ex;rw[← h2.rs];exact h3.kr
def zbo (h p:ByteArray):Cmd:=⟨4,0,0,-1,h,p,⟨#[]⟩,[]⟩
theorem zl5 (h p q:ByteArray) (z:Sm):((doS (zaw h p q) none 0 z).1.1≠0∧(doS (zaw h p q) none 0 z).2=z∧((doS (zaw h p q) none 0 z).1.1=14→zcf q=true→¬ (zba h=true∧zb2 p=true)))∨((doS (zaw h p q) none 0 z).1.1=0∧zba h=true∧zb2 p=true∧(doS (zaw h p q) none 0 z).2.rs=zbk rpl ⟨h,p,q⟩ z.rs):=by
 by_cases hk:zak (zaw h p q)=0
 ·have hp:=(zbi hk).2.2.1;unfold zbf zaw za8 at hp;simp only[Bool.and_eq_true,Bool.or_eq_true,Bool.not_eq_true',decide_eq_true_eq] at hp;have hh:zba h=true∧zb2 p=true:=by
   rcases hp.1.1 with e|e
   ·simp at e
   ·exact e
  rw[zfm hk rfl];have hx:¬ (0≤(zaw h p q).exp∧(zaw h p q).exp≠z.ver):=fun e=>by
   have:=e.1;simp[zaw] at this
  have ha:actN (zaw h p q) none 0 z=zbm ⟨h,p,q⟩ z:=rfl;have ht:=zig (zaw h p q) none 0 z;rw[ha] at ht;rcases zkc ⟨h,p,q⟩ z with⟨e,he,hr⟩|hr
  ·left
   rw[hr] at ht;rw[zg6 hx (ha.trans hr) he];refine⟨he,rfl,fun e14=>?_⟩;dsimp only at e14;rw[e14] at ht;rcases ht with c|c|c|c|c <;> cases c
  ·right
   rw[zje hx (ha.trans hr)];exact⟨rfl,hh.1,hh.2,rfl⟩
 ·left
  rw[zm5 hk];refine⟨by dsimp only;omega,rfl,fun e14 hq hc=>?_⟩;dsimp only at e14;have e2:zak (zaw h p q)=14:=by omega
  have hn:zbf (zaw h p q)=true:=by
   unfold zbf zaw za8;simp[hc.1,hc.2,hq]
  unfold zak at e2;rw[hn] at e2;simp only[↓reduceIte] at e2
  revert e2
  repeat' split
  all_goals simp
theorem zg7 {h p:ByteArray} (hh:zba h=true) (hp:zb2 p=true):zak (zbo h p)=0:=by
 have e1:za4 (zbo h p)=true:=by kernel_rfl
 have e2:za7 (zbo h p)=true:=by unfold za7 zbo za8;simp;rfl
 have e3:zbf (zbo h p)=true:=by unfold zbf zbo za8;simp[hh,hp]
 have e4:zen (zbo h p).ts=true:=by kernel_rfl
 unfold zak;rw[e1,e2,e3,e4];rfl
theorem zml {h p:ByteArray} {z:Sm} (hh:zba h=true) (hp:zb2 p=true) (hs:(zap rpl (h,p) z.rs).isSome):(doS (zbo h p) none 0 z).1.1=0∧(doS (zbo h p) none 0 z).2.rs=zcr rpl (h,p) z.rs:=by
 rw[zfm (zg7 hh hp) rfl];have hx:¬ (0≤(zbo h p).exp∧(zbo h p).exp≠z.ver):=fun e=>by
  have:=e.1;simp[zbo] at this
 have ha:actN (zbo h p) none 0 z=za2 (h,p) z:=rfl;have hr:za2 (h,p) z=(0,{ z with rs:=zcr rpl (h,p) z.rs }):=by
  unfold za2;cases hg:zap rpl (h,p) z.rs with
  |none=>rw[hg] at hs;cases hs
  |some o=>rfl
 rw[zje hx (ha.trans hr)];exact⟨rfl,rfl⟩
theorem znn {h p:ByteArray} {z:Sm} (hh:zba h=true) (hp:zb2 p=true) (hs:zap rpl (h,p) z.rs=none):(doS (zbo h p) none 0 z).1.1=8∧(doS (zbo h p) none 0 z).2.rs=z.rs:=by
 rw[zfm (zg7 hh hp) rfl];have hx:¬ (0≤(zbo h p).exp∧(zbo h p).exp≠z.ver):=fun e=>by
  have:=e.1;simp[zbo] at this
 have ha:actN (zbo h p) none 0 z=za2 (h,p) z:=rfl;have hr:za2 (h,p) z=(8,z):=by
  unfold za2;rw[hs]
 rw[zg6 hx (ha.trans hr) (by decide)];exact⟨rfl,rfl⟩
end Go.Proofs.YtjcjleaicjhpeaaGreatDoor
