/- Conf, plain: a command that expects a version; what stays behind a Do. -/
import Derived.Test.YtjcjleaicjhpeaaGreatDoorB26
set_option linter.unusedVariables false
set_option maxRecDepth 20000
set_option maxHeartbeats 16000000
namespace Go.Proofs.YtjcjleaicjhpeaaGreatDoor
open Go.ChangeShapes Go.WideShapes Go.ChangeAt Go.RowKit
theorem Chg.cells {w w':World} {h:StH} {x:Sm} (c:Chg h w w') (s:StAt w h x) {g:Nat} {cur:Array Value} {T:TypeId} {fr:Nat×Nat} (hT:T≠79) (hg:w.heap[g]? = some (.cells cur T fr)):w'.heap[g]? = some (.cells cur T fr):=by
 obtain⟨g0,g1,g2,g3,g4⟩:=s.notCells hT hg;exact(c.block g g0 g1 g2 g3 g4).trans hg
def zzC (v:Int):Cmd:=⟨1,0,0,v,⟨#[]⟩,⟨#[]⟩,⟨#[122,122]⟩,[(⟨#[116]⟩,4607182418800017408)]⟩
theorem zkl {v:Int} (h:0≤v∧v≤1099511627775):zak (zzC v)=0:=by
 have e1:za4 (zzC v)=true:=by
  unfold za4 zzC;simp only[Bool.and_eq_true,decide_eq_true_eq];refine⟨⟨⟨by omega,by omega⟩,by simp⟩,by omega⟩
 have e2:za7 (zzC v)=true:=by kernel_rfl
 have e3:zbf (zzC v)=true:=by kernel_rfl
 have e4:zen (zzC v).ts=true:=by kernel_rfl
 unfold zak;rw[e1,e2,e3,e4];rfl
theorem zie {v:Int} {z:Sm} (h:0≤v∧v≤1099511627775) (hne:v≠z.ver):doS (zzC v) none 0 z=((12,z.ver),z):=by
 rw[zfm (zkl h) rfl,zhv ⟨h.1,hne⟩]
theorem zmj (z:Sm):(zar z.cf).length≤(zkd z).length:=by
 unfold zkd;simp only[List.length_append];omega
theorem zn3 {z:Sm} (h:0≤z.ver∧z.ver≤1099511627775) (hp:z.ps.length<32) (hs:(zkd z).length≤11900):(doS (zzC z.ver) none 0 z).1=(0,z.ver+1):=by
 have hc:=zmj z;have hl:(zas ⟨⟨#[122,122]⟩,[(⟨#[116]⟩,4607182418800017408)]⟩).length=14:=by kernel_rfl
 have ha:(actN (zzC z.ver) none 0 z).1=0:=by
  unfold actN;rw[if_pos (show(zzC z.ver).act=1 from rfl)];unfold zb3 zzC;dsimp only;rw[hl];cases hg:zap qnm ⟨#[122,122]⟩ z.ps with
  |none =>
   dsimp only;rw[if_neg (by omega),if_pos (by omega)]
  |some o =>
   dsimp only;rw[if_pos (by omega)]
 have hk:=zc2 (zzC z.ver) none 0 z;rw[zfm (zkl h) rfl];have hx:¬ (0≤(zzC z.ver).exp∧(zzC z.ver).exp≠z.ver):=fun e=>e.2 rfl;rw[zje hx (z:=(actN (zzC z.ver) none 0 z).2) (by rw[← ha]),hk.1]
end Go.Proofs.YtjcjleaicjhpeaaGreatDoor
