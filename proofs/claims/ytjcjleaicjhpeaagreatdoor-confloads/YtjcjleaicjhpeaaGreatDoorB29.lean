/- Conf, plainly: what the document's Load reads is what the program's reads. -/
import Derived.Test.YtjcjleaicjhpeaaGreatDoorB05
import Derived.Test.YtjcjleaicjhpeaaGreatDoorB28
import Derived.Test.YtjcjleaicjhpeaaGreatDoorB07
set_option linter.unusedVariables false
set_option maxRecDepth 20000
set_option maxHeartbeats 16000000
namespace Go.Proofs.YtjcjleaicjhpeaaGreatDoor
section
open Go.ChangeShapes Go.WideShapes Go.ChangeAt Go.RowKit
section
variable {α β:Type}
def zbh (x:α×Nat×Nat) (f:α→Nat→Nat→β×Nat×Nat):β×Nat×Nat:=f x.1 x.2.1 x.2.2
theorem zau {x:α×Nat×Nat} {a:α} {k e:Nat} (h:x=(a,k,e)) (f:α→Nat→Nat→β×Nat×Nat):zbh x f=f a k e:=by rw[h];rfl
theorem zah {x:α×Nat×Nat} {e:Nat} (he:e≠0) (h:x.2.2=e) {f:α→Nat→Nat→β×Nat×Nat} (hf:∀ a k e,e≠0→(f a k e).2.2=e):(zbh x f).2.2=e:=by
 unfold zbh;rw[h];exact hf _ _ _ he
def LkL (x y:α×Nat×Nat):Prop:=x.2.2=y.2.2∧(x.2.2=0→x=y)
theorem LkL.rfl' (x:α×Nat×Nat):LkL x x:=⟨rfl,fun _=>rfl⟩
theorem zb9 {x y:α×Nat×Nat} (L:LkL x y) {f g:α→Nat→Nat→β×Nat×Nat} (hf:∀ a k e,e≠0→(f a k e).2.2=e) (hg:∀ a k e,e≠0→(g a k e).2.2=e) (h:∀ a k,LkL (f a k 0) (g a k 0)):LkL (zbh x f) (zbh y g):=by
 obtain⟨l1,l2⟩:=L;by_cases hx:x.2.2=0
 ·rw[← l2 hx];unfold zbh;rw[hx];exact h _ _
 ·have h1:=zah hx rfl hf;have h2:=zah hx l1.symm hg;exact⟨h1.trans h2.symm,fun h0=>absurd (h1.symm.trans h0) hx⟩
def zft (f:Nat→Nat→α×Nat×Nat):Nat→Nat→Nat→List α×Nat×Nat
 |0,k,e=>([],k,e)
 |n+1,k,e=>if e≠0 then ([],k,e) else ((f k e).1::(zft f n (f k e).2.1 (f k e).2.2).1,(zft f n (f k e).2.1 (f k e).2.2).2)
theorem zf (f:Nat→Nat→α×Nat×Nat) (n k:Nat):zft f (n+1) k 0=((f k 0).1::(zft f n (f k 0).2.1 (f k 0).2.2).1,(zft f n (f k 0).2.1 (f k 0).2.2).2):=rfl
theorem zb7 (f:Nat→Nat→α×Nat×Nat) (n k e:Nat) (he:e≠0):zft f n k e=([],k,e):=by
 cases n with
 |zero=>rfl
 |succ n=>simp[zft,he]
theorem zc6 {fk:Nat→Nat→α×Nat×Nat} {gk:Nat→Nat→Nat→List α×Nat×Nat} (g0:∀ k e,gk 0 k e=([],k,e)) (gs:∀ n k e,gk (n+1) k e=((fk k e).1::(gk n (fk k e).2.1 (fk k e).2.2).1,(gk n (fk k e).2.1 (fk k e).2.2).2)) (hk:∀ k e,e≠0→(fk k e).2.2=e):∀ n k e,e≠0→(gk n k e).2.2=e
 |0,k,e,he=>by rw[g0]
 |n+1,k,e,he=>by
  rw[gs];dsimp only;rw[hk k e he];exact zc6 g0 gs hk n _ e he
theorem zlf {fz fk:Nat→Nat→α×Nat×Nat} {gk:Nat→Nat→Nat→List α×Nat×Nat} (g0:∀ k e,gk 0 k e=([],k,e)) (gs:∀ n k e,gk (n+1) k e=((fk k e).1::(gk n (fk k e).2.1 (fk k e).2.2).1,(gk n (fk k e).2.1 (fk k e).2.2).2)) (hk:∀ k e,e≠0→(fk k e).2.2=e) (L:∀ k,LkL (fz k 0) (fk k 0)):∀ n k e,LkL (zft fz n k e) (gk n k e)
 |0,k,e=>by rw[g0];exact LkL.rfl' _
 |n+1,k,e=>by
  by_cases he:e=0
  ·subst he;obtain⟨h1,h2⟩:=L k;rw[zf,gs];by_cases hx:(fz k 0).2.2=0
   ·rw[← h2 hx];obtain⟨h3,h4⟩:=zlf g0 gs hk L n (fz k 0).2.1 (fz k 0).2.2;exact⟨h3,fun h0=>by rw[h4 h0]⟩
   ·rw[zb7 fz _ _ _ hx];refine⟨?_,fun h0=>absurd h0 hx⟩;dsimp only;rw[← h1,zc6 g0 gs hk n _ _ hx]
  ·rw[zb7 fz _ _ _ he];exact⟨(zc6 g0 gs hk _ _ _ he).symm,fun h0=>absurd h0 he⟩
end
section
variable {h:List Nat}
theorem zde {k e m:Nat} (he:e≠0):zcj h k e m=(0,k,e):=by simp[zcj,he]
theorem zgj {k e n:Nat} (he:e≠0):zgt h k e n=([],k,e):=by simp[zgt,he]
theorem zd6 {k e m:Nat} (he:e≠0):zbo h k e m=(0,k,e):=by simp[zbo,zfg he]
theorem zqv (hb:∀ c∈h,c<256) (k e:Nat):zcj h k e 1099511627776=zcd h k e:=by
 by_cases he:e=0
 ·subst he;unfold zcj zcd;cases ht:zcz h k with
  |ok q =>
   obtain⟨n,k2⟩:=q;have:=(zgp ht hb).2;simp;omega
  |error x=>simp
 ·rw[zde he,zfg he]
theorem zin (k e m:Nat):LkL (zcj h k e m) (zbo h k e m):=by
 by_cases he:e=0
 ·subst he;unfold zcj zbo zcd;cases ht:zcz h k with
  |ok q =>
   obtain⟨n,k2⟩:=q;by_cases hm:m<n
   ·simp[hm,LkL,zcx]
   ·simp[hm,LkL]
  |error x =>
   have:=zfa ht;simp[LkL]
 ·rw[zde he,zd6 he];exact LkL.rfl' _
theorem zqw (k e n:Nat):zgt h k e n=zd7 h k e n:=by
 by_cases he:e=0
 ·subst he;unfold zgt zd7 zpy;by_cases hs:h.length - k<n <;> simp[hs,zcx]
 ·rw[zgj he,zdo he]
theorem zmg (k e:Nat):zgr h k e=zbh (zcj h k e 128) (fun n k e=>zgt h k e n):=rfl
theorem zmf (k e:Nat):zbp h k e=zbh (zbo h k e 128) (fun n k e=>zd7 h k e n):=rfl
theorem zj (k e:Nat) (he:e≠0):(zgr h k e).2.2=e:=by
 rw[zmg,zde he];exact congrArg (·.2.2) (zgj he)
theorem zb6 (k e:Nat) (he:e≠0):(zbp h k e).2.2=e:=by
 rw[zmf,zd6 he];exact congrArg (·.2.2) (zdo he)
theorem zio (k e:Nat):LkL (zgr h k e) (zbp h k e):=by
 rw[zmg,zmf];exact zb9 (zin k e 128) (fun a k e he=>by rw[zgj he]) (fun a k e he=>by rw[zdo he]) (fun a k=>by rw[zqw];exact LkL.rfl' _)
theorem zsm (k e:Nat):tgZ h k e=zbh (zgr h k e) (fun s k e=>zbh (zgt h k e 8) (fun b k e=>((zaj s,zco b),k,e))):=rfl
theorem zor (k e:Nat):tgK h k e=zbh (zbp h k e) (fun s k e=>zbh (zd7 h k e 8) (fun b k e=>((zaj s,zco b),k,e))):=rfl
theorem zoq (k e:Nat) (he:e≠0):(tgK h k e).2.2=e:=by
 rw[zor];exact zah he (zb6 k e he) (fun a k e he=>zah he (by rw[zdo he]) (fun _ _ _ _=>rfl))
theorem zuj (k e:Nat):LkL (tgZ h k e) (tgK h k e):=by
 rw[zsm,zor];refine zb9 (zio k e) (fun a k e he=>zah he (by rw[zgj he]) (fun _ _ _ _=>rfl)) (fun a k e he=>zah he (by rw[zdo he]) (fun _ _ _ _=>rfl)) (fun a k=>?_);rw[zqw];exact LkL.rfl' _
theorem zm:∀ n k e,zfb h n k e=zft (tgZ h) n k e
 |0,_,_=>rfl
 |n+1,k,e=>by
  by_cases he:e=0
  ·subst he;rw[zj2,zf,zm n]
  ·rw[zl9 h _ _ _ he,zb7 _ _ _ _ he]
theorem zme (k e:Nat):zrn h k e=zbh (zcj h k e 16) (fun n k e=>zft (tgZ h) n k e):=by
 show zfb h _ _ _=_
 rw[zm];rfl
theorem zmd (k e:Nat):zjf h k e=zbh (zbo h k e 16) (fun n k e=>zgq h n k e):=rfl
theorem zmb (n k e:Nat) (he:e≠0):(zgq h n k e).2.2=e:=zc6 (fk:=tgK h) (gk:=zgq h) (fun _ _=>rfl) (zc0 h) zoq n k e he
theorem zi8 (k e:Nat) (he:e≠0):(zjf h k e).2.2=e:=by
 rw[zmd];exact zah he (by rw[zd6 he]) (fun a k e he=>zmb a k e he)
theorem zro (k e:Nat) (he:e≠0):(zrn h k e).2.2=e:=by
 rw[zme];exact zah he (by rw[zde he]) (fun a k e he=>by rw[zb7 _ _ _ _ he])
theorem ztj (k e:Nat):LkL (zrn h k e) (zjf h k e):=by
 rw[zme,zmd];exact zb9 (zin k e 16) (fun a k e he=>by rw[zb7 _ _ _ _ he]) (fun a k e he=>zmb a k e he) (fun a k=>zlf (fk:=tgK h) (gk:=zgq h) (fun _ _=>rfl) (zc0 h) zoq (fun k=>zuj k 0) a k 0)
end
def zml (h:List Nat) (k e:Nat):Po×Nat×Nat:=zbh (zgr h k e) (fun s k e=>zbh (zrn h k e) (fun ts k e=>(⟨zaj s,ts⟩,k,e)))
def zmm (h:List Nat) (k e:Nat):Rt×Nat×Nat:=zbh (zgr h k e) (fun a k e=>zbh (zgr h k e) (fun b k e=>zbh (zgr h k e) (fun d k e=>(⟨zaj a,zaj b,zaj d⟩,k,e))))
def zmj (h:List Nat) (k e:Nat):Ls×Nat×Nat:=zbh (zcj h k e 1099511627776) (fun a k e=>zbh (zcj h k e 1099511627776) (fun b k e=>zbh (zcj h k e 1099511627776) (fun d k e=>zbh (zcj h k e 1099511627776) (fun f k e=>(⟨a,b,d,f⟩,k,e)))))
def zst (h:List Nat) (k e:Nat):List Po×Nat×Nat:=zbh (zcj h k e 32) (fun n k e=>zft (zml h) n k e)
def zsv (h:List Nat) (k e:Nat):List Rt×Nat×Nat:=zbh (zcj h k e 64) (fun n k e=>zft (zmm h) n k e)
def zsr (h:List Nat) (k e:Nat):List Ls×Nat×Nat:=zbh (zcj h k e 32) (fun n k e=>zft (zmj h) n k e)
section
variable {h:List Nat}
theorem zq6 {k e k2 e2 k3 e3:Nat} {tb:List Nat} {ts:List Tg} (h1:zgr h k e=(tb,k2,e2)) (h2:zrn h k2 e2=(ts,k3,e3)):zml h k e=(⟨zaj tb,ts⟩,k3,e3):=by
 unfold zml;rw[zau h1,zau h2]
theorem zrg {k e k2 e2 k3 e3 k4 e4:Nat} {a b d:List Nat} (h1:zgr h k e=(a,k2,e2)) (h2:zgr h k2 e2=(b,k3,e3)) (h3:zgr h k3 e3=(d,k4,e4)):zmm h k e=(⟨zaj a,zaj b,zaj d⟩,k4,e4):=by
 unfold zmm;rw[zau h1,zau h2,zau h3]
theorem zqb {k e n1 k2 e2 n2 k3 e3 n3 k4 e4 n4 k5 e5:Nat} (h1:zcj h k e 1099511627776=(n1,k2,e2)) (h2:zcj h k2 e2 1099511627776=(n2,k3,e3)) (h3:zcj h k3 e3 1099511627776=(n3,k4,e4)) (h4:zcj h k4 e4 1099511627776=(n4,k5,e5)):zmj h k e=(⟨n1,n2,n3,n4⟩,k5,e5):=by
 unfold zmj;rw[zau h1,zau h2,zau h3,zau h4]
theorem zlq (k e:Nat):zg4 h k e=zbh (zbp h k e) (fun s k e=>zbh (zjf h k e) (fun ts k e=>(⟨zaj s,ts⟩,k,e))):=rfl
theorem ziz (k e:Nat):zho h k e=zbh (zbp h k e) (fun a k e=>zbh (zbp h k e) (fun b k e=>zbh (zbp h k e) (fun d k e=>(⟨zaj a,zaj b,zaj d⟩,k,e)))):=rfl
theorem zkx (k e:Nat):zhl h k e=zbh (zcd h k e) (fun a k e=>zbh (zcd h k e) (fun b k e=>zbh (zcd h k e) (fun d k e=>zbh (zcd h k e) (fun f k e=>(⟨a,b,d,f⟩,k,e))))):=rfl
theorem ziw (k e:Nat):znf h k e=zbh (zbo h k e 32) (fun n k e=>zje h n k e):=rfl
theorem zi2 (k e:Nat):zom h k e=zbh (zbo h k e 64) (fun n k e=>zhw h n k e):=rfl
theorem zh5 (k e:Nat):zn8 h k e=zbh (zbo h k e 32) (fun n k e=>zjh h n k e):=rfl
theorem zit (k e:Nat) (he:e≠0):(zg4 h k e).2.2=e:=by
 rw[zlq];exact zah he (zb6 k e he) (fun a k e he=>zah he (zi8 k e he) (fun _ _ _ _=>rfl))
theorem ziy (k e:Nat) (he:e≠0):(zho h k e).2.2=e:=by
 rw[ziz];exact zah he (zb6 k e he) (fun a k e he=>zah he (zb6 k e he) (fun a k e he=>zah he (zb6 k e he) (fun _ _ _ _=>rfl)))
theorem zdd (k e:Nat) (he:e≠0):(zcd h k e).2.2=e:=by rw[zfg he]
theorem zh3 (k e:Nat) (he:e≠0):(zhl h k e).2.2=e:=by
 rw[zkx];exact zah he (zdd k e he) (fun a k e he=>zah he (zdd k e he) (fun a k e he=>zah he (zdd k e he) (fun a k e he=>zah he (zdd k e he) (fun _ _ _ _=>rfl))))
theorem ziv (n k e:Nat) (he:e≠0):(zje h n k e).2.2=e:=zc6 (fk:=zg4 h) (gk:=zje h) (fun _ _=>rfl) (zdg h) zit n k e he
theorem zi0 (n k e:Nat) (he:e≠0):(zhw h n k e).2.2=e:=zc6 (fk:=zho h) (gk:=zhw h) (fun _ _=>rfl) (zed h) ziy n k e he
theorem zh4 (n k e:Nat) (he:e≠0):(zjh h n k e).2.2=e:=zc6 (fk:=zhl h) (gk:=zjh h) (fun _ _=>rfl) (zd5 h) zh3 n k e he
theorem zlr (k e:Nat) (he:e≠0):(znf h k e).2.2=e:=by
 rw[ziw];exact zah he (by rw[zd6 he]) (fun a k e he=>ziv a k e he)
theorem zi1 (k e:Nat) (he:e≠0):(zom h k e).2.2=e:=by
 rw[zi2];exact zah he (by rw[zd6 he]) (fun a k e he=>zi0 a k e he)
theorem zf9 (k e:Nat) (he:e≠0):(zn8 h k e).2.2=e:=by
 rw[zh5];exact zah he (by rw[zd6 he]) (fun a k e he=>zh4 a k e he)
theorem zq8 (k e:Nat) (he:e≠0):(zst h k e).2.2=e:=zah he (by rw[zde he]) (fun a k e he=>by rw[zb7 _ _ _ _ he])
theorem zly (k e:Nat) (he:e≠0):(zsv h k e).2.2=e:=zah he (by rw[zde he]) (fun a k e he=>by rw[zb7 _ _ _ _ he])
theorem zh6 (k e:Nat) (he:e≠0):(zsr h k e).2.2=e:=zah he (by rw[zde he]) (fun a k e he=>by rw[zb7 _ _ _ _ he])
theorem ztf (k e:Nat):LkL (zml h k e) (zg4 h k e):=by
 rw[zlq];unfold zml;exact zb9 (zio k e) (fun a k e he=>zah he (zro k e he) (fun _ _ _ _=>rfl)) (fun a k e he=>zah he (zi8 k e he) (fun _ _ _ _=>rfl)) (fun a k=>zb9 (ztj k 0) (fun _ _ _ _=>rfl) (fun _ _ _ _=>rfl) (fun _ _=>LkL.rfl' _))
theorem zth (k e:Nat):LkL (zmm h k e) (zho h k e):=by
 rw[ziz];unfold zmm;exact zb9 (zio k e) (fun a k e he=>zah he (zj k e he) (fun a k e he=>zah he (zj k e he) (fun _ _ _ _=>rfl))) (fun a k e he=>zah he (zb6 k e he) (fun a k e he=>zah he (zb6 k e he) (fun _ _ _ _=>rfl))) (fun a k=>zb9 (zio k 0) (fun a k e he=>zah he (zj k e he) (fun _ _ _ _=>rfl)) (fun a k e he=>zah he (zb6 k e he) (fun _ _ _ _=>rfl)) (fun a k=>zb9 (zio k 0) (fun _ _ _ _=>rfl) (fun _ _ _ _=>rfl) (fun _ _=>LkL.rfl' _)))
theorem ztd (hb:∀ c∈h,c<256) (k e:Nat):LkL (zmj h k e) (zhl h k e):=by
 rw[zkx];unfold zmj;simp only[zqv hb];exact LkL.rfl' _
theorem ztg (k e:Nat):LkL (zst h k e) (znf h k e):=by
 rw[ziw];unfold zst;exact zb9 (zin k e 32) (fun a k e he=>by rw[zb7 _ _ _ _ he]) (fun a k e he=>ziv a k e he) (fun a k=>zlf (fk:=zg4 h) (gk:=zje h) (fun _ _=>rfl) (zdg h) zit (fun k=>ztf k 0) a k 0)
theorem zti (k e:Nat):LkL (zsv h k e) (zom h k e):=by
 rw[zi2];unfold zsv;exact zb9 (zin k e 64) (fun a k e he=>by rw[zb7 _ _ _ _ he]) (fun a k e he=>zi0 a k e he) (fun a k=>zlf (fk:=zho h) (gk:=zhw h) (fun _ _=>rfl) (zed h) ziy (fun k=>zth k 0) a k 0)
theorem zte (hb:∀ c∈h,c<256) (k e:Nat):LkL (zsr h k e) (zn8 h k e):=by
 rw[zh5];unfold zsr;exact zb9 (zin k e 32) (fun a k e he=>by rw[zb7 _ _ _ _ he]) (fun a k e he=>zh4 a k e he) (fun a k=>zlf (fk:=zhl h) (gk:=zjh h) (fun _ _=>rfl) (zd5 h) zh3 (fun k=>ztd hb k 0) a k 0)
abbrev LdV:=Nat×List Po×List Rt×List Ls×Nat×Nat
def zt3 (h:List Nat):LdV×Nat×Nat:=zbh (zcj h 0 0 1099511627776) (fun n k1 e=>zbh (zst h k1 e) (fun ps k e=>zbh (zsv h k e) (fun rs k3 e=>zbh (zsr h k3 e) (fun cl k e=>((n,ps,rs,cl,k1,k3),k,e)))))
def allK (h:List Nat):LdV×Nat×Nat:=zbh (zcd h 0 0) (fun n k1 e=>zbh (znf h k1 e) (fun ps k e=>zbh (zom h k e) (fun rs k3 e=>zbh (zn8 h k3 e) (fun cl k e=>((n,ps,rs,cl,k1,k3),k,e)))))
theorem zqu (hb:∀ c∈h,c<256):LkL (zt3 h) (allK h):=by
 unfold zt3 allK;rw[zqv hb];refine zb9 (LkL.rfl' _) (fun a k e he=>zah he (zq8 k e he) (fun a k e he=>zah he (zly k e he) (fun a k e he=>zah he (zh6 k e he) (fun _ _ _ _=>rfl)))) (fun a k e he=>zah he (zlr k e he) (fun a k e he=>zah he (zi1 k e he) (fun a k e he=>zah he (zf9 k e he) (fun _ _ _ _=>rfl)))) (fun n k1=>?_);refine zb9 (ztg k1 0) (fun a k e he=>zah he (zly k e he) (fun a k e he=>zah he (zh6 k e he) (fun _ _ _ _=>rfl))) (fun a k e he=>zah he (zi1 k e he) (fun a k e he=>zah he (zf9 k e he) (fun _ _ _ _=>rfl))) (fun ps k=>?_);refine zb9 (zti k 0) (fun a k e he=>zah he (zh6 k e he) (fun _ _ _ _=>rfl)) (fun a k e he=>zah he (zf9 k e he) (fun _ _ _ _=>rfl)) (fun rs k3=>?_);exact zb9 (zte hb k3 0) (fun _ _ _ _=>rfl) (fun _ _ _ _=>rfl) (fun _ _=>LkL.rfl' _)
theorem zs3 {n k1 e1 k2 e2 k3 e3 k4 e4:Nat} {ps:List Po} {rs:List Rt} {cl:List Ls} (q1:zcj h 0 0 1099511627776=(n,k1,e1)) (q2:zst h k1 e1=(ps,k2,e2)) (q3:zsv h k2 e2=(rs,k3,e3)) (q4:zsr h k3 e3=(cl,k4,e4)):zt3 h=((n,ps,rs,cl,k1,k3),k4,e4):=by
 unfold zt3;rw[zau q1,zau q2,zau q3,zau q4]
theorem zp6 {n k1 k3 k4 e4:Nat} {ps:List Po} {rs:List Rt} {cl:List Ls} (q:LdK h n ps rs cl k1 k3 k4 e4):allK h=((n,ps,rs,cl,k1,k3),k4,e4):=by
 obtain⟨e1,k2,e2,e3,q1,q2,q3,q4⟩:=q.eq;unfold allK;rw[zau q1,zau q2,zau q3,zau q4]
end
theorem zn2 (b:List Nat):(zaj b).size=b.length:=by simp[zaj,ByteArray.size]
theorem zmc (h:List Nat):∀ (n k e:Nat),(zgq h n k e).1.length=n
 |0,k,e=>by simp[zgq]
 |n+1,k,e=>by rw[zc0];simp[zmc h n]
section
variable {l:List Nat} (hl:∀ c∈l,c<256)
include hl
theorem zll {k e:Nat} (h:(zcd l k e).2.2=0) (hk:k≤l.length):e=0∧zo0 l k (zal (zcd l k e).1++l.drop (zcd l k e).2.1)∧(zcd l k e).2.1≤l.length∧(zcd l k e).1≤1099511627776:=by
 by_cases he:e=0
 ·subst he;cases ht:zcz l k with
  |ok q =>
   obtain⟨n,k2⟩:=q;obtain⟨h1,h2,h3,h4⟩:=zh hl ht;rw[zq0 ht];exact⟨rfl,⟨hk,h1⟩,h3,h4⟩
  |error x =>
   rw[zoe ht] at h;exact absurd h (zfa ht)
 ·rw[zfg he] at h;exact absurd h he
theorem zh7 {k e m:Nat} (h:(zbo l k e m).2.2=0) (hk:k≤l.length):e=0∧zo0 l k (zal (zbo l k e m).1++l.drop (zbo l k e m).2.1)∧(zbo l k e m).2.1≤l.length:=by
 by_cases hm:m<(zcd l k e).1
 ·have e1:zbo l k e m=(0,(zcd l k e).2.1,zcx (zcd l k e).2.2 6):=by unfold zbo;dsimp only;rw[if_pos hm]
  rw[e1] at h;unfold zcx at h;dsimp only at h;split at h
  ·cases h
  ·contradiction
 ·have e1:zbo l k e m=zcd l k e:=by unfold zbo;dsimp only;rw[if_neg hm]
  rw[e1] at h ⊢;obtain⟨h1,h2,h3,_⟩:=zll hl h hk;exact⟨h1,h2,h3⟩
omit hl in
theorem zkz {k e n:Nat} (h:(zd7 l k e n).2.2=0) (hk:k≤l.length):e=0∧zo0 l k ((zd7 l k e n).1++l.drop (zd7 l k e n).2.1)∧(zd7 l k e n).2.1≤l.length∧(zd7 l k e n).1.length=n:=by
 by_cases hx:zpy l k e n=0
 ·have hc:zd7 l k e n=((l.drop k).take n,k+n,0):=by unfold zd7;rw[if_neg (by simp[hx])]
  have hn:¬ l.length - k<n:=by
   intro hn;unfold zpy zcx at hx;rw[if_pos hn] at hx;split at hx
   ·cases hx
   ·contradiction
  have he:e=0:=by
   unfold zpy at hx;rw[if_neg hn] at hx;exact hx
  rw[hc];refine⟨he,⟨hk,?_⟩,by dsimp only;omega,by simp only[List.length_take,List.length_drop];omega⟩;dsimp only;rw[← List.drop_drop,List.take_append_drop]
 ·have hc:zd7 l k e n=([],k,zpy l k e n):=by unfold zd7;rw[if_pos hx]
  rw[hc] at h;exact absurd h hx
theorem zqe (k e n:Nat):∀ c∈(zd7 l k e n).1,c<256:=by
 intro c hc;unfold zd7 at hc;split at hc
 ·cases hc
 ·exact hl c (List.mem_of_mem_drop (List.mem_of_mem_take hc))
theorem zi9 {k e:Nat} (h:(zbp l k e).2.2=0) (hk:k≤l.length):e=0∧zo0 l k (txB (zaj (zbp l k e).1)++l.drop (zbp l k e).2.1)∧(zbp l k e).2.1≤l.length:=by
 have e1:zbp l k e=zd7 l (zbo l k e 128).2.1 (zbo l k e 128).2.2 (zbo l k e 128).1:=rfl;rw[e1] at h ⊢;have hk1:(zbo l k e 128).2.1≤l.length:=by
  unfold zbo;dsimp only;have:(zcd l k e).2.1≤l.length:=by
   unfold zcd;split
   ·exact hk
   ·cases ht:zcz l k with
    |ok q=>obtain⟨n,k2⟩:=q;exact(zh hl ht).2.2.1
    |error x=>exact hk
  split
  ·exact this
  ·exact this
 obtain⟨h1,h2,h3,h4⟩:=zkz h hk1;obtain⟨h5,h6,_⟩:=zh7 hl h1 hk;have hb:=zqe hl (zbo l k e 128).2.1 (zbo l k e 128).2.2 (zbo l k e 128).1;generalize zbo l k e 128=q at *;obtain⟨n,k1,e2⟩:=q;dsimp only at *;generalize zd7 l k1 e2 n=q2 at *;obtain⟨b,k2,e3⟩:=q2;dsimp only at *;refine⟨h5,⟨hk,?_⟩,h3⟩;unfold txB;rw[zn2,h4,zp8 b hb,List.append_assoc,h6.2,h2.2]
omit hl in
theorem zpx:∀ (b:List Nat),b.length=8→(∀ c∈b,c<256)→zhc (zco b)=b:=by
 intro b h8 hb
 match b,h8 with
 |[b0,b1,b2,b3,b4,b5,b6,b7],_ =>
  have g0:=hb b0 (by simp);have g1:=hb b1 (by simp);have g2:=hb b2 (by simp);have g3:=hb b3 (by simp);have g4:=hb b4 (by simp);have g5:=hb b5 (by simp);have g6:=hb b6 (by simp);have g7:=hb b7 (by simp);have e:zco [b0,b1,b2,b3,b4,b5,b6,b7]=((((((b0*256+b1)*256+b2)*256+b3)*256+b4)*256+b5)*256+b6)*256+b7:=by simp[zco]
  rw[e];unfold zhc;rw[show List.range 8=[0,1,2,3,4,5,6,7] from rfl];simp only[List.map_cons,List.map_nil,List.cons.injEq,and_true];refine⟨?_,?_,?_,?_,?_,?_,?_,?_⟩ <;> simp only[Nat.mul_zero,Nat.sub_zero,Nat.reduceMul,Nat.reduceSub,Nat.reducePow,Nat.pow_zero] <;> omega
theorem zsp {k e:Nat} (h:(wtK l k e).2.2=0) (hk:k≤l.length):e=0∧zo0 l k (zhc (wtK l k e).1++l.drop (wtK l k e).2.1)∧(wtK l k e).2.1≤l.length:=by
 obtain⟨h1,h2,h3,h4⟩:=zkz (l:=l) (k:=k) (e:=e) (n:=8) h hk;have hb:=zqe hl k e 8;refine⟨h1,?_,h3⟩;have e1:(wtK l k e).1=zco (zd7 l k e 8).1:=rfl;rw[e1,zpx _ h4 hb];exact h2
theorem zsl {k e:Nat} (h:(tgK l k e).2.2=0) (hk:k≤l.length):e=0∧zo0 l k (tgB (tgK l k e).1++l.drop (tgK l k e).2.1)∧(tgK l k e).2.1≤l.length:=by
 have e1:tgK l k e=((zaj (zbp l k e).1,(wtK l (zbp l k e).2.1 (zbp l k e).2.2).1),(wtK l (zbp l k e).2.1 (zbp l k e).2.2).2):=rfl;rw[e1] at h ⊢;dsimp only at h ⊢;have hk1:(zbp l k e).2.2=0→(zbp l k e).2.1≤l.length:=fun hh=>(zi9 hl hh hk).2.2;have hz:(zbp l k e).2.2=0:=by
  by_cases hz:(zbp l k e).2.2=0
  ·exact hz
  ·exfalso
   unfold wtK at h;rw[zdo hz] at h;exact hz h
 obtain⟨h1,h2,h3⟩:=zi9 hl hz hk;obtain⟨_,h5,h6⟩:=zsp hl h h3;refine⟨h1,⟨hk,?_⟩,h6⟩;unfold tgB;dsimp only;rw[List.append_assoc,h2.2,h5.2]
omit hl in
theorem ztz {k e:Nat} (he:e≠0):(tgK l k e).2.2=e:=by
 have e1:zbo l k e 128=(if 128<0 then (0,k,zcx e 6) else (0,k,e)):=by unfold zbo;rw[zfg he]
 have e2:zbp l k e=([],k,e):=by
  unfold zbp;rw[e1];exact zdo he
 unfold tgK;dsimp only;rw[e2];dsimp only;unfold wtK;rw[zdo he]
omit hl in
theorem zi7:∀ (n k e:Nat),(zgq l n k e).2.2=0→e=0
 |0,k,e,h=>h
 |n+1,k,e,h=>by
  rw[zc0] at h;have h1:=zi7 n _ _ h;by_cases he:e=0
  ·exact he
  ·rw[ztz he] at h1;exact h1
theorem zma:∀ (n k e:Nat),(zgq l n k e).2.2=0→k≤l.length→e=0∧zo0 l k ((zgq l n k e).1.flatMap tgB++l.drop (zgq l n k e).2.1)∧(zgq l n k e).2.1≤l.length
 |0,k,e,h,hk=>⟨h,⟨hk,by simp[zgq]⟩,hk⟩
 |n+1,k,e,h,hk=>by
  rw[zc0] at h ⊢;dsimp only at h ⊢;have hz:(tgK l k e).2.2=0:=by
   by_cases hz:(tgK l k e).2.2=0
   ·exact hz
   ·exfalso
    exact hz (zi7 n _ _ h)
  obtain⟨h1,h2,h3⟩:=zsl hl hz hk;obtain⟨_,h5,h6⟩:=zma n _ _ h h3;refine⟨h1,⟨hk,?_⟩,h6⟩;rw[List.flatMap_cons,List.append_assoc,h2.2,h5.2]
theorem zrm {k e:Nat} (h:(zjf l k e).2.2=0) (hk:k≤l.length):e=0∧zo0 l k (zl8 (zjf l k e).1++l.drop (zjf l k e).2.1)∧(zjf l k e).2.1≤l.length:=by
 have e1:zjf l k e=zgq l (zbo l k e 16).1 (zbo l k e 16).2.1 (zbo l k e 16).2.2:=rfl;rw[e1] at h ⊢;have hz:=zi7 _ _ _ h;obtain⟨h1,h2,h3⟩:=zh7 hl hz hk;obtain⟨_,h5,h6⟩:=zma hl _ _ _ h h3;refine⟨h1,⟨hk,?_⟩,h6⟩;unfold zl8;rw[zmc,List.append_assoc,h2.2,h5.2]
end
section
variable {l:List Nat}
theorem zhx {α:Type} {enc:α→List Nat} {fk:Nat→Nat→α×Nat×Nat} {gk:Nat→Nat→Nat→List α×Nat×Nat} (g0:∀ k e,gk 0 k e=([],k,e)) (gs:∀ n k e,gk (n+1) k e=((fk k e).1::(gk n (fk k e).2.1 (fk k e).2.2).1,(gk n (fk k e).2.1 (fk k e).2.2).2)) (hk:∀ k e,e≠0→(fk k e).2.2=e)
  (hb:∀ k,(fk k 0).2.2=0→k≤l.length→zo0 l k (enc (fk k 0).1++l.drop (fk k 0).2.1)∧(fk k 0).2.1≤l.length):∀ n k e,(gk n k e).2.2=0→k≤l.length→e=0∧zo0 l k ((gk n k e).1.flatMap enc++l.drop (gk n k e).2.1)∧(gk n k e).2.1≤l.length
 |0,k,e,h,hl=>by
  rw[g0] at h ⊢;exact⟨h,⟨hl,by simp⟩,hl⟩
 |n+1,k,e,h,hl=>by
  have he:e=0:=by
   by_cases he:e=0
   ·exact he
   ·exact absurd ((zc6 g0 gs hk (n+1) k e he).symm.trans h) he
  subst he;rw[gs] at h ⊢;dsimp only at h ⊢;have hz:(fk k 0).2.2=0:=by
   by_cases hz:(fk k 0).2.2=0
   ·exact hz
   ·exact absurd ((zc6 g0 gs hk n _ _ hz).symm.trans h) hz
  obtain⟨h2,h3⟩:=hb k hz hl;obtain⟨_,h5,h6⟩:=zhx g0 gs hk hb n _ _ h h3;refine⟨rfl,⟨hl,?_⟩,h6⟩;rw[List.flatMap_cons,List.append_assoc,h2.2,h5.2]
theorem zpz {α:Type} {x:α×Nat×Nat} {a:α} {k' e e':Nat} (q:x=(a,k',e')) (h0:e'=0) (h:e≠0→x.2.2=e):e=0:=by
 by_cases he:e=0
 ·exact he
 ·have:=h he;rw[q] at this;exact absurd (this.symm.trans h0) he
variable (hl:∀ c∈l,c<256)
include hl
theorem zov {k k2:Nat} {b:List Nat} (q:zbp l k 0=(b,k2,0)) (hk:k≤l.length):l.drop k=txB (zaj b)++l.drop k2∧k2≤l.length:=by
 have:=zi9 hl (k:=k) (e:=0) (by rw[q]) hk;rw[q] at this;exact⟨this.2.1.2,this.2.2⟩
theorem zlo {k k2 n:Nat} (q:zcd l k 0=(n,k2,0)) (hk:k≤l.length):l.drop k=zal n++l.drop k2∧k2≤l.length:=by
 have:=zll hl (k:=k) (e:=0) (by rw[q]) hk;rw[q] at this;exact⟨this.2.1.2,this.2.2.1⟩
theorem zqd {k k2 n m:Nat} (q:zbo l k 0 m=(n,k2,0)) (hk:k≤l.length):l.drop k=zal n++l.drop k2∧k2≤l.length:=by
 have:=zh7 hl (k:=k) (e:=0) (by rw[q]) hk;rw[q] at this;exact⟨this.2.1.2,this.2.2⟩
theorem zuz {k k2:Nat} {ts:List Tg} (q:zjf l k 0=(ts,k2,0)) (hk:k≤l.length):l.drop k=zl8 ts++l.drop k2∧k2≤l.length:=by
 have:=zrm hl (k:=k) (e:=0) (by rw[q]) hk;rw[q] at this;exact⟨this.2.1.2,this.2.2⟩
theorem zq5 (k:Nat) (h:(zg4 l k 0).2.2=0) (hk:k≤l.length):zo0 l k (za7 (zg4 l k 0).1++l.drop (zg4 l k 0).2.1)∧(zg4 l k 0).2.1≤l.length:=by
 obtain⟨a,k2,e2,q1⟩:=zds (zbp l k 0);obtain⟨ts,k3,e3,q2⟩:=zds (zjf l k2 e2);rw[zkj q1 q2] at h ⊢;dsimp only at h ⊢;subst h;obtain rfl:=zpz q2 rfl (zi8 k2 e2);obtain⟨h1,h2⟩:=zov hl q1 hk;obtain⟨h3,h4⟩:=zuz hl q2 h2;refine⟨⟨hk,?_⟩,h4⟩;unfold za7;dsimp only;rw[h1,h3,List.append_assoc]
theorem zre (k:Nat) (h:(zho l k 0).2.2=0) (hk:k≤l.length):zo0 l k (zaw (zho l k 0).1++l.drop (zho l k 0).2.1)∧(zho l k 0).2.1≤l.length:=by
 obtain⟨a,k2,e2,q1⟩:=zds (zbp l k 0);obtain⟨b,k3,e3,q2⟩:=zds (zbp l k2 e2);obtain⟨d,k4,e4,q3⟩:=zds (zbp l k3 e3);have E:zho l k 0=(⟨zaj a,zaj b,zaj d⟩,k4,e4):=by rw[ziz,zau q1,zau q2,zau q3]
 rw[E] at h ⊢;dsimp only at h ⊢;subst h;obtain rfl:=zpz q3 rfl (zb6 k3 e3);obtain rfl:=zpz q2 rfl (zb6 k2 e2);obtain⟨h1,h2⟩:=zov hl q1 hk;obtain⟨h3,h4⟩:=zov hl q2 h2;obtain⟨h5,h6⟩:=zov hl q3 h4;refine⟨⟨hk,?_⟩,h6⟩;unfold zaw;dsimp only;rw[h1,h3,h5,List.append_assoc,List.append_assoc]
theorem zqa (k:Nat) (h:(zhl l k 0).2.2=0) (hk:k≤l.length):zo0 l k (lsB (zhl l k 0).1++l.drop (zhl l k 0).2.1)∧(zhl l k 0).2.1≤l.length:=by
 obtain⟨a,k2,e2,q1⟩:=zds (zcd l k 0);obtain⟨b,k3,e3,q2⟩:=zds (zcd l k2 e2);obtain⟨d,k4,e4,q3⟩:=zds (zcd l k3 e3);obtain⟨f,k5,e5,q4⟩:=zds (zcd l k4 e4);rw[zms q1 q2 q3 q4] at h ⊢;dsimp only at h ⊢;subst h;obtain rfl:=zpz q4 rfl (zdd k4 e4);obtain rfl:=zpz q3 rfl (zdd k3 e3);obtain rfl:=zpz q2 rfl (zdd k2 e2);obtain⟨h1,h2⟩:=zlo hl q1 hk;obtain⟨h3,h4⟩:=zlo hl q2 h2;obtain⟨h5,h6⟩:=zlo hl q3 h4;obtain⟨h7,h8⟩:=zlo hl q4 h6;refine⟨⟨hk,?_⟩,h8⟩;unfold lsB;simp only[Int.toNat_natCast];rw[h1,h3,h5,h7,List.append_assoc,List.append_assoc,List.append_assoc]
theorem zus {k k2:Nat} {ps:List Po} (q:znf l k 0=(ps,k2,0)) (hk:k≤l.length):l.drop k=zal ps.length++(ps.flatMap za7++l.drop k2)∧k2≤l.length:=by
 obtain⟨n,k1,e1,q1⟩:=zds (zbo l k 0 32);have E:=q;rw[ziw,zau q1] at E;have hn:=zkk l n k1 e1;rw[E] at hn;dsimp only at hn;obtain rfl:=zpz E rfl (ziv n k1 e1);obtain⟨h1,h2⟩:=zqd hl q1 hk;have h3:=zhx (enc:=za7) (fk:=zg4 l) (gk:=zje l) (fun _ _=>rfl) (zdg l) zit (zq5 hl) n k1 0 (by rw[E]) h2;rw[E] at h3;rw[h1,h3.2.1.2,hn];exact⟨rfl,h3.2.2⟩
theorem zuv {k k2:Nat} {ps:List Rt} (q:zom l k 0=(ps,k2,0)) (hk:k≤l.length):l.drop k=zal ps.length++(ps.flatMap zaw++l.drop k2)∧k2≤l.length:=by
 obtain⟨n,k1,e1,q1⟩:=zds (zbo l k 0 64);have E:=q;rw[zi2,zau q1] at E;have hn:=zkn l n k1 e1;rw[E] at hn;dsimp only at hn;obtain rfl:=zpz E rfl (zi0 n k1 e1);obtain⟨h1,h2⟩:=zqd hl q1 hk;have h3:=zhx (enc:=zaw) (fk:=zho l) (gk:=zhw l) (fun _ _=>rfl) (zed l) ziy (zre hl) n k1 0 (by rw[E]) h2;rw[E] at h3;rw[h1,h3.2.1.2,hn];exact⟨rfl,h3.2.2⟩
theorem zt8 {k k2:Nat} {ps:List Ls} (q:zn8 l k 0=(ps,k2,0)) (hk:k≤l.length):l.drop k=zal ps.length++(ps.flatMap lsB++l.drop k2)∧k2≤l.length:=by
 obtain⟨n,k1,e1,q1⟩:=zds (zbo l k 0 32);have E:=q;rw[zh5,zau q1] at E;have hn:=zj7 l n k1 e1;rw[E] at hn;dsimp only at hn;obtain rfl:=zpz E rfl (zh4 n k1 e1);obtain⟨h1,h2⟩:=zqd hl q1 hk;have h3:=zhx (enc:=lsB) (fk:=zhl l) (gk:=zjh l) (fun _ _=>rfl) (zd5 l) zh3 (zqa hl) n k1 0 (by rw[E]) h2;rw[E] at h3;rw[h1,h3.2.1.2,hn];exact⟨rfl,h3.2.2⟩
theorem zr5 {n k1 k3 k4:Nat} {lq:List Pq} {rs:List Rt} {cl:List Ls} (h:LdK l n (lq.map Pq.po) rs cl k1 k3 k4 0) (hk:l.length≤k4):zjn ⟨n,lq,rs,cl⟩=l∧(k3:Int) - (k1:Int)=((zav (Sm.cf ⟨n,lq,rs,cl⟩)).length:Int):=by
 obtain⟨e1,k2,e2,e3,q1,q2,q3,q4⟩:=h.eq;obtain rfl:=zpz q4 rfl (zf9 k3 e3);obtain rfl:=zpz q3 rfl (zi1 k2 e2);obtain rfl:=zpz q2 rfl (zlr k1 e1);obtain⟨h1,h2⟩:=zlo hl q1 (Nat.zero_le _);obtain⟨h3,h4⟩:=zus hl q2 h2;obtain⟨h5,h6⟩:=zuv hl q3 h4;obtain⟨h7,h8⟩:=zt8 hl q4 h6;rw[List.drop_zero] at h1;have h9:l.drop k4=[]:=List.drop_eq_nil_of_le hk;rw[h9,List.append_nil] at h7;have hc:l.drop k1=zav (Sm.cf ⟨n,lq,rs,cl⟩)++l.drop k3:=by
  unfold zav Sm.cf;dsimp only;rw[h3,h5];simp only[List.append_assoc]
 refine⟨?_,?_⟩
 ·unfold zjn;dsimp only;rw[Int.toNat_natCast]
  conv=>rhs;rw[h1,hc,h7]
 ·have h10:=congrArg List.length hc;simp only[List.length_append,List.length_drop] at h10;omega
end
end
end Go.Proofs.YtjcjleaicjhpeaaGreatDoor
