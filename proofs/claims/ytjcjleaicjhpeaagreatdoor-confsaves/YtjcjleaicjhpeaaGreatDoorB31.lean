/- Conf: the document's Check. -/
import Derived.Test.YtjcjleaicjhpeaaGreatDoorB30
import Derived.Test.YtjcjleaicjhpeaaGreatDoorB25
set_option linter.unusedVariables false
set_option maxRecDepth 20000
set_option maxHeartbeats 16000000
namespace Go.Proofs.YtjcjleaicjhpeaaGreatDoor
section
open Go.ChangeShapes Go.WideShapes Go.ChangeAt Go.RowKit
theorem zjq (c:Cmd) (a:Option Addr) (tc:Nat) (w:World) (h:CmdAt w c a tc) (hB:zbk c=false):Calls Tryz.prog 69 #[zar c a tc] w fun e w'=>e=.returned (.int .i64 (zam c:Int))∧Below w.heap.size w w':=by
 have bX:=zaa (show Below w.heap.size w (w.alloc (.cells (zal c a tc) 33)) from(Below.refl _ _).alloc (Nat.le_refl _) _);have X1:=zaa (zac w (.cells (zal c a tc) 33));have RT:=zaa (zcr (h.tgs.later (za bX)) c.ts.length tc rfl h.tn.1 h.tz);have h47:(140737488355328:Nat)≤maxLen:=by simp[maxLen]
 have NP:=zaa (fun W=>zbs c.pool (Nat.le_trans h.tl h47) W);have HP:=zaa (fun W=>zco c.host (Nat.le_trans h.th h47) W);have PP:=zaa (fun W=>zcd c.pre (Nat.le_trans h.tp h47) W);have HR:zam c=2:=zs9 hB;have hn:=h.tn.1;have z1:=h.th;have z2:=h.tp;have z3:=h.tl;have e4:=zci c.host;have e5:=zci c.pre;have e6:=zci c.pool;have nl:=zc1;simp only[maxLen] at hn;have NE:zbk c=(decide (1≤c.act∧c.act≤4)&&decide (0≤c.cli∧c.cli≤32)&&(if c.cli=0 then decide (c.seq=0) else decide (1≤c.seq∧c.seq≤1099511627776))&&decide (-1≤c.exp∧c.exp≤1099511627775)):=rfl;rw[hB] at NE;replace NE:=zaa NE;clear hB RT NP HP PP;clear h h47;unfold zar zal at *;generalize zam c=R at *;generalize rtN c.ts=rn at *;generalize emp c.host=x4 at *;generalize emp c.pre=x5 at *;generalize emp c.pool=x6 at *;generalize zcg c.pool=y1 at *;generalize zbe c.host=y2 at *;generalize zch c.pre=y3 at *;obtain⟨act,cli,seq,exp,host,pre,pool,ts⟩:=c;dsimp only at *;generalize ts.length=tn at *;have k0:=zab (za X1) 0 (.int .i64 act) rfl;have k1:=zab (za X1) 1 (.int .i64 cli) rfl;have k2:=zab (za X1) 2 (.int .i64 seq) rfl;have k3:=zab (za X1) 3 (.int .i64 exp) rfl;have k4:=zab (za X1) 4 (.string host) rfl;have k5:=zab (za X1) 5 (.string pre) rfl;have k6:=zab (za X1) 6 (.string pool) rfl;have k7:=zab (za X1) 7 (.slice a tn tc) rfl;by_cases g1:act<1
 ·clear NE
  as_aux_lemma =>
  subst HR;clear X1;go_enter Tryz.func69,Tryz.ntmps69
  go_wp2
  go_ret
  exact⟨rfl,za bX⟩
 skip
 by_cases g2:4<act
 ·clear NE
  as_aux_lemma =>
  subst HR;clear X1;go_enter Tryz.func69,Tryz.ntmps69
  go_wp2
  go_ret
  exact⟨rfl,za bX⟩
 skip
 by_cases g3:cli<0
 ·clear NE
  as_aux_lemma =>
  subst HR;clear X1;go_enter Tryz.func69,Tryz.ntmps69
  go_wp2
  go_ret
  exact⟨rfl,za bX⟩
 skip
 by_cases g4:32<cli
 ·clear NE
  as_aux_lemma =>
  subst HR;clear X1;go_enter Tryz.func69,Tryz.ntmps69
  go_wp2
  go_ret
  exact⟨rfl,za bX⟩
 skip
 by_cases g5:exp < -1
 ·clear NE
  as_aux_lemma =>
  subst HR;clear X1;go_enter Tryz.func69,Tryz.ntmps69
  go_wp2
  go_ret
  exact⟨rfl,za bX⟩
 skip
 by_cases g6:1099511627775<exp
 ·clear NE
  as_aux_lemma =>
  subst HR;clear X1;go_enter Tryz.func69,Tryz.ntmps69
  go_wp2
  go_ret
  exact⟨rfl,za bX⟩
 skip
 by_cases g7:cli=0
 ·subst g7;by_cases g8:seq=0
  ·exfalso
   have hb:=za NE;rw[decide_eq_true (show 1≤act∧act≤4 by omega),decide_eq_true (show(0:Int)≤0∧(0:Int)≤32 by omega),if_pos rfl,decide_eq_true (show seq=0 from g8),decide_eq_true (show -1≤exp∧exp≤1099511627775 by omega)] at hb;cases hb
  ·have j8:(seq==0)=false:=by simp[g8]
   have j8':(seq != 0)=true:=by simp[g8]
   clear NE
   as_aux_lemma =>
   subst HR;clear X1;go_enter Tryz.func69,Tryz.ntmps69
   go_wp2
   go_ret
   exact⟨rfl,za bX⟩
 ·have j7:(cli==0)=false:=by simp[g7]
  have g9:0<cli:=by omega
  by_cases g10:seq<1
  ·clear NE
   as_aux_lemma =>
   subst HR;clear X1;go_enter Tryz.func69,Tryz.ntmps69
   go_wp2
   go_ret
   exact⟨rfl,za bX⟩
  by_cases g11:1099511627776<seq
  ·clear NE
   as_aux_lemma =>
   subst HR;clear X1;go_enter Tryz.func69,Tryz.ntmps69
   go_wp2
   go_ret
   exact⟨rfl,za bX⟩
  exfalso
  have hb:=za NE;rw[decide_eq_true (show 1≤act∧act≤4 by omega),decide_eq_true (show 0≤cli∧cli≤32 by omega),if_neg g7,decide_eq_true (show 1≤seq∧seq≤1099511627776 by omega),decide_eq_true (show -1≤exp∧exp≤1099511627775 by omega)] at hb;cases hb
theorem zeu (c:Cmd) (a:Option Addr) (tc:Nat) (w:World) (h:CmdAt w c a tc):Calls Tryz.prog 69 #[zar c a tc] w fun e w'=>e=.returned (.int .i64 (zam c:Int))∧Below w.heap.size w w':=by
 cases hB:zbk c with
 |false=>exact zjq c a tc w h hB
 |true =>
  have hp:=(zd1 hB).1;have ha:c.act=1∨c.act=2∨c.act=3∨c.act=4:=by omega
  rcases ha with ha|ha|ha|ha
  ·exact zjr c a tc w h hB ha
  ·exact zjs c a tc w h hB ha
  ·exact zjt c a tc w h hB ha
  ·exact zju c a tc w h hB ha
def zf6 (w:World) (r:Nat) (c:Cmd) (y:Sm) (e:Ending) (w':World):Prop:=∃ a' tc' k',e=.returned (.agg #[.int .i64 (doS c a' tc' y).1.1,.int .i64 (doS c a' tc' y).1.2])∧RtAt w' r k' (doS c a' tc' y).2∧w.grownBy w' (some r)
theorem zpo {w w':World} {r:Nat} {c:Cmd} {y y':Sm} {a':Option Addr} {tc':Nat} {k':RfH} {er v:Int} (hv:doS c a' tc' y=((er,v),y')) (s:RtAt w' r k' y') (g:w.grownBy w' (some r)):zf6 w r c y (.returned (.agg #[.int .i64 er,.int .i64 v])) w' :=
 ⟨a',tc',k',by rw[hv],by rw[hv];exact s,g⟩
theorem ztf {c:Cmd} {y:Sm} (h:zam c≠0):doS c none 0 y=((((zam c:Nat):Int),y.ver),y):=by
 unfold doS;rw[if_pos h]
theorem zso {c:Cmd} {y:Sm} (h:zam c=0) (hc:c.cli=0) (a':Option Addr) (tc':Nat):doS c a' tc' y=za4 (zbp c a' tc' y):=by
 unfold doS;rw[if_neg (by simp[h]),if_pos hc]
theorem zsn {c:Cmd} {y:Sm} (h:zam c=0) (hc:c.cli≠0) (hs:c.seq=(zck c y).seq):doS c none 0 y=(((zck c y).e,(zck c y).ver),y):=by
 unfold doS;rw[if_neg (by simp[h]),if_neg hc,if_pos hs]
theorem zth {c:Cmd} {y:Sm} (h:zam c=0) (hc:c.cli≠0) (hs:c.seq≠(zck c y).seq) (hl:c.seq<(zck c y).seq):doS c none 0 y=((12,y.ver),y):=by
 unfold doS;rw[if_neg (by simp[h]),if_neg hc,if_neg hs,if_pos hl]
theorem ztg {c:Cmd} {y:Sm} (h:zam c=0) (hc:c.cli≠0) (hs:c.seq≠(zck c y).seq) (hl:¬ c.seq<(zck c y).seq) (a':Option Addr) (tc':Nat) {er v:Int} {z:Sm} (hd:za4 (zbp c a' tc' y)=((er,v),z)):doS c a' tc' y=((er,v),{ z with cl:=zbn lid ⟨c.cli,c.seq,er,v⟩ z.cl }):=by
 unfold doS;rw[if_neg (by simp[h]),if_neg hc,if_neg hs,if_neg hl,hd]
theorem zng {c:Cmd} {y:Sm} (h:0≤c.exp∧c.exp≠y.ver) (a':Option Addr) (tc':Nat):za4 (zbp c a' tc' y)=((12,y.ver),y):=by
 rw[zm9 h];rfl
theorem znf {c:Cmd} {y z:Sm} (h:¬ (0≤c.exp∧c.exp≠y.ver)) {a':Option Addr} {tc':Nat} {er:Int} (ha:actN c a' tc' y=(er,z)) (he:er≠0):za4 (zbp c a' tc' y)=((er,z.ver),z):=by
 rw[zl0 h,ha];unfold za4;rw[if_neg he]
theorem zq4 {c:Cmd} {y z:Sm} (h:¬ (0≤c.exp∧c.exp≠y.ver)) {a':Option Addr} {tc':Nat} (ha:actN c a' tc' y=(0,z)):za4 (zbp c a' tc' y)=((0,z.ver+1),{ z with ver:=z.ver+1 }):=by
 rw[zl0 h,ha];unfold za4;rw[if_pos rfl]
theorem RtAt.noted {w w':World} {r:Nat} {k:RfH} {y:Sm} {z:Ls} {la:Option Addr} {lc:Nat} (s:RtAt w r k y) (hk:Kl lid y.cl) {b:Nat} (hl:zjm b w' la lc (wL z y.cl)) (hh:w'.heap[r]? = some (.cells #[.int .i64 y.ver,.slice k.ra y.rs.length k.rc,.slice k.pa y.ps.length k.pc,.slice la (wL z y.cl).length lc] 119 (0,0))) (hg:w.grownBy w' (some r)):RtAt w' r ⟨k.ra,k.rc,k.pa,k.pc,la,lc⟩ { y with cl:=zbn lid z y.cl }:=by
 rw[← wL_is z y.cl hk];exact⟨hh,zak s.rw_ hg s.hd (by decide),zak s.pw hg s.hd (by decide),zb4 hl (Nat.zero_le _),fun p hp=>zb1 (s.dt p hp) hg s.hd (zj9 _ _)⟩
end
end Go.Proofs.YtjcjleaicjhpeaaGreatDoor
