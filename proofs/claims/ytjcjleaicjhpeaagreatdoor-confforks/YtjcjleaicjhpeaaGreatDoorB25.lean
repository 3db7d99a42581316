/- Conf: the document's Check: act 3. -/
import Derived.Test.YtjcjleaicjhpeaaGreatDoorB24
import Derived.Test.YtjcjleaicjhpeaaGreatDoorB23
set_option linter.unusedVariables false
set_option maxRecDepth 20000
set_option maxHeartbeats 16000000
namespace Go.Proofs.YtjcjleaicjhpeaaGreatDoor
section
open Go.ChangeShapes Go.WideShapes Go.ChangeAt Go.RowKit
theorem zhz (c:Cmd) (a:Option Addr) (tc:Nat) (w:World) (h:CmdAt w c a tc) (hB:zbe c=true) (ha:c.act=3):Calls Tryz.prog 69 #[zas c a tc] w fun e w'=>e=.returned (.int .i64 (zam c:Int))∧Below w.heap.size w w':=by
 have bX:=zaa (show Below w.heap.size w (w.alloc (.cells (zal c a tc) 33)) from(Below.refl _ _).alloc (Nat.le_refl _) _);have X1:=zaa (zad w (.cells (zal c a tc) 33));have RT:=zaa (zck (h.tgs.later (za bX)) c.ts.length tc rfl h.tn.1 h.tz);have h47:(140737488355328:Nat)≤maxLen:=by simp[maxLen]
 have NP:=zaa (fun W=>zbl c.pool (Nat.le_trans h.tl h47) W);have HP:=zaa (fun W=>zci c.host (Nat.le_trans h.th h47) W);have PP:=zaa (fun W=>zb9 c.pre (Nat.le_trans h.tp h47) W);have KK:=zaa (chk3 hB ha);have hn:=h.tn.1;have z1:=h.th;have z2:=h.tp;have z3:=h.tl;have e4:=zcb c.host;have e5:=zcb c.pre;have e6:=zcb c.pool;have nl:=zcs;simp only[maxLen] at hn;obtain⟨_,⟨b1,b2⟩,hcs,⟨b3,b4⟩⟩:=zdj hB;clear hB;clear h h47;unfold zas zal at *;generalize zam c=R at *;generalize rtN c.ts=rn at *;generalize emp c.host=x4 at *;generalize emp c.pre=x5 at *;generalize emp c.pool=x6 at *;generalize zcq c.pool=y1 at *;generalize zbs c.host=y2 at *;generalize zc7 c.pre=y3 at *;obtain⟨act,cli,seq,exp,host,pre,pool,ts⟩:=c;dsimp only at *;subst ha;generalize ts.length=tn at *;have k0:=zab (za X1) 0 (.int .i64 3) rfl;have k1:=zab (za X1) 1 (.int .i64 cli) rfl;have k2:=zab (za X1) 2 (.int .i64 seq) rfl;have k3:=zab (za X1) 3 (.int .i64 exp) rfl;have k4:=zab (za X1) 4 (.string host) rfl;have k5:=zab (za X1) 5 (.string pre) rfl;have k6:=zab (za X1) 6 (.string pool) rfl;have k7:=zab (za X1) 7 (.slice a tn tc) rfl;have n3:¬ cli<0:=by omega
 have n4:¬ 32<cli:=by omega
 have n5:¬ exp < -1:=by omega
 have n6:¬ 1099511627775<exp:=by omega
 rcases hcs with⟨rfl,rfl⟩|⟨c1,c2,c3⟩
 ·skip
  by_cases hn0:tn=0
  ·subst hn0;cases y1 with
   |false =>
    as_aux_lemma =>
    have HR:R=14:=(za KK)
    subst HR;clear KK X1;go_enter Tryz.func69,Tryz.ntmps69
    go_wp2_with fail
    refine(za NP _).mono ?_;rintro e w' ⟨rfl,rfl⟩
    go_wp2
    go_ret
    exact⟨by first|rfl|(simp;done),za bX⟩
   |true =>
    cases y2 with
    |false =>
     as_aux_lemma =>
     have HR:R=14:=(za KK)
     subst HR;clear KK X1;go_enter Tryz.func69,Tryz.ntmps69
     go_wp2_with fail
     refine(za NP _).mono ?_;rintro e w' ⟨rfl,rfl⟩
     go_wp2_with fail
     refine(za HP _).mono ?_;rintro e w' ⟨rfl,rfl⟩
     go_wp2
     go_ret
     exact⟨by first|rfl|(simp;done),za bX⟩
    |true =>
     cases y3 with
     |false =>
      as_aux_lemma =>
      have HR:R=14:=(za KK)
      subst HR;clear KK X1;go_enter Tryz.func69,Tryz.ntmps69
      go_wp2_with fail
      refine(za NP _).mono ?_;rintro e w' ⟨rfl,rfl⟩
      go_wp2_with fail
      refine(za HP _).mono ?_;rintro e w' ⟨rfl,rfl⟩
      go_wp2_with fail
      refine(za PP _).mono ?_;rintro e w' ⟨rfl,rfl⟩
      go_wp2
      go_ret
      exact⟨by first|rfl|(simp;done),za bX⟩
     |true =>
      as_aux_lemma =>
      have HR:R=rn:=(za KK)
      subst HR;clear KK X1;go_enter Tryz.func69,Tryz.ntmps69
      go_wp2_with fail
      refine(za NP _).mono ?_;rintro e w' ⟨rfl,rfl⟩
      go_wp2_with fail
      refine(za HP _).mono ?_;rintro e w' ⟨rfl,rfl⟩
      go_wp2_with fail
      refine(za PP _).mono ?_;rintro e w' ⟨rfl,rfl⟩
      go_wp2_with fail
      refine(za RT).mono ?_;rintro e w' ⟨rfl,rfl⟩
      go_wp2
      go_ret
      exact⟨by first|rfl|(simp;done),za bX⟩
  ·have hp:(0:Int)<(tn:Int):=by omega
   rw[show decide (tn=0)=false from decide_eq_false hn0] at KK
   as_aux_lemma =>
   have HR:R=2:=(za KK)
   subst HR;clear KK X1;go_enter Tryz.func69,Tryz.ntmps69
   go_wp2
   go_ret
   exact⟨by first|rfl|(simp;done),za bX⟩
 ·have j7:(cli==0)=false:=by simp;omega
  have j7':¬ cli=0:=by omega
  have j8:¬ seq<1:=by omega
  have j9:¬ 1099511627776<seq:=by omega
  clear b1 b2 b3 b4 c2 c3;by_cases hn0:tn=0
  ·subst hn0;cases y1 with
   |false =>
    as_aux_lemma =>
    have HR:R=14:=(za KK)
    subst HR;clear KK X1;go_enter Tryz.func69,Tryz.ntmps69
    go_wp2_with fail
    refine(za NP _).mono ?_;rintro e w' ⟨rfl,rfl⟩
    go_wp2
    go_ret
    exact⟨by first|rfl|(simp;done),za bX⟩
   |true =>
    cases y2 with
    |false =>
     as_aux_lemma =>
     have HR:R=14:=(za KK)
     subst HR;clear KK X1;go_enter Tryz.func69,Tryz.ntmps69
     go_wp2_with fail
     refine(za NP _).mono ?_;rintro e w' ⟨rfl,rfl⟩
     go_wp2_with fail
     refine(za HP _).mono ?_;rintro e w' ⟨rfl,rfl⟩
     go_wp2
     go_ret
     exact⟨by first|rfl|(simp;done),za bX⟩
    |true =>
     cases y3 with
     |false =>
      as_aux_lemma =>
      have HR:R=14:=(za KK)
      subst HR;clear KK X1;go_enter Tryz.func69,Tryz.ntmps69
      go_wp2_with fail
      refine(za NP _).mono ?_;rintro e w' ⟨rfl,rfl⟩
      go_wp2_with fail
      refine(za HP _).mono ?_;rintro e w' ⟨rfl,rfl⟩
      go_wp2_with fail
      refine(za PP _).mono ?_;rintro e w' ⟨rfl,rfl⟩
      go_wp2
      go_ret
      exact⟨by first|rfl|(simp;done),za bX⟩
     |true =>
      as_aux_lemma =>
      have HR:R=rn:=(za KK)
      subst HR;clear KK X1;go_enter Tryz.func69,Tryz.ntmps69
      go_wp2_with fail
      refine(za NP _).mono ?_;rintro e w' ⟨rfl,rfl⟩
      go_wp2_with fail
      refine(za HP _).mono ?_;rintro e w' ⟨rfl,rfl⟩
      go_wp2_with fail
      refine(za PP _).mono ?_;rintro e w' ⟨rfl,rfl⟩
      go_wp2_with fail
      refine(za RT).mono ?_;rintro e w' ⟨rfl,rfl⟩
      go_wp2
      go_ret
      exact⟨by first|rfl|(simp;done),za bX⟩
  ·have hp:(0:Int)<(tn:Int):=by omega
   rw[show decide (tn=0)=false from decide_eq_false hn0] at KK
   as_aux_lemma =>
   have HR:R=2:=(za KK)
   subst HR;clear KK X1;go_enter Tryz.func69,Tryz.ntmps69
   go_wp2
   go_ret
   exact⟨by first|rfl|(simp;done),za bX⟩
theorem zh0 (c:Cmd) (a:Option Addr) (tc:Nat) (w:World) (h:CmdAt w c a tc) (hB:zbe c=true) (ha:c.act=4):Calls Tryz.prog 69 #[zas c a tc] w fun e w'=>e=.returned (.int .i64 (zam c:Int))∧Below w.heap.size w w':=by
 have bX:=zaa (show Below w.heap.size w (w.alloc (.cells (zal c a tc) 33)) from(Below.refl _ _).alloc (Nat.le_refl _) _);have X1:=zaa (zad w (.cells (zal c a tc) 33));have RT:=zaa (zck (h.tgs.later (za bX)) c.ts.length tc rfl h.tn.1 h.tz);have h47:(140737488355328:Nat)≤maxLen:=by simp[maxLen]
 have NP:=zaa (fun W=>zbl c.pool (Nat.le_trans h.tl h47) W);have HP:=zaa (fun W=>zci c.host (Nat.le_trans h.th h47) W);have PP:=zaa (fun W=>zb9 c.pre (Nat.le_trans h.tp h47) W);have KK:=zaa (chk4 hB ha);have hn:=h.tn.1;have z1:=h.th;have z2:=h.tp;have z3:=h.tl;have e4:=zcb c.host;have e5:=zcb c.pre;have e6:=zcb c.pool;have nl:=zcs;simp only[maxLen] at hn;obtain⟨_,⟨b1,b2⟩,hcs,⟨b3,b4⟩⟩:=zdj hB;clear hB;clear h h47;unfold zas zal at *;generalize zam c=R at *;generalize rtN c.ts=rn at *;generalize emp c.host=x4 at *;generalize emp c.pre=x5 at *;generalize emp c.pool=x6 at *;generalize zcq c.pool=y1 at *;generalize zbs c.host=y2 at *;generalize zc7 c.pre=y3 at *;obtain⟨act,cli,seq,exp,host,pre,pool,ts⟩:=c;dsimp only at *;subst ha;generalize ts.length=tn at *;have k0:=zab (za X1) 0 (.int .i64 4) rfl;have k1:=zab (za X1) 1 (.int .i64 cli) rfl;have k2:=zab (za X1) 2 (.int .i64 seq) rfl;have k3:=zab (za X1) 3 (.int .i64 exp) rfl;have k4:=zab (za X1) 4 (.string host) rfl;have k5:=zab (za X1) 5 (.string pre) rfl;have k6:=zab (za X1) 6 (.string pool) rfl;have k7:=zab (za X1) 7 (.slice a tn tc) rfl;have n3:¬ cli<0:=by omega
 have n4:¬ 32<cli:=by omega
 have n5:¬ exp < -1:=by omega
 have n6:¬ 1099511627775<exp:=by omega
 rcases hcs with⟨rfl,rfl⟩|⟨c1,c2,c3⟩
 ·skip
  by_cases hn0:tn=0
  ·subst hn0;cases x6 with
   |false =>
    as_aux_lemma =>
    have HR:R=2:=(za KK)
    subst HR;clear KK X1;go_enter Tryz.func69,Tryz.ntmps69
    go_wp2
    go_ret
    exact⟨by first|rfl|(simp;done),za bX⟩
   |true =>
    cases y2 with
    |false =>
     as_aux_lemma =>
     have HR:R=14:=(za KK)
     subst HR;clear KK X1;go_enter Tryz.func69,Tryz.ntmps69
     go_wp2_with fail
     refine(za HP _).mono ?_;rintro e w' ⟨rfl,rfl⟩
     go_wp2
     go_ret
     exact⟨by first|rfl|(simp;done),za bX⟩
    |true =>
     cases y3 with
     |false =>
      as_aux_lemma =>
      have HR:R=14:=(za KK)
      subst HR;clear KK X1;go_enter Tryz.func69,Tryz.ntmps69
      go_wp2_with fail
      refine(za HP _).mono ?_;rintro e w' ⟨rfl,rfl⟩
      go_wp2_with fail
      refine(za PP _).mono ?_;rintro e w' ⟨rfl,rfl⟩
      go_wp2
      go_ret
      exact⟨by first|rfl|(simp;done),za bX⟩
     |true =>
      as_aux_lemma =>
      have HR:R=rn:=(za KK)
      subst HR;clear KK X1;go_enter Tryz.func69,Tryz.ntmps69
      go_wp2_with fail
      refine(za HP _).mono ?_;rintro e w' ⟨rfl,rfl⟩
      go_wp2_with fail
      refine(za PP _).mono ?_;rintro e w' ⟨rfl,rfl⟩
      go_wp2_with fail
      refine(za RT).mono ?_;rintro e w' ⟨rfl,rfl⟩
      go_wp2
      go_ret
      exact⟨by first|rfl|(simp;done),za bX⟩
  ·have hp:(0:Int)<(tn:Int):=by omega
   rw[show decide (tn=0)=false from decide_eq_false hn0,Bool.and_false] at KK
   as_aux_lemma =>
   have HR:R=2:=(za KK)
   subst HR;clear KK X1;go_enter Tryz.func69,Tryz.ntmps69
   go_wp2
   go_ret
   exact⟨by first|rfl|(simp;done),za bX⟩
 ·have j7:(cli==0)=false:=by simp;omega
  have j7':¬ cli=0:=by omega
  have j8:¬ seq<1:=by omega
  have j9:¬ 1099511627776<seq:=by omega
  clear b1 b2 b3 b4 c2 c3;by_cases hn0:tn=0
  ·subst hn0;cases x6 with
   |false =>
    as_aux_lemma =>
    have HR:R=2:=(za KK)
    subst HR;clear KK X1;go_enter Tryz.func69,Tryz.ntmps69
    go_wp2
    go_ret
    exact⟨by first|rfl|(simp;done),za bX⟩
   |true =>
    cases y2 with
    |false =>
     as_aux_lemma =>
     have HR:R=14:=(za KK)
     subst HR;clear KK X1;go_enter Tryz.func69,Tryz.ntmps69
     go_wp2_with fail
     refine(za HP _).mono ?_;rintro e w' ⟨rfl,rfl⟩
     go_wp2
     go_ret
     exact⟨by first|rfl|(simp;done),za bX⟩
    |true =>
     cases y3 with
     |false =>
      as_aux_lemma =>
      have HR:R=14:=(za KK)
      subst HR;clear KK X1;go_enter Tryz.func69,Tryz.ntmps69
      go_wp2_with fail
      refine(za HP _).mono ?_;rintro e w' ⟨rfl,rfl⟩
      go_wp2_with fail
      refine(za PP _).mono ?_;rintro e w' ⟨rfl,rfl⟩
      go_wp2
      go_ret
      exact⟨by first|rfl|(simp;done),za bX⟩
     |true =>
      as_aux_lemma =>
      have HR:R=rn:=(za KK)
      subst HR;clear KK X1;go_enter Tryz.func69,Tryz.ntmps69
      go_wp2_with fail
      refine(za HP _).mono ?_;rintro e w' ⟨rfl,rfl⟩
      go_wp2_with fail
      refine(za PP _).mono ?_;rintro e w' ⟨rfl,rfl⟩
      go_wp2_with fail
      refine(za RT).mono ?_;rintro e w' ⟨rfl,rfl⟩
      go_wp2
      go_ret
      exact⟨by first|rfl|(simp;done),za bX⟩
  ·have hp:(0:Int)<(tn:Int):=by omega
   rw[show decide (tn=0)=false from decide_eq_false hn0,Bool.and_false] at KK
   as_aux_lemma =>
   have HR:R=2:=(za KK)
   subst HR;clear KK X1;go_enter Tryz.func69,Tryz.ntmps69
   go_wp2
   go_ret
   exact⟨by first|rfl|(simp;done),za bX⟩
theorem zhw (c:Cmd) (a:Option Addr) (tc:Nat) (w:World) (h:CmdAt w c a tc) (hB:zbe c=false):Calls Tryz.prog 69 #[zas c a tc] w fun e w'=>e=.returned (.int .i64 (zam c:Int))∧Below w.heap.size w w':=by
 have bX:=zaa (show Below w.heap.size w (w.alloc (.cells (zal c a tc) 33)) from(Below.refl _ _).alloc (Nat.le_refl _) _);have X1:=zaa (zad w (.cells (zal c a tc) 33));have RT:=zaa (zck (h.tgs.later (za bX)) c.ts.length tc rfl h.tn.1 h.tz);have h47:(140737488355328:Nat)≤maxLen:=by simp[maxLen]
 have NP:=zaa (fun W=>zbl c.pool (Nat.le_trans h.tl h47) W);have HP:=zaa (fun W=>zci c.host (Nat.le_trans h.th h47) W);have PP:=zaa (fun W=>zb9 c.pre (Nat.le_trans h.tp h47) W);have HR:zam c=2:=zn7 hB;have hn:=h.tn.1;have z1:=h.th;have z2:=h.tp;have z3:=h.tl;have e4:=zcb c.host;have e5:=zcb c.pre;have e6:=zcb c.pool;have nl:=zcs;simp only[maxLen] at hn;have NE:zbe c=(decide (1≤c.act∧c.act≤4)&&decide (0≤c.cli∧c.cli≤32)&&(if c.cli=0 then decide (c.seq=0) else decide (1≤c.seq∧c.seq≤1099511627776))&&decide (-1≤c.exp∧c.exp≤1099511627775)):=rfl;rw[hB] at NE;replace NE:=zaa NE;clear hB RT NP HP PP;clear h h47;unfold zas zal at *;generalize zam c=R at *;generalize rtN c.ts=rn at *;generalize emp c.host=x4 at *;generalize emp c.pre=x5 at *;generalize emp c.pool=x6 at *;generalize zcq c.pool=y1 at *;generalize zbs c.host=y2 at *;generalize zc7 c.pre=y3 at *;obtain⟨act,cli,seq,exp,host,pre,pool,ts⟩:=c;dsimp only at *;generalize ts.length=tn at *;have k0:=zab (za X1) 0 (.int .i64 act) rfl;have k1:=zab (za X1) 1 (.int .i64 cli) rfl;have k2:=zab (za X1) 2 (.int .i64 seq) rfl;have k3:=zab (za X1) 3 (.int .i64 exp) rfl;have k4:=zab (za X1) 4 (.string host) rfl;have k5:=zab (za X1) 5 (.string pre) rfl;have k6:=zab (za X1) 6 (.string pool) rfl;have k7:=zab (za X1) 7 (.slice a tn tc) rfl;by_cases g1:act<1
 ·clear NE
  as_aux_lemma =>
  subst HR;clear X1;go_enter Tryz.func69,Tryz.ntmps69
  go_wp2
  go_ret
  exact⟨rfl,za bX⟩
 skip
 by_cases g2:4<act
 ·clear NE
  as_aux_lemma =>
  subst HR;clear X1;go_enter Tryz.func69,Tryz.ntmps69
  go_wp2
  go_ret
  exact⟨rfl,za bX⟩
 skip
 by_cases g3:cli<0
 ·clear NE
  as_aux_lemma =>
  subst HR;clear X1;go_enter Tryz.func69,Tryz.ntmps69
  go_wp2
  go_ret
  exact⟨rfl,za bX⟩
 skip
 by_cases g4:32<cli
 ·clear NE
  as_aux_lemma =>
  subst HR;clear X1;go_enter Tryz.func69,Tryz.ntmps69
  go_wp2
  go_ret
  exact⟨rfl,za bX⟩
 skip
 by_cases g5:exp < -1
 ·clear NE
  as_aux_lemma =>
  subst HR;clear X1;go_enter Tryz.func69,Tryz.ntmps69
  go_wp2
  go_ret
  exact⟨rfl,za bX⟩
 skip
 by_cases g6:1099511627775<exp
 ·clear NE
  as_aux_lemma =>
  subst HR;clear X1;go_enter Tryz.func69,Tryz.ntmps69
  go_wp2
  go_ret
  exact⟨rfl,za bX⟩
 skip
 by_cases g7:cli=0
 ·subst g7;by_cases g8:seq=0
  ·exfalso
   have hb:=za NE;rw[decide_eq_true (show 1≤act∧act≤4 by omega),decide_eq_true (show(0:Int)≤0∧(0:Int)≤32 by omega),if_pos rfl,decide_eq_true (show seq=0 from g8),decide_eq_true (show -1≤exp∧exp≤1099511627775 by omega)] at hb;cases hb
  ·have j8:(seq==0)=false:=by simp[g8]
   have j8':(seq != 0)=true:=by simp[g8]
   clear NE
   as_aux_lemma =>
   subst HR;clear X1;go_enter Tryz.func69,Tryz.ntmps69
   go_wp2
   go_ret
   exact⟨rfl,za bX⟩
 ·have j7:(cli==0)=false:=by simp[g7]
  have g9:0<cli:=by omega
  by_cases g10:seq<1
  ·clear NE
   as_aux_lemma =>
   subst HR;clear X1;go_enter Tryz.func69,Tryz.ntmps69
   go_wp2
   go_ret
   exact⟨rfl,za bX⟩
  by_cases g11:1099511627776<seq
  ·clear NE
   as_aux_lemma =>
   subst HR;clear X1;go_enter Tryz.func69,Tryz.ntmps69
   go_wp2
   go_ret
   exact⟨rfl,za bX⟩
  exfalso
  have hb:=za NE;rw[decide_eq_true (show 1≤act∧act≤4 by omega),decide_eq_true (show 0≤cli∧cli≤32 by omega),if_neg g7,decide_eq_true (show 1≤seq∧seq≤1099511627776 by omega),decide_eq_true (show -1≤exp∧exp≤1099511627775 by omega)] at hb;cases hb
theorem zd1 (c:Cmd) (a:Option Addr) (tc:Nat) (w:World) (h:CmdAt w c a tc):Calls Tryz.prog 69 #[zas c a tc] w fun e w'=>e=.returned (.int .i64 (zam c:Int))∧Below w.heap.size w w':=by
 cases hB:zbe c with
 |false=>exact zhw c a tc w h hB
 |true =>
  have hp:=(zdj hB).1;have ha:c.act=1∨c.act=2∨c.act=3∨c.act=4:=by omega
  rcases ha with ha|ha|ha|ha
  ·exact zhx c a tc w h hB ha
  ·exact zhy c a tc w h hB ha
  ·exact zhz c a tc w h hB ha
  ·exact zh0 c a tc w h hB ha
def zfb (w:World) (r:Nat) (c:Cmd) (y:Sm) (e:Ending) (w':World):Prop:=∃ a' tc' k',e=.returned (.agg #[.int .i64 (doS c a' tc' y).1.1,.int .i64 (doS c a' tc' y).1.2])∧RtAt w' r k' (doS c a' tc' y).2∧w.grownBy w' (some r)
theorem zlu {w w':World} {r:Nat} {c:Cmd} {y y':Sm} {a':Option Addr} {tc':Nat} {k':RfH} {er v:Int} (hv:doS c a' tc' y=((er,v),y')) (s:RtAt w' r k' y') (g:w.grownBy w' (some r)):zfb w r c y (.returned (.agg #[.int .i64 er,.int .i64 v])) w' :=
 ⟨a',tc',k',by rw[hv],by rw[hv];exact s,g⟩
theorem zob {c:Cmd} {y:Sm} (h:zam c≠0):doS c none 0 y=((((zam c:Nat):Int),y.ver),y):=by
 unfold doS;rw[if_pos h]
theorem znp {c:Cmd} {y:Sm} (h:zam c=0) (hc:c.cli=0) (a':Option Addr) (tc':Nat):doS c a' tc' y=za5 (zbp c a' tc' y):=by
 unfold doS;rw[if_neg (by simp[h]),if_pos hc]
theorem zno {c:Cmd} {y:Sm} (h:zam c=0) (hc:c.cli≠0) (hs:c.seq=(zce c y).seq):doS c none 0 y=(((zce c y).e,(zce c y).ver),y):=by
 unfold doS;rw[if_neg (by simp[h]),if_neg hc,if_pos hs]
theorem zod {c:Cmd} {y:Sm} (h:zam c=0) (hc:c.cli≠0) (hs:c.seq≠(zce c y).seq) (hl:c.seq<(zce c y).seq):doS c none 0 y=((12,y.ver),y):=by
 unfold doS;rw[if_neg (by simp[h]),if_neg hc,if_neg hs,if_pos hl]
theorem zoc {c:Cmd} {y:Sm} (h:zam c=0) (hc:c.cli≠0) (hs:c.seq≠(zce c y).seq) (hl:¬ c.seq<(zce c y).seq) (a':Option Addr) (tc':Nat) {er v:Int} {z:Sm} (hd:za5 (zbp c a' tc' y)=((er,v),z)):doS c a' tc' y=((er,v),{ z with cl:=zbq lid ⟨c.cli,c.seq,er,v⟩ z.cl }):=by
 unfold doS;rw[if_neg (by simp[h]),if_neg hc,if_neg hs,if_neg hl,hd]
theorem zkl {c:Cmd} {y:Sm} (h:0≤c.exp∧c.exp≠y.ver) (a':Option Addr) (tc':Nat):za5 (zbp c a' tc' y)=((12,y.ver),y):=by
 rw[zkf h];rfl
theorem zkk {c:Cmd} {y z:Sm} (h:¬ (0≤c.exp∧c.exp≠y.ver)) {a':Option Addr} {tc':Nat} {er:Int} (ha:actN c a' tc' y=(er,z)) (he:er≠0):za5 (zbp c a' tc' y)=((er,z.ver),z):=by
 rw[zjf h,ha];unfold za5;rw[if_neg he]
theorem zmp {c:Cmd} {y z:Sm} (h:¬ (0≤c.exp∧c.exp≠y.ver)) {a':Option Addr} {tc':Nat} (ha:actN c a' tc' y=(0,z)):za5 (zbp c a' tc' y)=((0,z.ver+1),{ z with ver:=z.ver+1 }):=by
 rw[zjf h,ha];unfold za5;rw[if_pos rfl]
theorem RtAt.noted {w w':World} {r:Nat} {k:RfH} {y:Sm} {z:Ls} {la:Option Addr} {lc:Nat} (s:RtAt w r k y) (hk:Kl lid y.cl) {b:Nat} (hl:zf b w' la lc (wL z y.cl)) (hh:w'.heap[r]? = some (.cells #[.int .i64 y.ver,.slice k.ra y.rs.length k.rc,.slice k.pa y.ps.length k.pc,.slice la (wL z y.cl).length lc] 119 (0,0))) (hg:w.grownBy w' (some r)):RtAt w' r ⟨k.ra,k.rc,k.pa,k.pc,la,lc⟩ { y with cl:=zbq lid z y.cl }:=by
 rw[← wL_is z y.cl hk];exact⟨hh,zak s.rw_ hg s.hd (by decide),zak s.pw hg s.hd (by decide),zbv hl (Nat.zero_le _),fun p hp=>zbo (s.dt p hp) hg s.hd (zic _ _)⟩
end
end Go.Proofs.YtjcjleaicjhpeaaGreatDoor
