/- Conf: names of a command; Check. -/
import Derived.Test.YtjcjleaicjhpeaaGreatDoorB20
import Derived.BigQuiet
import Derived.Test.YtjcjleaicjhpeaaGreatDoorB16
import Derived.Test.YtjcjleaicjhpeaaGreatDoorB17
set_option linter.unusedVariables false
set_option maxRecDepth 20000
set_option maxHeartbeats 16000000
namespace Go.Proofs.YtjcjleaicjhpeaaGreatDoor
section
open Go.ChangeShapes Go.WideShapes Go.ChangeAt Go.RowKit
theorem zhm (c:Cmd) (a:Option Addr) (tc:Nat) (w:World) (h:CmdAt w c a tc) (hm:Mx w):Calls Tryz.prog 38 #[zc4 c a tc] w fun e w'=>e=.returned (.bool (ze4 c))∧Below w.heap.size w w':=by
 have HE:=zaa (show ze4 c=((!zeg c.act||(zbw c.host&&zc5 c.pre))&&(decide (c.act=4)||zdy c.pool)&&c.ts.all (fun t=>zcf t.1)) from rfl);have HT:=zaa h.tgs;have HZ:=zaa h.tz;have z1:=h.th;have z2:=h.tp;have z3:=h.tl;have hn:=h.tn.1;have HM:=zaa hm;unfold zc4;clear h hm;obtain⟨act,cli,seq,exp,host,pre,pool,ts⟩:=c;simp only at *;generalize ze4 ⟨act,cli,seq,exp,host,pre,pool,ts⟩=R at *;have CA:=zaa (fun W (hb:Below w.heap.size w W)=>zc2 ((za HT).later hb) (za HZ) ts.length tc rfl hn);generalize ts.all (fun t=>zcf t.1)=x4 at *;generalize ts.length=tn at *;have X1:=zaa (zad w (.cells #[.int .i64 act,.int .i64 cli,.int .i64 seq,.int .i64 exp,.string host,.string pre,.string pool,.slice a tn tc] 33));have k0:=zae (za X1) 0 _ rfl;have k4:=zae (za X1) 4 _ rfl;have k5:=zae (za X1) 5 _ rfl;have k6:=zae (za X1) 6 _ rfl;have k7:=zae (za X1) 7 _ rfl;have B0:=zaa (show Below w.heap.size w (w.alloc (.cells #[.int .i64 act,.int .i64 cli,.int .i64 seq,.int .i64 exp,.string host,.string pre,.string pool,.slice a tn tc] 33)) from(Below.refl _ _).alloc (Nat.le_refl _) _);have RC:=zaa (zge act);have C1:=zaa (fun W (hb:Below w.heap.size w W)=>zhf host z1 W ((za HM).later hb));have C2:=zaa (zfq pre z2);have C3:=zaa (zdq pool z3);clear X1 HT HZ HM z1 z2 z3;generalize zbw host=x1 at *;generalize zc5 pre=x2 at *;generalize zdy pool=x3 at *;generalize zeg act=x0 at *
 cases x0
 ·skip
  by_cases h4:act=4
  ·subst h4;have HR:R=x4:=by
    rw[za HE]
    all_goals first|rfl|simp
   clear HE;go_enter Tryz.func38,Tryz.ntmps38
   go_wp2_with fail
   refine(za RC _).mono ?_;rintro e V ⟨rfl,rfl⟩
   go_wp2_with fail
   refine(za CA _ (za B0)).mono ?_;rintro e V1 ⟨rfl,hb⟩;replace k0:=cell_later hb k0;replace k4:=cell_later hb k4;replace k5:=cell_later hb k5;replace k6:=cell_later hb k6;replace k7:=cell_later hb k7;have B1:=zaa ((za B0).trans (hb.mono (za B0).size));clear hb
   go_wp2
   go_ret
   exact⟨by rw[HR];rfl,za B1⟩
  ·have i4:(act==4)=false:=by simpa using h4
   have d4:decide (act=4)=false:=decide_eq_false h4;cases x3
   ·skip
    have HR:R=false:=by
     rw[za HE,d4]
     all_goals first|rfl|simp
    clear HE;go_enter Tryz.func38,Tryz.ntmps38
    go_wp2_with fail
    refine(za RC _).mono ?_;rintro e V ⟨rfl,rfl⟩
    go_wp2_with fail
    refine(za C3 _).mono ?_;rintro e V1 ⟨rfl,hb⟩;replace k0:=cell_later hb k0;replace k4:=cell_later hb k4;replace k5:=cell_later hb k5;replace k6:=cell_later hb k6;replace k7:=cell_later hb k7;have B1:=zaa ((za B0).trans (hb.mono (za B0).size));clear hb
    go_wp2
    go_ret
    exact⟨by rw[HR];rfl,za B1⟩
   ·skip
    have HR:R=x4:=by
     rw[za HE,d4]
     all_goals first|rfl|simp
    clear HE;go_enter Tryz.func38,Tryz.ntmps38
    go_wp2_with fail
    refine(za RC _).mono ?_;rintro e V ⟨rfl,rfl⟩
    go_wp2_with fail
    refine(za C3 _).mono ?_;rintro e V1 ⟨rfl,hb⟩;replace k0:=cell_later hb k0;replace k4:=cell_later hb k4;replace k5:=cell_later hb k5;replace k6:=cell_later hb k6;replace k7:=cell_later hb k7;have B1:=zaa ((za B0).trans (hb.mono (za B0).size));clear hb
    go_wp2_with fail
    refine(za CA _ (za B1)).mono ?_;rintro e V2 ⟨rfl,hb⟩;replace k0:=cell_later hb k0;replace k4:=cell_later hb k4;replace k5:=cell_later hb k5;replace k6:=cell_later hb k6;replace k7:=cell_later hb k7;have B2:=zaa ((za B1).trans (hb.mono (za B1).size));clear hb
    go_wp2
    go_ret
    exact⟨by rw[HR];rfl,za B2⟩
 ·cases x1
  ·skip
   have HR:R=false:=by
    rw[za HE]
    all_goals first|rfl|simp
   clear HE;go_enter Tryz.func38,Tryz.ntmps38
   go_wp2_with fail
   refine(za RC _).mono ?_;rintro e V ⟨rfl,rfl⟩
   go_wp2_with fail
   refine(za C1 _ (za B0)).mono ?_;rintro e V1 ⟨rfl,hb⟩;replace k0:=cell_later hb k0;replace k4:=cell_later hb k4;replace k5:=cell_later hb k5;replace k6:=cell_later hb k6;replace k7:=cell_later hb k7;have B1:=zaa ((za B0).trans (hb.mono (za B0).size));clear hb
   go_wp2
   go_ret
   exact⟨by rw[HR];rfl,za B1⟩
  ·cases x2
   ·skip
    have HR:R=false:=by
     rw[za HE]
     all_goals first|rfl|simp
    clear HE;go_enter Tryz.func38,Tryz.ntmps38
    go_wp2_with fail
    refine(za RC _).mono ?_;rintro e V ⟨rfl,rfl⟩
    go_wp2_with fail
    refine(za C1 _ (za B0)).mono ?_;rintro e V1 ⟨rfl,hb⟩;replace k0:=cell_later hb k0;replace k4:=cell_later hb k4;replace k5:=cell_later hb k5;replace k6:=cell_later hb k6;replace k7:=cell_later hb k7;have B1:=zaa ((za B0).trans (hb.mono (za B0).size));clear hb
    go_wp2_with fail
    refine(za C2 _).mono ?_;rintro e V2 ⟨rfl,hb⟩;replace k0:=cell_later hb k0;replace k4:=cell_later hb k4;replace k5:=cell_later hb k5;replace k6:=cell_later hb k6;replace k7:=cell_later hb k7;have B2:=zaa ((za B1).trans (hb.mono (za B1).size));clear hb
    go_wp2
    go_ret
    exact⟨by rw[HR];rfl,za B2⟩
   ·skip
    by_cases h4:act=4
    ·subst h4;have HR:R=x4:=by
      rw[za HE]
      all_goals first|rfl|simp
     clear HE;go_enter Tryz.func38,Tryz.ntmps38
     go_wp2_with fail
     refine(za RC _).mono ?_;rintro e V ⟨rfl,rfl⟩
     go_wp2_with fail
     refine(za C1 _ (za B0)).mono ?_;rintro e V1 ⟨rfl,hb⟩;replace k0:=cell_later hb k0;replace k4:=cell_later hb k4;replace k5:=cell_later hb k5;replace k6:=cell_later hb k6;replace k7:=cell_later hb k7;have B1:=zaa ((za B0).trans (hb.mono (za B0).size));clear hb
     go_wp2_with fail
     refine(za C2 _).mono ?_;rintro e V2 ⟨rfl,hb⟩;replace k0:=cell_later hb k0;replace k4:=cell_later hb k4;replace k5:=cell_later hb k5;replace k6:=cell_later hb k6;replace k7:=cell_later hb k7;have B2:=zaa ((za B1).trans (hb.mono (za B1).size));clear hb
     go_wp2_with fail
     refine(za CA _ (za B2)).mono ?_;rintro e V3 ⟨rfl,hb⟩;replace k0:=cell_later hb k0;replace k4:=cell_later hb k4;replace k5:=cell_later hb k5;replace k6:=cell_later hb k6;replace k7:=cell_later hb k7;have B3:=zaa ((za B2).trans (hb.mono (za B2).size));clear hb
     go_wp2
     go_ret
     exact⟨by rw[HR];rfl,za B3⟩
    ·have i4:(act==4)=false:=by simpa using h4
     have d4:decide (act=4)=false:=decide_eq_false h4;cases x3
     ·skip
      have HR:R=false:=by
       rw[za HE,d4]
       all_goals first|rfl|simp
      clear HE;go_enter Tryz.func38,Tryz.ntmps38
      go_wp2_with fail
      refine(za RC _).mono ?_;rintro e V ⟨rfl,rfl⟩
      go_wp2_with fail
      refine(za C1 _ (za B0)).mono ?_;rintro e V1 ⟨rfl,hb⟩;replace k0:=cell_later hb k0;replace k4:=cell_later hb k4;replace k5:=cell_later hb k5;replace k6:=cell_later hb k6;replace k7:=cell_later hb k7;have B1:=zaa ((za B0).trans (hb.mono (za B0).size));clear hb
      go_wp2_with fail
      refine(za C2 _).mono ?_;rintro e V2 ⟨rfl,hb⟩;replace k0:=cell_later hb k0;replace k4:=cell_later hb k4;replace k5:=cell_later hb k5;replace k6:=cell_later hb k6;replace k7:=cell_later hb k7;have B2:=zaa ((za B1).trans (hb.mono (za B1).size));clear hb
      go_wp2_with fail
      refine(za C3 _).mono ?_;rintro e V3 ⟨rfl,hb⟩;replace k0:=cell_later hb k0;replace k4:=cell_later hb k4;replace k5:=cell_later hb k5;replace k6:=cell_later hb k6;replace k7:=cell_later hb k7;have B3:=zaa ((za B2).trans (hb.mono (za B2).size));clear hb
      go_wp2
      go_ret
      exact⟨by rw[HR];rfl,za B3⟩
     ·skip
      have HR:R=x4:=by
       rw[za HE,d4]
       all_goals first|rfl|simp
      clear HE;go_enter Tryz.func38,Tryz.ntmps38
      go_wp2_with fail
      refine(za RC _).mono ?_;rintro e V ⟨rfl,rfl⟩
      go_wp2_with fail
      refine(za C1 _ (za B0)).mono ?_;rintro e V1 ⟨rfl,hb⟩;replace k0:=cell_later hb k0;replace k4:=cell_later hb k4;replace k5:=cell_later hb k5;replace k6:=cell_later hb k6;replace k7:=cell_later hb k7;have B1:=zaa ((za B0).trans (hb.mono (za B0).size));clear hb
      go_wp2_with fail
      refine(za C2 _).mono ?_;rintro e V2 ⟨rfl,hb⟩;replace k0:=cell_later hb k0;replace k4:=cell_later hb k4;replace k5:=cell_later hb k5;replace k6:=cell_later hb k6;replace k7:=cell_later hb k7;have B2:=zaa ((za B1).trans (hb.mono (za B1).size));clear hb
      go_wp2_with fail
      refine(za C3 _).mono ?_;rintro e V3 ⟨rfl,hb⟩;replace k0:=cell_later hb k0;replace k4:=cell_later hb k4;replace k5:=cell_later hb k5;replace k6:=cell_later hb k6;replace k7:=cell_later hb k7;have B3:=zaa ((za B2).trans (hb.mono (za B2).size));clear hb
      go_wp2_with fail
      refine(za CA _ (za B3)).mono ?_;rintro e V4 ⟨rfl,hb⟩;replace k0:=cell_later hb k0;replace k4:=cell_later hb k4;replace k5:=cell_later hb k5;replace k6:=cell_later hb k6;replace k7:=cell_later hb k7;have B4:=zaa ((za B3).trans (hb.mono (za B3).size));clear hb
      go_wp2
      go_ret
      exact⟨by rw[HR];rfl,za B4⟩
theorem zmq (c:Cmd) (a:Option Addr) (tc:Nat) (w:World) (h:CmdAt w c a tc) (hm:Mx w):Calls Tryz.prog 16 #[zc4 c a tc] w fun e w'=>e=.returned (.int .i64 (zc3 c:Int))∧Below w.heap.size w w':=by
 have HE:=zaa (show zc3 c=(if zhh c&&zdt c then (if ze4 c then (if zdk c.ts then (if 16<c.ts.length then 6 else 0) else 15) else 14) else 2) from rfl);have hn:=h.tn.1;have C1:=zaa (zgd c a tc);have C2:=zaa (fun W=>zf3 c a tc W hn h.th h.tp h.tl);have C3:=zaa (fun W (hb:Below w.heap.size w W)=>zhm c a tc W (h.later hb) (hm.later hb));have C4:=zaa (fun W (hb:Below w.heap.size w W)=>zdu (h.tgs.later hb) c.ts.length tc rfl hn);simp only[maxLen] at hn;unfold zc4 at *;generalize zc3 c=R at *;clear h hm;generalize zhh c=x1 at *;generalize zdt c=x2 at *;generalize ze4 c=x3 at *;generalize zdk c.ts=x4 at *;obtain⟨act,cli,seq,exp,host,pre,pool,ts⟩:=c;simp only at *;generalize ts.length=tn at *;have X1:=zaa (zad w (.cells #[.int .i64 act,.int .i64 cli,.int .i64 seq,.int .i64 exp,.string host,.string pre,.string pool,.slice a tn tc] 33));have k0:=zae (za X1) 0 _ rfl;have k1:=zae (za X1) 1 _ rfl;have k2:=zae (za X1) 2 _ rfl;have k3:=zae (za X1) 3 _ rfl;have k4:=zae (za X1) 4 _ rfl;have k5:=zae (za X1) 5 _ rfl;have k6:=zae (za X1) 6 _ rfl;have k7:=zae (za X1) 7 _ rfl;have B0:=zaa (show Below w.heap.size w (w.alloc (.cells #[.int .i64 act,.int .i64 cli,.int .i64 seq,.int .i64 exp,.string host,.string pre,.string pool,.slice a tn tc] 33)) from(Below.refl _ _).alloc (Nat.le_refl _) _);clear X1;cases x1
 ·skip
  have HR:R=2:=by
   rw[za HE]
   all_goals first|rfl|simp
  clear HE;go_enter Tryz.func16,Tryz.ntmps16
  go_wp2_with fail
  refine(za C1 _).mono ?_;rintro e V1 ⟨rfl,hb⟩;replace k0:=cell_later hb k0;replace k1:=cell_later hb k1;replace k2:=cell_later hb k2;replace k3:=cell_later hb k3;replace k4:=cell_later hb k4;replace k5:=cell_later hb k5;replace k6:=cell_later hb k6;replace k7:=cell_later hb k7;have B1:=zaa ((za B0).trans (hb.mono (za B0).size));clear hb
  go_wp2
  go_ret
  exact⟨by rw[HR];rfl,za B1⟩
 ·cases x2
  ·skip
   have HR:R=2:=by
    rw[za HE]
    all_goals first|rfl|simp
   clear HE;go_enter Tryz.func16,Tryz.ntmps16
   go_wp2_with fail
   refine(za C1 _).mono ?_;rintro e V1 ⟨rfl,hb⟩;replace k0:=cell_later hb k0;replace k1:=cell_later hb k1;replace k2:=cell_later hb k2;replace k3:=cell_later hb k3;replace k4:=cell_later hb k4;replace k5:=cell_later hb k5;replace k6:=cell_later hb k6;replace k7:=cell_later hb k7;have B1:=zaa ((za B0).trans (hb.mono (za B0).size));clear hb
   go_wp2_with fail
   refine(za C2 _).mono ?_;rintro e V2 ⟨rfl,hb⟩;replace k0:=cell_later hb k0;replace k1:=cell_later hb k1;replace k2:=cell_later hb k2;replace k3:=cell_later hb k3;replace k4:=cell_later hb k4;replace k5:=cell_later hb k5;replace k6:=cell_later hb k6;replace k7:=cell_later hb k7;have B2:=zaa ((za B1).trans (hb.mono (za B1).size));clear hb
   go_wp2
   go_ret
   exact⟨by rw[HR];rfl,za B2⟩
  ·cases x3
   ·skip
    have HR:R=14:=by
     rw[za HE]
     all_goals first|rfl|simp
    clear HE;go_enter Tryz.func16,Tryz.ntmps16
    go_wp2_with fail
    refine(za C1 _).mono ?_;rintro e V1 ⟨rfl,hb⟩;replace k0:=cell_later hb k0;replace k1:=cell_later hb k1;replace k2:=cell_later hb k2;replace k3:=cell_later hb k3;replace k4:=cell_later hb k4;replace k5:=cell_later hb k5;replace k6:=cell_later hb k6;replace k7:=cell_later hb k7;have B1:=zaa ((za B0).trans (hb.mono (za B0).size));clear hb
    go_wp2_with fail
    refine(za C2 _).mono ?_;rintro e V2 ⟨rfl,hb⟩;replace k0:=cell_later hb k0;replace k1:=cell_later hb k1;replace k2:=cell_later hb k2;replace k3:=cell_later hb k3;replace k4:=cell_later hb k4;replace k5:=cell_later hb k5;replace k6:=cell_later hb k6;replace k7:=cell_later hb k7;have B2:=zaa ((za B1).trans (hb.mono (za B1).size));clear hb
    go_wp2_with fail
    refine(za C3 _ (za B2)).mono ?_;rintro e V3 ⟨rfl,hb⟩;replace k0:=cell_later hb k0;replace k1:=cell_later hb k1;replace k2:=cell_later hb k2;replace k3:=cell_later hb k3;replace k4:=cell_later hb k4;replace k5:=cell_later hb k5;replace k6:=cell_later hb k6;replace k7:=cell_later hb k7;have B3:=zaa ((za B2).trans (hb.mono (za B2).size));clear hb
    go_wp2
    go_ret
    exact⟨by rw[HR];rfl,za B3⟩
   ·cases x4
    ·skip
     have HR:R=15:=by
      rw[za HE]
      all_goals first|rfl|simp
     clear HE;go_enter Tryz.func16,Tryz.ntmps16
     go_wp2_with fail
     refine(za C1 _).mono ?_;rintro e V1 ⟨rfl,hb⟩;replace k0:=cell_later hb k0;replace k1:=cell_later hb k1;replace k2:=cell_later hb k2;replace k3:=cell_later hb k3;replace k4:=cell_later hb k4;replace k5:=cell_later hb k5;replace k6:=cell_later hb k6;replace k7:=cell_later hb k7;have B1:=zaa ((za B0).trans (hb.mono (za B0).size));clear hb
     go_wp2_with fail
     refine(za C2 _).mono ?_;rintro e V2 ⟨rfl,hb⟩;replace k0:=cell_later hb k0;replace k1:=cell_later hb k1;replace k2:=cell_later hb k2;replace k3:=cell_later hb k3;replace k4:=cell_later hb k4;replace k5:=cell_later hb k5;replace k6:=cell_later hb k6;replace k7:=cell_later hb k7;have B2:=zaa ((za B1).trans (hb.mono (za B1).size));clear hb
     go_wp2_with fail
     refine(za C3 _ (za B2)).mono ?_;rintro e V3 ⟨rfl,hb⟩;replace k0:=cell_later hb k0;replace k1:=cell_later hb k1;replace k2:=cell_later hb k2;replace k3:=cell_later hb k3;replace k4:=cell_later hb k4;replace k5:=cell_later hb k5;replace k6:=cell_later hb k6;replace k7:=cell_later hb k7;have B3:=zaa ((za B2).trans (hb.mono (za B2).size));clear hb
     go_wp2_with fail
     refine(za C4 _ (za B3)).mono ?_;rintro e V4 ⟨rfl,hb⟩;replace k0:=cell_later hb k0;replace k1:=cell_later hb k1;replace k2:=cell_later hb k2;replace k3:=cell_later hb k3;replace k4:=cell_later hb k4;replace k5:=cell_later hb k5;replace k6:=cell_later hb k6;replace k7:=cell_later hb k7;have B4:=zaa ((za B3).trans (hb.mono (za B3).size));clear hb
     go_wp2
     go_ret
     exact⟨by rw[HR];rfl,za B4⟩
    ·by_cases h16:16<tn
     ·have i16:(16:Int)<(tn:Int):=by omega
      have HR:R=6:=by
       rw[za HE,if_pos (by rfl),if_pos (by rfl),if_pos (by rfl),if_pos h16]
       all_goals first|rfl|simp
      clear HE;go_enter Tryz.func16,Tryz.ntmps16
      go_wp2_with fail
      refine(za C1 _).mono ?_;rintro e V1 ⟨rfl,hb⟩;replace k0:=cell_later hb k0;replace k1:=cell_later hb k1;replace k2:=cell_later hb k2;replace k3:=cell_later hb k3;replace k4:=cell_later hb k4;replace k5:=cell_later hb k5;replace k6:=cell_later hb k6;replace k7:=cell_later hb k7;have B1:=zaa ((za B0).trans (hb.mono (za B0).size));clear hb
      go_wp2_with fail
      refine(za C2 _).mono ?_;rintro e V2 ⟨rfl,hb⟩;replace k0:=cell_later hb k0;replace k1:=cell_later hb k1;replace k2:=cell_later hb k2;replace k3:=cell_later hb k3;replace k4:=cell_later hb k4;replace k5:=cell_later hb k5;replace k6:=cell_later hb k6;replace k7:=cell_later hb k7;have B2:=zaa ((za B1).trans (hb.mono (za B1).size));clear hb
      go_wp2_with fail
      refine(za C3 _ (za B2)).mono ?_;rintro e V3 ⟨rfl,hb⟩;replace k0:=cell_later hb k0;replace k1:=cell_later hb k1;replace k2:=cell_later hb k2;replace k3:=cell_later hb k3;replace k4:=cell_later hb k4;replace k5:=cell_later hb k5;replace k6:=cell_later hb k6;replace k7:=cell_later hb k7;have B3:=zaa ((za B2).trans (hb.mono (za B2).size));clear hb
      go_wp2_with fail
      refine(za C4 _ (za B3)).mono ?_;rintro e V4 ⟨rfl,hb⟩;replace k0:=cell_later hb k0;replace k1:=cell_later hb k1;replace k2:=cell_later hb k2;replace k3:=cell_later hb k3;replace k4:=cell_later hb k4;replace k5:=cell_later hb k5;replace k6:=cell_later hb k6;replace k7:=cell_later hb k7;have B4:=zaa ((za B3).trans (hb.mono (za B3).size));clear hb
      go_wp2
      go_ret
      exact⟨by rw[HR];rfl,za B4⟩
     ·have i16:¬ (16:Int)<(tn:Int):=by omega
      have HR:R=0:=by
       rw[za HE,if_pos (by rfl),if_pos (by rfl),if_pos (by rfl),if_neg h16]
       all_goals first|rfl|simp
      clear HE;go_enter Tryz.func16,Tryz.ntmps16
      go_wp2_with fail
      refine(za C1 _).mono ?_;rintro e V1 ⟨rfl,hb⟩;replace k0:=cell_later hb k0;replace k1:=cell_later hb k1;replace k2:=cell_later hb k2;replace k3:=cell_later hb k3;replace k4:=cell_later hb k4;replace k5:=cell_later hb k5;replace k6:=cell_later hb k6;replace k7:=cell_later hb k7;have B1:=zaa ((za B0).trans (hb.mono (za B0).size));clear hb
      go_wp2_with fail
      refine(za C2 _).mono ?_;rintro e V2 ⟨rfl,hb⟩;replace k0:=cell_later hb k0;replace k1:=cell_later hb k1;replace k2:=cell_later hb k2;replace k3:=cell_later hb k3;replace k4:=cell_later hb k4;replace k5:=cell_later hb k5;replace k6:=cell_later hb k6;replace k7:=cell_later hb k7;have B2:=zaa ((za B1).trans (hb.mono (za B1).size));clear hb
      go_wp2_with fail
      refine(za C3 _ (za B2)).mono ?_;rintro e V3 ⟨rfl,hb⟩;replace k0:=cell_later hb k0;replace k1:=cell_later hb k1;replace k2:=cell_later hb k2;replace k3:=cell_later hb k3;replace k4:=cell_later hb k4;replace k5:=cell_later hb k5;replace k6:=cell_later hb k6;replace k7:=cell_later hb k7;have B3:=zaa ((za B2).trans (hb.mono (za B2).size));clear hb
      go_wp2_with fail
      refine(za C4 _ (za B3)).mono ?_;rintro e V4 ⟨rfl,hb⟩;replace k0:=cell_later hb k0;replace k1:=cell_later hb k1;replace k2:=cell_later hb k2;replace k3:=cell_later hb k3;replace k4:=cell_later hb k4;replace k5:=cell_later hb k5;replace k6:=cell_later hb k6;replace k7:=cell_later hb k7;have B4:=zaa ((za B3).trans (hb.mono (za B3).size));clear hb
      go_wp2
      go_ret
      exact⟨by rw[HR];rfl,za B4⟩
structure SmallCmd (c:Cmd):Prop where
 h:c.host.size≤1000000
 p:c.pre.size≤1000000
 l:c.pool.size≤1000000
 n:c.ts.length≤100
 t:∀ t∈c.ts,t.1.size≤1000000
def zf5 (c:Cmd) (a':Option Addr) (tc':Nat) (x:Sm):Int×Sm :=
 if 0≤c.exp∧c.exp≠x.ver then (12,x)
 else if c.act=1 then zfz ⟨⟨c.pool,c.ts⟩,a',tc'⟩ x
 else if c.act=2 then zd8 c.pool x
 else if c.act=3 then zdz ⟨c.host,c.pre,c.pool⟩ x
 else zeo (c.host,c.pre) x
theorem zp5 {w:World} {h:StH} {x:Sm} (s:StAt w h x) (hx:SmOk x) (c:Cmd) (a:Option Addr) (tc:Nat) (hc:CmdAt w c a tc) (hs:SmallCmd c) :
  Calls Tryz.prog 81 #[.pointer (some ⟨h.S,0,none⟩),zc4 c a tc] w fun e w'=>∃ a' tc',e=.returned (.int .i64 (zf5 c a' tc' x).1)∧StAt w' h (zf5 c a' tc' x).2∧Chg h w w':=by
 have AS:=zaa (show ∀ a' tc',zf5 c a' tc' x=(if 0≤c.exp∧c.exp≠x.ver then (12,x)
  else if c.act=1 then zfz ⟨⟨c.pool,c.ts⟩,a',tc'⟩ x
  else if c.act=2 then zd8 c.pool x
  else if c.act=3 then zdz ⟨c.host,c.pre,c.pool⟩ x
  else zeo (c.host,c.pre) x) from fun _ _=>rfl)
 obtain⟨v1,v2⟩:=hx.ver;obtain⟨e1,e2⟩:=hc.ie;obtain⟨i1,i2⟩:=hc.ia;have HT:=zaa hc.tgs;obtain⟨z1,z2,z3,z4,z5⟩:=hs;unfold zc4;generalize hact:zf5 c=AA at *;obtain⟨act,cli,seq,exp,host,pre,pool,ts⟩:=c;simp only at *;clear hc;have b1:=zaa (show Below w.heap.size w (w.alloc (.cells #[.int .i64 act,.int .i64 cli,.int .i64 seq,.int .i64 exp,.string host,.string pre,.string pool,.slice a ts.length tc] 33)) from(Below.refl _ _).alloc (Nat.le_refl _) _);have X1:=zaa (zad w (.cells #[.int .i64 act,.int .i64 cli,.int .i64 seq,.int .i64 exp,.string host,.string pre,.string pool,.slice a ts.length tc] 33));have k0:=zab (za X1) 0 _ rfl;have k3:=zab (za X1) 3 _ rfl;have k4:=zab (za X1) 4 _ rfl;have k5:=zab (za X1) 5 _ rfl;have k6:=zab (za X1) 6 _ rfl;have k7:=zab (za X1) 7 _ rfl;have st:=s.later (za b1);have s0:=st.cell.1;have ST:=zaa st;clear st;go_enter Tryz.func81,Tryz.ntmps81
 go_wp2_with fail
 generalize hB:w.heap.size=B at *;generalize w.alloc (.cells #[.int .i64 act,.int .i64 cli,.int .i64 seq,.int .i64 exp,.string host,.string pre,.string pool,.slice a ts.length tc] 33)=V at *;have BV:=zaa (show B<V.heap.size from(Array.getElem?_eq_some_iff.1 (za X1)).1);have HK:=zaa (show ∀ W:World,Below V.heap.size V W→W.cell? ⟨B,0,none⟩=some (.int .i64 act)∧W.cell? ⟨B,4,none⟩=some (.string host)∧W.cell? ⟨B,5,none⟩=some (.string pre)∧W.cell? ⟨B,6,none⟩=some (.string pool)∧W.cell? ⟨B,7,none⟩=some (.slice a ts.length tc) from fun W hb=>⟨cell_later hb k0,cell_later hb k4,cell_later hb k5,cell_later hb k6,cell_later hb k7⟩);clear k0 k4 k5 k6 k7;generalize hv:x.ver=ver at *;have HV:=zaa hv;clear hv;by_cases hge:0≤exp
 ·have q1:decide (0≤exp)=true:=decide_eq_true hge;by_cases hne:exp=ver
  ·as_aux_lemma =>
   subst hne;have NG:=zaa (show ¬ (0≤exp∧exp≠exp) from fun e=>e.2 rfl)
   go_quiet (fail)
   have BN:∀ k,Below V.heap.size V (V.drewN k):=fun k=>⟨(Below.refl V.heap.size V).os,(Below.refl V.heap.size V).tape,(Below.refl V.heap.size V).output,(Below.refl V.heap.size V).size,(Below.refl V.heap.size V).block⟩
   generalize hVN:V.drewN _=W1;have F:=zaa (show Below V.heap.size V W1 from hVN ▸ BN _);clear BN hVN;have b2:=zaa (show Below w.heap.size w W1 by rw[hB];exact(za b1).trans ((za F).mono (by have:=(za b1).size;omega)));obtain⟨k0,k4,k5,k6,k7⟩:=za HK _ (za F);by_cases h1:act=1
   ·as_aux_lemma =>
    subst h1;have hd:∀ a' c',AA a' c' x=zfz ⟨⟨pool,ts⟩,a',c'⟩ x:=fun a' c'=>by rw[za AS,if_neg (za NG),if_pos rfl]
    have HD:=zaa hd;clear hd AS
    go_wp2_with fail
    have G:=zaa (show Below W1.heap.size W1 W1.drew from(Below.refl _ _).drew);have F:=zaa ((za F).trans ((za G).mono (za F).size));refine wp_region_held_drew (S:=fun w'=>w'.cell? ⟨B,6,none⟩=some (.string pool)∧w'.cell? ⟨B,7,none⟩=some (.slice a ts.length tc)) (by kernel_rfl) ?_ (fun hHeld=>?_)
    ·try dsimp only
     first|exact za KC|exact⟨(za HK _ (za F)).2.2.2.1,(za HK _ (za F)).2.2.2.2⟩
    refine hT 0 ?_;refine hT 1 ?_;refine hT 2 ?_;refine hT 3 ?_;refine hT 4 ?_;refine wpAnyH_ready (rs:=[5]) (by kernel_rfl) (by simp) ?_;refine AllReadyH.cons rfl (fun K hK=>?_) ?_
    ·go_simp
     go_at_call 85
     refine(zey _ a tc ts ((za HT).later ((za b2).trans ((za G).mono (za b2).size))) (by omega)).mono ?_;rintro e U ⟨a',c',rfl,ho,hb⟩;have F:=zaa ((za F).trans (hb.mono (za F).size));have G:=zaa ((za G).trans (hb.mono (za G).size));have TA:=zaa (ho.at_ (za HT).lt);clear ho hb
     go_wp2_with fail
     refine hK.out _ _ ?_ (fun hHeld=>?_)
     ·try dsimp only
      first|exact za KC|exact⟨(za HK _ (za F)).2.2.2.1,(za HK _ (za F)).2.2.2.2⟩
     clear hK K;refine hP ?_;refine hT 6 ?_;refine wpAnyH_ready (rs:=[7]) (by kernel_rfl) (by simp) ?_;refine AllReadyH.cons rfl (fun K hK=>?_) ?_
     ·go_simp
      go_at_call 138
      refine(zgh (s.later ((za b2).trans ((za G).mono (za b2).size))) hx pool ts a' c' (za TA) z3 ⟨z4,z5⟩).mono ?_;rintro e U2 ⟨rfl,sd,cd⟩
      have KC:=zaa (show U2.cell? ⟨B,6,none⟩=some (.string pool)∧U2.cell? ⟨B,7,none⟩=some (.slice a ts.length tc) by
       obtain⟨t1,t2,t3,t4⟩:=s.lts;obtain⟨_,_,_,q6,q7⟩:=za HK _ (za F);have hk:U2.heap[B]? = U.heap[B]?:=cd.block B (by have:=(za F).size;have:=za BV;omega) (by omega) (by omega) (by omega) (by omega)
       exact⟨(World.cell?_of_block hk).trans q6,(World.cell?_of_block hk).trans q7⟩)
      have SD:=zaa sd;have CD:=zaa ((Chg.below (h:=h) ((za b2).trans ((za G).mono (za b2).size))).trans cd);clear sd cd
      go_wp2_with fail
      refine hK.out _ _ ?_ (fun hHeld=>?_)
      ·try dsimp only
       first|exact za KC|exact⟨(za HK _ (za F)).2.2.2.1,(za HK _ (za F)).2.2.2.2⟩
      clear hK K;refine hP ?_;refine hT 8 ?_;refine wpAnyH_done (by kernel_rfl) ?_ _
      go_wp2
      go_ret
      exact⟨a',c',by rw[za HD];rfl,by rw[za HD];exact za SD,za CD⟩
     exact AllReadyH.nil
    exact AllReadyH.nil
   ·by_cases h2:act=2
    ·as_aux_lemma =>
     subst h2;have hd:AA none 0 x=zd8 pool x:=by rw[za AS,if_neg (za NG),if_neg h1,if_pos rfl]
     have DP:=zaa (zfp (s.later (za b2)) pool (by simp only[maxLen];omega));have HD:=zaa hd;clear hd AS h1
     go_wp2_with fail
     refine(za DP).mono ?_;rintro e U2 ⟨rfl,sd,cd⟩;have SD:=zaa sd;have CD:=zaa ((Chg.below (h:=h) (za b2)).trans cd);clear sd cd DP
     go_wp2
     go_ret
     exact⟨none,0,by rw[za HD];rfl,by rw[za HD];exact za SD,za CD⟩
    ·by_cases h3:act=3
     ·as_aux_lemma =>
      subst h3;have hd:AA none 0 x=zdz ⟨host,pre,pool⟩ x:=by rw[za AS,if_neg (za NG),if_neg h1,if_neg h2,if_pos rfl]
      have DP:=zaa (zfs (s.later (za b2)) hx host pre pool ⟨z1,z2,z3⟩);have HD:=zaa hd;clear hd AS h1 h2
      go_wp2_with fail
      refine(za DP).mono ?_;rintro e U2 ⟨rfl,sd,cd⟩;have SD:=zaa sd;have CD:=zaa ((Chg.below (h:=h) (za b2)).trans cd);clear sd cd DP
      go_wp2
      go_ret
      exact⟨none,0,by rw[za HD];rfl,by rw[za HD];exact za SD,za CD⟩
     ·as_aux_lemma =>
      have hd:AA none 0 x=zeo (host,pre) x:=by rw[za AS,if_neg (za NG),if_neg h1,if_neg h2,if_neg h3]
      have DP:=zaa (ze0 (s.later (za b2)) (host,pre) (by simp only[maxLen];omega));have HD:=zaa hd;clear hd AS
      go_wp2_with fail
      refine(za DP).mono ?_;rintro e U2 ⟨rfl,sd,cd⟩;have SD:=zaa sd;have CD:=zaa ((Chg.below (h:=h) (za b2)).trans cd);clear sd cd DP
      go_wp2
      go_ret
      exact⟨none,0,by rw[za HD];rfl,by rw[za HD];exact za SD,za CD⟩
  ·as_aux_lemma =>
   have q2:decide (exp=ver)=false:=decide_eq_false hne;have hd:∀ a' c',AA a' c' x=(12,x):=fun a' c'=>by rw[za AS,if_pos ⟨hge,hne⟩]
   have HD:=zaa hd;clear hd
   go_quiet (fail)
   have BN:∀ k,Below V.heap.size V (V.drewN k):=fun k=>⟨(Below.refl V.heap.size V).os,(Below.refl V.heap.size V).tape,(Below.refl V.heap.size V).output,(Below.refl V.heap.size V).size,(Below.refl V.heap.size V).block⟩
   generalize hVN:V.drewN _=W1;have F:=zaa (show Below V.heap.size V W1 from hVN ▸ BN _);clear BN hVN;have b2:=zaa (show Below w.heap.size w W1 by rw[hB];exact(za b1).trans ((za F).mono (by have:=(za b1).size;omega)));have SD:=zaa (s.later (za b2));have CD:=zaa (Chg.below (h:=h) (za b2));clear AS
   go_wp2
   go_ret
   exact⟨none,0,by rw[za HD];rfl,by rw[za HD];exact za SD,za CD⟩
 ·as_aux_lemma =>
  have q1:decide (0≤exp)=false:=decide_eq_false hge;have NG:=zaa (show ¬ (0≤exp∧exp≠ver) from fun e=>hge e.1)
  go_quiet (fail)
  have BN:∀ k,Below V.heap.size V (V.drewN k):=fun k=>⟨(Below.refl V.heap.size V).os,(Below.refl V.heap.size V).tape,(Below.refl V.heap.size V).output,(Below.refl V.heap.size V).size,(Below.refl V.heap.size V).block⟩
  generalize hVN:V.drewN _=W1;have F:=zaa (show Below V.heap.size V W1 from hVN ▸ BN _);clear BN hVN;have b2:=zaa (show Below w.heap.size w W1 by rw[hB];exact(za b1).trans ((za F).mono (by have:=(za b1).size;omega)));obtain⟨k0,k4,k5,k6,k7⟩:=za HK _ (za F);by_cases h1:act=1
  ·as_aux_lemma =>
   subst h1;have hd:∀ a' c',AA a' c' x=zfz ⟨⟨pool,ts⟩,a',c'⟩ x:=fun a' c'=>by rw[za AS,if_neg (za NG),if_pos rfl]
   have HD:=zaa hd;clear hd AS
   go_wp2_with fail
   have G:=zaa (show Below W1.heap.size W1 W1.drew from(Below.refl _ _).drew);have F:=zaa ((za F).trans ((za G).mono (za F).size));refine wp_region_held_drew (S:=fun w'=>w'.cell? ⟨B,6,none⟩=some (.string pool)∧w'.cell? ⟨B,7,none⟩=some (.slice a ts.length tc)) (by kernel_rfl) ?_ (fun hHeld=>?_)
   ·try dsimp only
    first|exact za KC|exact⟨(za HK _ (za F)).2.2.2.1,(za HK _ (za F)).2.2.2.2⟩
   refine hT 0 ?_;refine hT 1 ?_;refine hT 2 ?_;refine hT 3 ?_;refine hT 4 ?_;refine wpAnyH_ready (rs:=[5]) (by kernel_rfl) (by simp) ?_;refine AllReadyH.cons rfl (fun K hK=>?_) ?_
   ·go_simp
    go_at_call 85
    refine(zey _ a tc ts ((za HT).later ((za b2).trans ((za G).mono (za b2).size))) (by omega)).mono ?_;rintro e U ⟨a',c',rfl,ho,hb⟩;have F:=zaa ((za F).trans (hb.mono (za F).size));have G:=zaa ((za G).trans (hb.mono (za G).size));have TA:=zaa (ho.at_ (za HT).lt);clear ho hb
    go_wp2_with fail
    refine hK.out _ _ ?_ (fun hHeld=>?_)
    ·try dsimp only
     first|exact za KC|exact⟨(za HK _ (za F)).2.2.2.1,(za HK _ (za F)).2.2.2.2⟩
    clear hK K;refine hP ?_;refine hT 6 ?_;refine wpAnyH_ready (rs:=[7]) (by kernel_rfl) (by simp) ?_;refine AllReadyH.cons rfl (fun K hK=>?_) ?_
    ·go_simp
     go_at_call 138
     refine(zgh (s.later ((za b2).trans ((za G).mono (za b2).size))) hx pool ts a' c' (za TA) z3 ⟨z4,z5⟩).mono ?_;rintro e U2 ⟨rfl,sd,cd⟩
     have KC:=zaa (show U2.cell? ⟨B,6,none⟩=some (.string pool)∧U2.cell? ⟨B,7,none⟩=some (.slice a ts.length tc) by
      obtain⟨t1,t2,t3,t4⟩:=s.lts;obtain⟨_,_,_,q6,q7⟩:=za HK _ (za F);have hk:U2.heap[B]? = U.heap[B]?:=cd.block B (by have:=(za F).size;have:=za BV;omega) (by omega) (by omega) (by omega) (by omega)
      exact⟨(World.cell?_of_block hk).trans q6,(World.cell?_of_block hk).trans q7⟩)
     have SD:=zaa sd;have CD:=zaa ((Chg.below (h:=h) ((za b2).trans ((za G).mono (za b2).size))).trans cd);clear sd cd
     go_wp2_with fail
     refine hK.out _ _ ?_ (fun hHeld=>?_)
     ·try dsimp only
      first|exact za KC|exact⟨(za HK _ (za F)).2.2.2.1,(za HK _ (za F)).2.2.2.2⟩
     clear hK K;refine hP ?_;refine hT 8 ?_;refine wpAnyH_done (by kernel_rfl) ?_ _
     go_wp2
     go_ret
     exact⟨a',c',by rw[za HD];rfl,by rw[za HD];exact za SD,za CD⟩
    exact AllReadyH.nil
   exact AllReadyH.nil
  ·by_cases h2:act=2
   ·as_aux_lemma =>
    subst h2;have hd:AA none 0 x=zd8 pool x:=by rw[za AS,if_neg (za NG),if_neg h1,if_pos rfl]
    have DP:=zaa (zfp (s.later (za b2)) pool (by simp only[maxLen];omega));have HD:=zaa hd;clear hd AS h1
    go_wp2_with fail
    refine(za DP).mono ?_;rintro e U2 ⟨rfl,sd,cd⟩;have SD:=zaa sd;have CD:=zaa ((Chg.below (h:=h) (za b2)).trans cd);clear sd cd DP
    go_wp2
    go_ret
    exact⟨none,0,by rw[za HD];rfl,by rw[za HD];exact za SD,za CD⟩
   ·by_cases h3:act=3
    ·as_aux_lemma =>
     subst h3;have hd:AA none 0 x=zdz ⟨host,pre,pool⟩ x:=by rw[za AS,if_neg (za NG),if_neg h1,if_neg h2,if_pos rfl]
     have DP:=zaa (zfs (s.later (za b2)) hx host pre pool ⟨z1,z2,z3⟩);have HD:=zaa hd;clear hd AS h1 h2
     go_wp2_with fail
     refine(za DP).mono ?_;rintro e U2 ⟨rfl,sd,cd⟩;have SD:=zaa sd;have CD:=zaa ((Chg.below (h:=h) (za b2)).trans cd);clear sd cd DP
     go_wp2
     go_ret
     exact⟨none,0,by rw[za HD];rfl,by rw[za HD];exact za SD,za CD⟩
    ·as_aux_lemma =>
     have hd:AA none 0 x=zeo (host,pre) x:=by rw[za AS,if_neg (za NG),if_neg h1,if_neg h2,if_neg h3]
     have DP:=zaa (ze0 (s.later (za b2)) (host,pre) (by simp only[maxLen];omega));have HD:=zaa hd;clear hd AS
     go_wp2_with fail
     refine(za DP).mono ?_;rintro e U2 ⟨rfl,sd,cd⟩;have SD:=zaa sd;have CD:=zaa ((Chg.below (h:=h) (za b2)).trans cd);clear sd cd DP
     go_wp2
     go_ret
     exact⟨none,0,by rw[za HD];rfl,by rw[za HD];exact za SD,za CD⟩
def TgD (w:World) (p:Pq):Prop:=TgsAt w p.ta p.po.ts∧p.po.ts.length≤p.tc∧(p.ta=none→p.tc=0)
theorem TgD.later {w w':World} {p:Pq} (h:TgD w p) (hb:Below w.heap.size w w'):TgD w' p:=⟨h.1.later hb,h.2⟩
theorem zrz (v:Int) (a b:Option Addr) (n c m d:Nat):∀ (k:Nat) (t:ByteArray),(#[Value.int .i64 v,Value.slice a n c,Value.slice b m d]:Array Value)[k]?≠some (.string t):=by
 intro k t e
 match k with
 |0=>simp at e
 |1=>simp at e
 |2=>simp at e
 |_+3=>simp at e
theorem zo2 {W:World} {ra pa:Option Addr} {rc pc:Nat} {rs:List Rt} {l:List Pq} {ver:Int} (hR:zku 0 W ra rc rs) (hP:zeq 0 W pa pc (l.map Pq.pr)) (hD:∀ p∈l,TgD W p) (hv:-9223372036854775808≤ver∧ver≤9223372036854775807) (hs:SmallT ⟨ver,rs,l.map Pq.po⟩):CfAt W ⟨ver,rs,l.map Pq.po⟩ ⟨ra,rc,pa,pc⟩:=by
 have hr:=(show zer 0 W ra rc rs from hR).at_ (fun r hr=>by have:=hs.rs r hr;simp only[maxLen];omega);have hrn:=hs.rn;have hpn:=hs.pn;simp only at hrn hpn;refine⟨hv,hr.1,⟨fun i hi=>?_⟩,⟨by simp only[maxLen];omega,hr.2.1⟩,⟨by simp only[maxLen];omega,?_⟩,hr.2.2⟩
 ·have hi':i<l.length:=by simpa using hi
  obtain⟨g,rfl,_,q0,q1⟩:=hP.cell i (by simpa using hi');have hd:=hD _ (List.getElem_mem hi');have hz:=hs.ps _ (List.mem_map_of_mem (List.getElem_mem hi'));refine⟨g,0,l[i].ta,l[i].tc,rfl,?_,?_,?_,?_,?_⟩
  ·simpa [Pq.pr] using q0
  ·simpa [Pq.pr] using q1
  ·simpa using hd.1
  ·have:=hz.2.1;simp only[List.getElem_map,maxLen];exact⟨by omega,hd.2.1⟩
  ·exact hd.2.2
 ·show(List.map Pq.po l).length≤pc
  rw[List.length_map];rcases Nat.eq_zero_or_pos l.length with h0|h0
  ·omega
  ·obtain⟨g,_,_,_,hle,_⟩:=ze6 hP (by simpa using h0)
   simpa using hle
theorem zpr {W:World} {ra pa:Option Addr} {rc pc:Nat} {rs:List Rt} {l:List Pq} {ver:Int} (hR:zku 0 W ra rc rs) (hP:zeq 0 W pa pc (l.map Pq.pr)) (hD:∀ p∈l,TgD W p) (hv:-9223372036854775808≤ver∧ver≤9223372036854775807) (hs:SmallT ⟨ver,rs,l.map Pq.po⟩) (n m:Nat) (hn:rs.length=n) (hm:l.length=m) :
  Calls Tryz.prog 73 #[.slice none 0 0,.agg #[.int .i64 ver,.slice ra n rc,.slice pa m pc]] W fun e w'=>∃ sp' n' c',e=.returned (.slice sp' n' c')∧(zav ⟨ver,rs,l.map Pq.po⟩).length=n'∧Below W.heap.size W w':=by
 subst hn;subst hm;have h:=zcu W.heap.size (zo2 hR hP hD hv hs) hs (Below.refl _ _) (Nat.le_refl _) (sp:=none) (n0:=0) (c:=0) (l:=[]) rfl (OwnB.ofNil _ _) (by simp) (Nat.le_refl _);unfold zcw at h;simp only[List.length_map] at h;refine h.mono ?_;rintro e w' ⟨sp',n',c',rfl,h1,h2,h3⟩;have h4:=za h1;rw[List.nil_append] at h4;exact⟨sp',n',c',rfl,h4,h3.below (OwnB.ofNil _ _) (Nat.le_refl _)⟩
end
end Go.Proofs.YtjcjleaicjhpeaaGreatDoor
