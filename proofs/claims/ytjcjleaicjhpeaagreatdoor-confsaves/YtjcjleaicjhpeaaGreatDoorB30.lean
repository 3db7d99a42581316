/- Conf: the document's rightTargets. -/
import Derived.Test.YtjcjleaicjhpeaaGreatDoorB29
import Derived.Test.YtjcjleaicjhpeaaGreatDoorB05
import Derived.Test.YtjcjleaicjhpeaaGreatDoorB18
import Derived.Test.YtjcjleaicjhpeaaGreatDoorB22
set_option linter.unusedVariables false
set_option maxRecDepth 20000
set_option maxHeartbeats 16000000
namespace Go.Proofs.YtjcjleaicjhpeaaGreatDoor
section
open Go.ChangeShapes Go.WideShapes Go.ChangeAt Go.RowKit
def zpg (l:List Tgt):Bool:=l.all (fun t=>zcy t.1)
def rtN (ts:List Tgt):Nat:=if zpg ts then (if zd8 ts then (if 16<ts.length then 6 else 0) else 15) else 14
def r1N (e0:Nat) (ts:List Tgt):Nat:=if zd8 ts then e0 else 15
def r2N (e1:Nat) (ts:List Tgt):Nat:=if zpg ts then e1 else 14
theorem zn1 {α:Type} (f:α→Bool) (l:List α) (j:Nat) (h:j<l.length):(l.take (j+1)).all f=((l.take j).all f&&f l[j]):=by
 rw[List.take_succ_eq_append_getElem h,List.all_append,List.all_cons,List.all_nil,Bool.and_true]
theorem znt (e0:Nat) (ts:List Tgt) (j:Nat) (h:j<ts.length):r1N e0 (ts.take (j+1))=if wtB ts[j].2 then r1N e0 (ts.take j) else 15:=by
 unfold r1N zd8;rw[zn1 _ ts j h];generalize wtB ts[j].2=b;cases b
 ·rw[Bool.and_false];rfl
 ·rw[Bool.and_true];rfl
theorem znu (e1:Nat) (ts:List Tgt) (j:Nat) (h:j<ts.length):r2N e1 (ts.take (j+1))=if zcy ts[j].1 then r2N e1 (ts.take j) else 14:=by
 unfold r2N zpg;rw[zn1 _ ts j h];generalize zcy ts[j].1=b;cases b
 ·rw[Bool.and_false];rfl
 ·rw[Bool.and_true];rfl
theorem zcr {w:World} {a:Option Addr} {ts:List Tgt} (hT:TgsAt w a ts) (n c:Nat) (hn:ts.length=n) (hx:n≤maxLen) (hz:∀ t∈ts,t.1.size≤140737488355328) :
  Calls Tryz.prog 124 #[.slice a n c] w fun e w'=>e=.returned (.int .i64 (rtN ts:Int))∧w'=w:=by
 have HT:=zaa hT;have HZ:=zaa hz;have hsF:=zc5 .plain;simp only[maxLen] at hx;have HR:=zaa (show rtN ts=r2N (r1N (if 16<n then 6 else 0) ts) ts by rw[← hn];rfl);have HN:=zaa hn;clear hT hn hz;by_cases h16:16<n
 ·have i16:(16:Int)<(n:Int):=by omega
  rw[if_pos h16] at HR;go_enter Tryz.func124,Tryz.ntmps124
  go_wp2_with fail
  go_loopw [3,4] (fun e i wr=>∃ (j m:Nat),j≤n∧e=.int .i64 (m:Int)∧i=.int .i64 (j:Int)∧Hid (m=r1N 6 (ts.take j))∧Hid (wr=w)) (fun _ i _=>n - (intOf i).toNat)
  case atStart=>exact⟨0,6,by omega,rfl,rfl,zaa (by simp[r1N,zd8]),zaa rfl⟩
  case round =>
   obtain⟨j,m,hj,rfl,rfl,hm,hB⟩:=hrel;by_cases hjn:j<n
   ·as_aux_lemma =>
    have y0:(0:Int)≤(j:Int):=by omega
    have y1:(j:Int)<(n:Int):=by omega
    have hj1:j+1≤n:=by omega
    have hjl:j<ts.length:=by rw[za HN];exact hjn
    obtain⟨b,off,rfl,q0,q1⟩:=(za HT).cell j hjl;have ST:=zaa (znt 6 ts j hjl);generalize ts[j]=t at *;obtain⟨s,x⟩:=t;dsimp only at *;have p1:wr.cell? ⟨b,off+j*2+1,none⟩=some (.float .f64 x):=by rw[za hB];exact q1
    have WC:=zaa (zfv x wr);clear q0 q1;cases hw:wtB x with
    |true =>
     rw[hw] at WC ST;have HM:=zaa (show m=r1N 6 (ts.take (j+1)) by rw[za ST,if_pos rfl];exact za hm);clear hw ST hm
     go_wp2_with fail
     refine(za WC).mono ?_;rintro e w' ⟨rfl,rfl⟩
     go_wp2
     exact⟨⟨j+1,m,hj1,rfl,by go_num,HM,hB⟩,by simp[intOf];omega⟩
    |false =>
     rw[hw] at WC ST;have HM:=zaa (show 15=r1N 6 (ts.take (j+1)) by rw[za ST];rfl);clear hw ST hm
     go_wp2_with fail
     refine(za WC).mono ?_;rintro e w' ⟨rfl,rfl⟩
     go_wp2
     exact⟨⟨j+1,15,hj1,rfl,by go_num,HM,hB⟩,by simp[intOf];omega⟩
   ·as_aux_lemma =>
    have y1:¬ (j:Int)<(n:Int):=by omega
    have hm2:=zaa (show m=r1N 6 ts by rw[za hm,List.take_of_length_le (by rw[za HN];omega)]);rw[← za hm2] at HR;have hwr:=za hB;subst hwr;clear hm hB
    go_wp2_with fail
    go_loopw [3,5] (fun e i wq=>∃ (k m2:Nat),k≤n∧e=.int .i64 (m2:Int)∧i=.int .i64 (k:Int)∧Hid (m2=r2N m (ts.take k))∧Hid (wq=wr)) (fun _ i _=>n - (intOf i).toNat)
    case atStart=>exact⟨0,m,by omega,rfl,rfl,zaa (by simp[r2N,zpg]),zaa rfl⟩
    case round =>
     rename_i w0
     obtain⟨k,m2,hk,rfl,rfl,hm3,hB2⟩:=hrel;by_cases hkn:k<n
     ·have y2:(0:Int)≤(k:Int):=by omega
      have y3:(k:Int)<(n:Int):=by omega
      have hk1:k+1≤n:=by omega
      have hkl:k<ts.length:=by rw[za HN];exact hkn
      obtain⟨b,off,rfl,q0,q1⟩:=(za HT).cell k hkl;have ST:=zaa (znu m ts k hkl);have hs:=za HZ _ (List.getElem_mem hkl);generalize ts[k]=t at *;obtain⟨s,x⟩:=t;dsimp only at *;have hwq:=za hB2;subst hwq;have AC:=zaa (zhy s (by simp only[maxLen];omega) wr);clear q1 hB2;cases hw:zcy s with
      |true =>
       rw[hw] at AC ST;have HM:=zaa (show m2=r2N m (ts.take (k+1)) by rw[za ST,if_pos rfl];exact za hm3);clear hw ST hm3
       go_wp2_with fail
       refine(za AC).mono ?_;rintro e w' ⟨rfl,rfl⟩
       go_wp2
       exact⟨⟨k+1,m2,hk1,rfl,by go_num,HM,by first|exact zaa rfl|trivial⟩,by simp[intOf];omega⟩
      |false =>
       rw[hw] at AC ST;have HM:=zaa (show 14=r2N m (ts.take (k+1)) by rw[za ST];rfl);clear hw ST hm3
       go_wp2_with fail
       refine(za AC).mono ?_;rintro e w' ⟨rfl,rfl⟩
       go_wp2
       exact⟨⟨k+1,14,hk1,rfl,by go_num,HM,by first|exact zaa rfl|trivial⟩,by simp[intOf];omega⟩
     ·have y3:¬ (k:Int)<(n:Int):=by omega
      have HM:=zaa (show rtN ts=m2 by rw[za HR,za hm3,List.take_of_length_le (by rw[za HN];omega)]);clear hm3 hm2
      go_wp2
      go_ret
      exact⟨by rw[za HM];rfl,za hB2⟩
 ·have i16:¬ (16:Int)<(n:Int):=by omega
  rw[if_neg h16] at HR;go_enter Tryz.func124,Tryz.ntmps124
  go_wp2_with fail
  go_loopw [3,4] (fun e i wr=>∃ (j m:Nat),j≤n∧e=.int .i64 (m:Int)∧i=.int .i64 (j:Int)∧Hid (m=r1N 0 (ts.take j))∧Hid (wr=w)) (fun _ i _=>n - (intOf i).toNat)
  case atStart=>exact⟨0,0,by omega,rfl,rfl,zaa (by simp[r1N,zd8]),zaa rfl⟩
  case round =>
   obtain⟨j,m,hj,rfl,rfl,hm,hB⟩:=hrel;by_cases hjn:j<n
   ·as_aux_lemma =>
    have y0:(0:Int)≤(j:Int):=by omega
    have y1:(j:Int)<(n:Int):=by omega
    have hj1:j+1≤n:=by omega
    have hjl:j<ts.length:=by rw[za HN];exact hjn
    obtain⟨b,off,rfl,q0,q1⟩:=(za HT).cell j hjl;have ST:=zaa (znt 0 ts j hjl);generalize ts[j]=t at *;obtain⟨s,x⟩:=t;dsimp only at *;have p1:wr.cell? ⟨b,off+j*2+1,none⟩=some (.float .f64 x):=by rw[za hB];exact q1
    have WC:=zaa (zfv x wr);clear q0 q1;cases hw:wtB x with
    |true =>
     rw[hw] at WC ST;have HM:=zaa (show m=r1N 0 (ts.take (j+1)) by rw[za ST,if_pos rfl];exact za hm);clear hw ST hm
     go_wp2_with fail
     refine(za WC).mono ?_;rintro e w' ⟨rfl,rfl⟩
     go_wp2
     exact⟨⟨j+1,m,hj1,rfl,by go_num,HM,hB⟩,by simp[intOf];omega⟩
    |false =>
     rw[hw] at WC ST;have HM:=zaa (show 15=r1N 0 (ts.take (j+1)) by rw[za ST];rfl);clear hw ST hm
     go_wp2_with fail
     refine(za WC).mono ?_;rintro e w' ⟨rfl,rfl⟩
     go_wp2
     exact⟨⟨j+1,15,hj1,rfl,by go_num,HM,hB⟩,by simp[intOf];omega⟩
   ·as_aux_lemma =>
    have y1:¬ (j:Int)<(n:Int):=by omega
    have hm2:=zaa (show m=r1N 0 ts by rw[za hm,List.take_of_length_le (by rw[za HN];omega)]);rw[← za hm2] at HR;have hwr:=za hB;subst hwr;clear hm hB
    go_wp2_with fail
    go_loopw [3,5] (fun e i wq=>∃ (k m2:Nat),k≤n∧e=.int .i64 (m2:Int)∧i=.int .i64 (k:Int)∧Hid (m2=r2N m (ts.take k))∧Hid (wq=wr)) (fun _ i _=>n - (intOf i).toNat)
    case atStart=>exact⟨0,m,by omega,rfl,rfl,zaa (by simp[r2N,zpg]),zaa rfl⟩
    case round =>
     rename_i w0
     obtain⟨k,m2,hk,rfl,rfl,hm3,hB2⟩:=hrel;by_cases hkn:k<n
     ·have y2:(0:Int)≤(k:Int):=by omega
      have y3:(k:Int)<(n:Int):=by omega
      have hk1:k+1≤n:=by omega
      have hkl:k<ts.length:=by rw[za HN];exact hkn
      obtain⟨b,off,rfl,q0,q1⟩:=(za HT).cell k hkl;have ST:=zaa (znu m ts k hkl);have hs:=za HZ _ (List.getElem_mem hkl);generalize ts[k]=t at *;obtain⟨s,x⟩:=t;dsimp only at *;have hwq:=za hB2;subst hwq;have AC:=zaa (zhy s (by simp only[maxLen];omega) wr);clear q1 hB2;cases hw:zcy s with
      |true =>
       rw[hw] at AC ST;have HM:=zaa (show m2=r2N m (ts.take (k+1)) by rw[za ST,if_pos rfl];exact za hm3);clear hw ST hm3
       go_wp2_with fail
       refine(za AC).mono ?_;rintro e w' ⟨rfl,rfl⟩
       go_wp2
       exact⟨⟨k+1,m2,hk1,rfl,by go_num,HM,by first|exact zaa rfl|trivial⟩,by simp[intOf];omega⟩
      |false =>
       rw[hw] at AC ST;have HM:=zaa (show 14=r2N m (ts.take (k+1)) by rw[za ST];rfl);clear hw ST hm3
       go_wp2_with fail
       refine(za AC).mono ?_;rintro e w' ⟨rfl,rfl⟩
       go_wp2
       exact⟨⟨k+1,14,hk1,rfl,by go_num,HM,by first|exact zaa rfl|trivial⟩,by simp[intOf];omega⟩
     ·have y3:¬ (k:Int)<(n:Int):=by omega
      have HM:=zaa (show rtN ts=m2 by rw[za HR,za hm3,List.take_of_length_le (by rw[za HN];omega)]);clear hm3 hm2
      go_wp2
      go_ret
      exact⟨by rw[za HM];rfl,za hB2⟩
theorem zs9 {c:Cmd} (h:zbk c=false):zam c=2:=by
 unfold zam;rw[h];rfl
theorem znc {c:Cmd} (u m:Bool) (h:zbk c=true) (hu:zbq c=u) (hm:zb5 c=(m&&zpg c.ts)):zam c=if u then (if m then rtN c.ts else 14) else 2:=by
 unfold zam rtN;rw[h,hu,hm];cases u <;> cases m <;> cases zpg c.ts <;> simp
theorem chk1 {c:Cmd} (h:zbk c=true) (ha:c.act=1):zam c=if emp c.host&&emp c.pre then (if zcg c.pool then rtN c.ts else 14) else 2:=by
 refine znc _ _ h ?_ ?_
 ·unfold zbq zbm emp;rw[ha];simp
 ·unfold zb5 zbm zpg;rw[ha];simp
theorem chk2 {c:Cmd} (h:zbk c=true) (ha:c.act=2):zam c=if emp c.host&&emp c.pre&&decide (c.ts.length=0) then (if zcg c.pool then rtN c.ts else 14) else 2:=by
 refine znc _ _ h ?_ ?_
 ·unfold zbq zbm emp;rw[ha];simp
 ·unfold zb5 zbm zpg;rw[ha];simp
theorem chk3 {c:Cmd} (h:zbk c=true) (ha:c.act=3):zam c=if decide (c.ts.length=0) then (if zcg c.pool&&(zbe c.host&&zch c.pre) then rtN c.ts else 14) else 2:=by
 refine znc _ _ h ?_ ?_
 ·unfold zbq zbm;rw[ha];simp
 ·unfold zb5 zbm zpg;rw[ha];cases zcg c.pool <;> simp
theorem chk4 {c:Cmd} (h:zbk c=true) (ha:c.act=4):zam c=if emp c.pool&&decide (c.ts.length=0) then (if zbe c.host&&zch c.pre then rtN c.ts else 14) else 2:=by
 refine znc _ _ h ?_ ?_
 ·unfold zbq zbm emp;rw[ha];simp
 ·unfold zb5 zbm zpg;rw[ha];simp
theorem zd1 {c:Cmd} (h:zbk c=true):(1≤c.act∧c.act≤4)∧(0≤c.cli∧c.cli≤32)∧((c.cli=0∧c.seq=0)∨(0<c.cli∧1≤c.seq∧c.seq≤1099511627776))∧(-1≤c.exp∧c.exp≤1099511627775):=by
 unfold zbk at h;simp only[Bool.and_eq_true,decide_eq_true_eq] at h;obtain⟨⟨⟨h1,h2⟩,h3⟩,h4⟩:=h;refine⟨h1,h2,?_,h4⟩;split at h3
 ·exact .inl ⟨by assumption,of_decide_eq_true h3⟩
 ·exact .inr ⟨by omega,of_decide_eq_true h3⟩
theorem zjr (c:Cmd) (a:Option Addr) (tc:Nat) (w:World) (h:CmdAt w c a tc) (hB:zbk c=true) (ha:c.act=1):Calls Tryz.prog 69 #[zar c a tc] w fun e w'=>e=.returned (.int .i64 (zam c:Int))∧Below w.heap.size w w':=by
 have bX:=zaa (show Below w.heap.size w (w.alloc (.cells (zal c a tc) 33)) from(Below.refl _ _).alloc (Nat.le_refl _) _);have X1:=zaa (zac w (.cells (zal c a tc) 33));have RT:=zaa (zcr (h.tgs.later (za bX)) c.ts.length tc rfl h.tn.1 h.tz);have h47:(140737488355328:Nat)≤maxLen:=by simp[maxLen]
 have NP:=zaa (fun W=>zbs c.pool (Nat.le_trans h.tl h47) W);have HP:=zaa (fun W=>zco c.host (Nat.le_trans h.th h47) W);have PP:=zaa (fun W=>zcd c.pre (Nat.le_trans h.tp h47) W);have KK:=zaa (chk1 hB ha);have hn:=h.tn.1;have z1:=h.th;have z2:=h.tp;have z3:=h.tl;have e4:=zci c.host;have e5:=zci c.pre;have e6:=zci c.pool;have nl:=zc1;simp only[maxLen] at hn;obtain⟨_,⟨b1,b2⟩,hcs,⟨b3,b4⟩⟩:=zd1 hB;clear hB;clear h h47;unfold zar zal at *;generalize zam c=R at *;generalize rtN c.ts=rn at *;generalize emp c.host=x4 at *;generalize emp c.pre=x5 at *;generalize emp c.pool=x6 at *;generalize zcg c.pool=y1 at *;generalize zbe c.host=y2 at *;generalize zch c.pre=y3 at *;obtain⟨act,cli,seq,exp,host,pre,pool,ts⟩:=c;dsimp only at *;subst ha;generalize ts.length=tn at *;have k0:=zab (za X1) 0 (.int .i64 1) rfl;have k1:=zab (za X1) 1 (.int .i64 cli) rfl;have k2:=zab (za X1) 2 (.int .i64 seq) rfl;have k3:=zab (za X1) 3 (.int .i64 exp) rfl;have k4:=zab (za X1) 4 (.string host) rfl;have k5:=zab (za X1) 5 (.string pre) rfl;have k6:=zab (za X1) 6 (.string pool) rfl;have k7:=zab (za X1) 7 (.slice a tn tc) rfl;have n3:¬ cli<0:=by omega
 have n4:¬ 32<cli:=by omega
 have n5:¬ exp < -1:=by omega
 have n6:¬ 1099511627775<exp:=by omega
 rcases hcs with⟨rfl,rfl⟩|⟨c1,c2,c3⟩
 ·skip
  cases x4 with
  |false =>
   as_aux_lemma =>
   have HR:R=2:=(za KK)
   subst HR;clear KK X1;go_enter Tryz.func69,Tryz.ntmps69
   go_wp2
   go_ret
   exact⟨by first|rfl|(simp;done),za bX⟩
  |true =>
   cases x5 with
   |false =>
    as_aux_lemma =>
    have HR:R=2:=(za KK)
    subst HR;clear KK X1;go_enter Tryz.func69,Tryz.ntmps69
    go_wp2
    go_ret
    exact⟨by first|rfl|(simp;done),za bX⟩
   |true =>
    cases y1 with
    |false =>
     as_aux_lemma =>
     have HR:R=14:=(za KK)
     subst HR;clear KK X1;go_enter Tryz.func69,Tryz.ntmps69
     go_wp2_with fail
     refine(za NP _).mono ?_;rintro e w' ⟨rfl,rfl⟩
     go_wp2
     go_ret
     exact⟨by first|rfl|(simp;done),za bX⟩
    |true =>
     as_aux_lemma =>
     have HR:R=rn:=(za KK)
     subst HR;clear KK X1;go_enter Tryz.func69,Tryz.ntmps69
     go_wp2_with fail
     refine(za NP _).mono ?_;rintro e w' ⟨rfl,rfl⟩
     go_wp2_with fail
     refine(za RT).mono ?_;rintro e w' ⟨rfl,rfl⟩
     go_wp2
     go_ret
     exact⟨by first|rfl|(simp;done),za bX⟩
 ·have j7:(cli==0)=false:=by simp;omega
  have j7':¬ cli=0:=by omega
  have j8:¬ seq<1:=by omega
  have j9:¬ 1099511627776<seq:=by omega
  clear b1 b2 b3 b4 c2 c3;cases x4 with
  |false =>
   as_aux_lemma =>
   have HR:R=2:=(za KK)
   subst HR;clear KK X1;go_enter Tryz.func69,Tryz.ntmps69
   go_wp2
   go_ret
   exact⟨by first|rfl|(simp;done),za bX⟩
  |true =>
   cases x5 with
   |false =>
    as_aux_lemma =>
    have HR:R=2:=(za KK)
    subst HR;clear KK X1;go_enter Tryz.func69,Tryz.ntmps69
    go_wp2
    go_ret
    exact⟨by first|rfl|(simp;done),za bX⟩
   |true =>
    cases y1 with
    |false =>
     as_aux_lemma =>
     have HR:R=14:=(za KK)
     subst HR;clear KK X1;go_enter Tryz.func69,Tryz.ntmps69
     go_wp2_with fail
     refine(za NP _).mono ?_;rintro e w' ⟨rfl,rfl⟩
     go_wp2
     go_ret
     exact⟨by first|rfl|(simp;done),za bX⟩
    |true =>
     as_aux_lemma =>
     have HR:R=rn:=(za KK)
     subst HR;clear KK X1;go_enter Tryz.func69,Tryz.ntmps69
     go_wp2_with fail
     refine(za NP _).mono ?_;rintro e w' ⟨rfl,rfl⟩
     go_wp2_with fail
     refine(za RT).mono ?_;rintro e w' ⟨rfl,rfl⟩
     go_wp2
     go_ret
     exact⟨by first|rfl|(simp;done),za bX⟩
theorem zjs (c:Cmd) (a:Option Addr) (tc:Nat) (w:World) (h:CmdAt w c a tc) (hB:zbk c=true) (ha:c.act=2):Calls Tryz.prog 69 #[zar c a tc] w fun e w'=>e=.returned (.int .i64 (zam c:Int))∧Below w.heap.size w w':=by
 have bX:=zaa (show Below w.heap.size w (w.alloc (.cells (zal c a tc) 33)) from(Below.refl _ _).alloc (Nat.le_refl _) _);have X1:=zaa (zac w (.cells (zal c a tc) 33));have RT:=zaa (zcr (h.tgs.later (za bX)) c.ts.length tc rfl h.tn.1 h.tz);have h47:(140737488355328:Nat)≤maxLen:=by simp[maxLen]
 have NP:=zaa (fun W=>zbs c.pool (Nat.le_trans h.tl h47) W);have HP:=zaa (fun W=>zco c.host (Nat.le_trans h.th h47) W);have PP:=zaa (fun W=>zcd c.pre (Nat.le_trans h.tp h47) W);have KK:=zaa (chk2 hB ha);have hn:=h.tn.1;have z1:=h.th;have z2:=h.tp;have z3:=h.tl;have e4:=zci c.host;have e5:=zci c.pre;have e6:=zci c.pool;have nl:=zc1;simp only[maxLen] at hn;obtain⟨_,⟨b1,b2⟩,hcs,⟨b3,b4⟩⟩:=zd1 hB;clear hB;clear h h47;unfold zar zal at *;generalize zam c=R at *;generalize rtN c.ts=rn at *;generalize emp c.host=x4 at *;generalize emp c.pre=x5 at *;generalize emp c.pool=x6 at *;generalize zcg c.pool=y1 at *;generalize zbe c.host=y2 at *;generalize zch c.pre=y3 at *;obtain⟨act,cli,seq,exp,host,pre,pool,ts⟩:=c;dsimp only at *;subst ha;generalize ts.length=tn at *;have k0:=zab (za X1) 0 (.int .i64 2) rfl;have k1:=zab (za X1) 1 (.int .i64 cli) rfl;have k2:=zab (za X1) 2 (.int .i64 seq) rfl;have k3:=zab (za X1) 3 (.int .i64 exp) rfl;have k4:=zab (za X1) 4 (.string host) rfl;have k5:=zab (za X1) 5 (.string pre) rfl;have k6:=zab (za X1) 6 (.string pool) rfl;have k7:=zab (za X1) 7 (.slice a tn tc) rfl;have n3:¬ cli<0:=by omega
 have n4:¬ 32<cli:=by omega
 have n5:¬ exp < -1:=by omega
 have n6:¬ 1099511627775<exp:=by omega
 rcases hcs with⟨rfl,rfl⟩|⟨c1,c2,c3⟩
 ·skip
  by_cases hn0:tn=0
  ·subst hn0;cases x4 with
   |false =>
    as_aux_lemma =>
    have HR:R=2:=(za KK)
    subst HR;clear KK X1;go_enter Tryz.func69,Tryz.ntmps69
    go_wp2
    go_ret
    exact⟨by first|rfl|(simp;done),za bX⟩
   |true =>
    cases x5 with
    |false =>
     as_aux_lemma =>
     have HR:R=2:=(za KK)
     subst HR;clear KK X1;go_enter Tryz.func69,Tryz.ntmps69
     go_wp2
     go_ret
     exact⟨by first|rfl|(simp;done),za bX⟩
    |true =>
     cases y1 with
     |false =>
      as_aux_lemma =>
      have HR:R=14:=(za KK)
      subst HR;clear KK X1;go_enter Tryz.func69,Tryz.ntmps69
      go_wp2_with fail
      refine(za NP _).mono ?_;rintro e w' ⟨rfl,rfl⟩
      go_wp2
      go_ret
      exact⟨by first|rfl|(simp;done),za bX⟩
     |true =>
      as_aux_lemma =>
      have HR:R=rn:=(za KK)
      subst HR;clear KK X1;go_enter Tryz.func69,Tryz.ntmps69
      go_wp2_with fail
      refine(za NP _).mono ?_;rintro e w' ⟨rfl,rfl⟩
      go_wp2_with fail
      refine(za RT).mono ?_;rintro e w' ⟨rfl,rfl⟩
      go_wp2
      go_ret
      exact⟨by first|rfl|(simp;done),za bX⟩
  ·have hp:(0:Int)<(tn:Int):=by omega
   rw[show decide (tn=0)=false from decide_eq_false hn0,Bool.and_false] at KK;cases x4 with
   |false =>
    as_aux_lemma =>
    have HR:R=2:=(za KK)
    subst HR;clear KK X1;go_enter Tryz.func69,Tryz.ntmps69
    go_wp2
    go_ret
    exact⟨by first|rfl|(simp;done),za bX⟩
   |true =>
    cases x5 with
    |false =>
     as_aux_lemma =>
     have HR:R=2:=(za KK)
     subst HR;clear KK X1;go_enter Tryz.func69,Tryz.ntmps69
     go_wp2
     go_ret
     exact⟨by first|rfl|(simp;done),za bX⟩
    |true =>
     as_aux_lemma =>
     have HR:R=2:=(za KK)
     subst HR;clear KK X1;go_enter Tryz.func69,Tryz.ntmps69
     go_wp2
     go_ret
     exact⟨by first|rfl|(simp;done),za bX⟩
 ·have j7:(cli==0)=false:=by simp;omega
  have j7':¬ cli=0:=by omega
  have j8:¬ seq<1:=by omega
  have j9:¬ 1099511627776<seq:=by omega
  clear b1 b2 b3 b4 c2 c3;by_cases hn0:tn=0
  ·subst hn0;cases x4 with
   |false =>
    as_aux_lemma =>
    have HR:R=2:=(za KK)
    subst HR;clear KK X1;go_enter Tryz.func69,Tryz.ntmps69
    go_wp2
    go_ret
    exact⟨by first|rfl|(simp;done),za bX⟩
   |true =>
    cases x5 with
    |false =>
     as_aux_lemma =>
     have HR:R=2:=(za KK)
     subst HR;clear KK X1;go_enter Tryz.func69,Tryz.ntmps69
     go_wp2
     go_ret
     exact⟨by first|rfl|(simp;done),za bX⟩
    |true =>
     cases y1 with
     |false =>
      as_aux_lemma =>
      have HR:R=14:=(za KK)
      subst HR;clear KK X1;go_enter Tryz.func69,Tryz.ntmps69
      go_wp2_with fail
      refine(za NP _).mono ?_;rintro e w' ⟨rfl,rfl⟩
      go_wp2
      go_ret
      exact⟨by first|rfl|(simp;done),za bX⟩
     |true =>
      as_aux_lemma =>
      have HR:R=rn:=(za KK)
      subst HR;clear KK X1;go_enter Tryz.func69,Tryz.ntmps69
      go_wp2_with fail
      refine(za NP _).mono ?_;rintro e w' ⟨rfl,rfl⟩
      go_wp2_with fail
      refine(za RT).mono ?_;rintro e w' ⟨rfl,rfl⟩
      go_wp2
      go_ret
      exact⟨by first|rfl|(simp;done),za bX⟩
  ·have hp:(0:Int)<(tn:Int):=by omega
   rw[show decide (tn=0)=false from decide_eq_false hn0,Bool.and_false] at KK;cases x4 with
   |false =>
    as_aux_lemma =>
    have HR:R=2:=(za KK)
    subst HR;clear KK X1;go_enter Tryz.func69,Tryz.ntmps69
    go_wp2
    go_ret
    exact⟨by first|rfl|(simp;done),za bX⟩
   |true =>
    cases x5 with
    |false =>
     as_aux_lemma =>
     have HR:R=2:=(za KK)
     subst HR;clear KK X1;go_enter Tryz.func69,Tryz.ntmps69
     go_wp2
     go_ret
     exact⟨by first|rfl|(simp;done),za bX⟩
    |true =>
     as_aux_lemma =>
     have HR:R=2:=(za KK)
     subst HR;clear KK X1;go_enter Tryz.func69,Tryz.ntmps69
     go_wp2
     go_ret
     exact⟨by first|rfl|(simp;done),za bX⟩
theorem zjt (c:Cmd) (a:Option Addr) (tc:Nat) (w:World) (h:CmdAt w c a tc) (hB:zbk c=true) (ha:c.act=3):Calls Tryz.prog 69 #[zar c a tc] w fun e w'=>e=.returned (.int .i64 (zam c:Int))∧Below w.heap.size w w':=by
 have bX:=zaa (show Below w.heap.size w (w.alloc (.cells (zal c a tc) 33)) from(Below.refl _ _).alloc (Nat.le_refl _) _);have X1:=zaa (zac w (.cells (zal c a tc) 33));have RT:=zaa (zcr (h.tgs.later (za bX)) c.ts.length tc rfl h.tn.1 h.tz);have h47:(140737488355328:Nat)≤maxLen:=by simp[maxLen]
 have NP:=zaa (fun W=>zbs c.pool (Nat.le_trans h.tl h47) W);have HP:=zaa (fun W=>zco c.host (Nat.le_trans h.th h47) W);have PP:=zaa (fun W=>zcd c.pre (Nat.le_trans h.tp h47) W);have KK:=zaa (chk3 hB ha);have hn:=h.tn.1;have z1:=h.th;have z2:=h.tp;have z3:=h.tl;have e4:=zci c.host;have e5:=zci c.pre;have e6:=zci c.pool;have nl:=zc1;simp only[maxLen] at hn;obtain⟨_,⟨b1,b2⟩,hcs,⟨b3,b4⟩⟩:=zd1 hB;clear hB;clear h h47;unfold zar zal at *;generalize zam c=R at *;generalize rtN c.ts=rn at *;generalize emp c.host=x4 at *;generalize emp c.pre=x5 at *;generalize emp c.pool=x6 at *;generalize zcg c.pool=y1 at *;generalize zbe c.host=y2 at *;generalize zch c.pre=y3 at *;obtain⟨act,cli,seq,exp,host,pre,pool,ts⟩:=c;dsimp only at *;subst ha;generalize ts.length=tn at *;have k0:=zab (za X1) 0 (.int .i64 3) rfl;have k1:=zab (za X1) 1 (.int .i64 cli) rfl;have k2:=zab (za X1) 2 (.int .i64 seq) rfl;have k3:=zab (za X1) 3 (.int .i64 exp) rfl;have k4:=zab (za X1) 4 (.string host) rfl;have k5:=zab (za X1) 5 (.string pre) rfl;have k6:=zab (za X1) 6 (.string pool) rfl;have k7:=zab (za X1) 7 (.slice a tn tc) rfl;have n3:¬ cli<0:=by omega
 have n4:¬ 32<cli:=by omega
 have n5:¬ exp < -1:=by omega
 have n6:¬ 1099511627775<exp:=by omega
 rcases hcs with⟨rfl,rfl⟩|⟨c1,c2,c3⟩
 ·skip
  by_cases hn0:tn=0
  ·subst hn0;cases y1 with
   |false =>
    as_aux_lemma =>
    have HR:R=14:=(za KK)
    subst HR;clear KK X1;go_enter Tryz.func69,Tryz.ntmps69
    go_wp2_with fail
    refine(za NP _).mono ?_;rintro e w' ⟨rfl,rfl⟩
    go_wp2
    go_ret
    exact⟨by first|rfl|(simp;done),za bX⟩
   |true =>
    cases y2 with
    |false =>
     as_aux_lemma =>
     have HR:R=14:=(za KK)
     subst HR;clear KK X1;go_enter Tryz.func69,Tryz.ntmps69
     go_wp2_with fail
     refine(za NP _).mono ?_;rintro e w' ⟨rfl,rfl⟩
     go_wp2_with fail
     refine(za HP _).mono ?_;rintro e w' ⟨rfl,rfl⟩
     go_wp2
     go_ret
     exact⟨by first|rfl|(simp;done),za bX⟩
    |true =>
     cases y3 with
     |false =>
      as_aux_lemma =>
      have HR:R=14:=(za KK)
      subst HR;clear KK X1;go_enter Tryz.func69,Tryz.ntmps69
      go_wp2_with fail
      refine(za NP _).mono ?_;rintro e w' ⟨rfl,rfl⟩
      go_wp2_with fail
      refine(za HP _).mono ?_;rintro e w' ⟨rfl,rfl⟩
      go_wp2_with fail
      refine(za PP _).mono ?_;rintro e w' ⟨rfl,rfl⟩
      go_wp2
      go_ret
      exact⟨by first|rfl|(simp;done),za bX⟩
     |true =>
      as_aux_lemma =>
      have HR:R=rn:=(za KK)
      subst HR;clear KK X1;go_enter Tryz.func69,Tryz.ntmps69
      go_wp2_with fail
      refine(za NP _).mono ?_;rintro e w' ⟨rfl,rfl⟩
      go_wp2_with fail
      refine(za HP _).mono ?_;rintro e w' ⟨rfl,rfl⟩
      go_wp2_with fail
      refine(za PP _).mono ?_;rintro e w' ⟨rfl,rfl⟩
      go_wp2_with fail
      refine(za RT).mono ?_;rintro e w' ⟨rfl,rfl⟩
      go_wp2
      go_ret
      exact⟨by first|rfl|(simp;done),za bX⟩
  ·have hp:(0:Int)<(tn:Int):=by omega
   rw[show decide (tn=0)=false from decide_eq_false hn0] at KK
   as_aux_lemma =>
   have HR:R=2:=(za KK)
   subst HR;clear KK X1;go_enter Tryz.func69,Tryz.ntmps69
   go_wp2
   go_ret
   exact⟨by first|rfl|(simp;done),za bX⟩
 ·have j7:(cli==0)=false:=by simp;omega
  have j7':¬ cli=0:=by omega
  have j8:¬ seq<1:=by omega
  have j9:¬ 1099511627776<seq:=by omega
  clear b1 b2 b3 b4 c2 c3;by_cases hn0:tn=0
  ·subst hn0;cases y1 with
   |false =>
    as_aux_lemma =>
    have HR:R=14:=(za KK)
    subst HR;clear KK X1;go_enter Tryz.func69,Tryz.ntmps69
    go_wp2_with fail
    refine(za NP _).mono ?_;rintro e w' ⟨rfl,rfl⟩
    go_wp2
    go_ret
    exact⟨by first|rfl|(simp;done),za bX⟩
   |true =>
    cases y2 with
    |false =>
     as_aux_lemma =>
     have HR:R=14:=(za KK)
     subst HR;clear KK X1;go_enter Tryz.func69,Tryz.ntmps69
     go_wp2_with fail
     refine(za NP _).mono ?_;rintro e w' ⟨rfl,rfl⟩
     go_wp2_with fail
     refine(za HP _).mono ?_;rintro e w' ⟨rfl,rfl⟩
     go_wp2
     go_ret
     exact⟨by first|rfl|(simp;done),za bX⟩
    |true =>
     cases y3 with
     |false =>
      as_aux_lemma =>
      have HR:R=14:=(za KK)
      subst HR;clear KK X1;go_enter Tryz.func69,Tryz.ntmps69
      go_wp2_with fail
      refine(za NP _).mono ?_;rintro e w' ⟨rfl,rfl⟩
      go_wp2_with fail
      refine(za HP _).mono ?_;rintro e w' ⟨rfl,rfl⟩
      go_wp2_with fail
      refine(za PP _).mono ?_;rintro e w' ⟨rfl,rfl⟩
      go_wp2
      go_ret
      exact⟨by first|rfl|(simp;done),za bX⟩
     |true =>
      as_aux_lemma =>
      have HR:R=rn:=(za KK)
      subst HR;clear KK X1;go_enter Tryz.func69,Tryz.ntmps69
      go_wp2_with fail
      refine(za NP _).mono ?_;rintro e w' ⟨rfl,rfl⟩
      go_wp2_with fail
      refine(za HP _).mono ?_;rintro e w' ⟨rfl,rfl⟩
      go_wp2_with fail
      refine(za PP _).mono ?_;rintro e w' ⟨rfl,rfl⟩
      go_wp2_with fail
      refine(za RT).mono ?_;rintro e w' ⟨rfl,rfl⟩
      go_wp2
      go_ret
      exact⟨by first|rfl|(simp;done),za bX⟩
  ·have hp:(0:Int)<(tn:Int):=by omega
   rw[show decide (tn=0)=false from decide_eq_false hn0] at KK
   as_aux_lemma =>
   have HR:R=2:=(za KK)
   subst HR;clear KK X1;go_enter Tryz.func69,Tryz.ntmps69
   go_wp2
   go_ret
   exact⟨by first|rfl|(simp;done),za bX⟩
theorem zju (c:Cmd) (a:Option Addr) (tc:Nat) (w:World) (h:CmdAt w c a tc) (hB:zbk c=true) (ha:c.act=4):Calls Tryz.prog 69 #[zar c a tc] w fun e w'=>e=.returned (.int .i64 (zam c:Int))∧Below w.heap.size w w':=by
 have bX:=zaa (show Below w.heap.size w (w.alloc (.cells (zal c a tc) 33)) from(Below.refl _ _).alloc (Nat.le_refl _) _);have X1:=zaa (zac w (.cells (zal c a tc) 33));have RT:=zaa (zcr (h.tgs.later (za bX)) c.ts.length tc rfl h.tn.1 h.tz);have h47:(140737488355328:Nat)≤maxLen:=by simp[maxLen]
 have NP:=zaa (fun W=>zbs c.pool (Nat.le_trans h.tl h47) W);have HP:=zaa (fun W=>zco c.host (Nat.le_trans h.th h47) W);have PP:=zaa (fun W=>zcd c.pre (Nat.le_trans h.tp h47) W);have KK:=zaa (chk4 hB ha);have hn:=h.tn.1;have z1:=h.th;have z2:=h.tp;have z3:=h.tl;have e4:=zci c.host;have e5:=zci c.pre;have e6:=zci c.pool;have nl:=zc1;simp only[maxLen] at hn;obtain⟨_,⟨b1,b2⟩,hcs,⟨b3,b4⟩⟩:=zd1 hB;clear hB;clear h h47;unfold zar zal at *;generalize zam c=R at *;generalize rtN c.ts=rn at *;generalize emp c.host=x4 at *;generalize emp c.pre=x5 at *;generalize emp c.pool=x6 at *;generalize zcg c.pool=y1 at *;generalize zbe c.host=y2 at *;generalize zch c.pre=y3 at *;obtain⟨act,cli,seq,exp,host,pre,pool,ts⟩:=c;dsimp only at *;subst ha;generalize ts.length=tn at *;have k0:=zab (za X1) 0 (.int .i64 4) rfl;have k1:=zab (za X1) 1 (.int .i64 cli) rfl;have k2:=zab (za X1) 2 (.int .i64 seq) rfl;have k3:=zab (za X1) 3 (.int .i64 exp) rfl;have k4:=zab (za X1) 4 (.string host) rfl;have k5:=zab (za X1) 5 (.string pre) rfl;have k6:=zab (za X1) 6 (.string pool) rfl;have k7:=zab (za X1) 7 (.slice a tn tc) rfl;have n3:¬ cli<0:=by omega
 have n4:¬ 32<cli:=by omega
 have n5:¬ exp < -1:=by omega
 have n6:¬ 1099511627775<exp:=by omega
 rcases hcs with⟨rfl,rfl⟩|⟨c1,c2,c3⟩
 ·skip
  by_cases hn0:tn=0
  ·subst hn0;cases x6 with
   |false =>
    as_aux_lemma =>
    have HR:R=2:=(za KK)
    subst HR;clear KK X1;go_enter Tryz.func69,Tryz.ntmps69
    go_wp2
    go_ret
    exact⟨by first|rfl|(simp;done),za bX⟩
   |true =>
    cases y2 with
    |false =>
     as_aux_lemma =>
     have HR:R=14:=(za KK)
     subst HR;clear KK X1;go_enter Tryz.func69,Tryz.ntmps69
     go_wp2_with fail
     refine(za HP _).mono ?_;rintro e w' ⟨rfl,rfl⟩
     go_wp2
     go_ret
     exact⟨by first|rfl|(simp;done),za bX⟩
    |true =>
     cases y3 with
     |false =>
      as_aux_lemma =>
      have HR:R=14:=(za KK)
      subst HR;clear KK X1;go_enter Tryz.func69,Tryz.ntmps69
      go_wp2_with fail
      refine(za HP _).mono ?_;rintro e w' ⟨rfl,rfl⟩
      go_wp2_with fail
      refine(za PP _).mono ?_;rintro e w' ⟨rfl,rfl⟩
      go_wp2
      go_ret
      exact⟨by first|rfl|(simp;done),za bX⟩
     |true =>
      as_aux_lemma =>
      have HR:R=rn:=(za KK)
      subst HR;clear KK X1;go_enter Tryz.func69,Tryz.ntmps69
      go_wp2_with fail
      refine(za HP _).mono ?_;rintro e w' ⟨rfl,rfl⟩
      go_wp2_with fail
      refine(za PP _).mono ?_;rintro e w' ⟨rfl,rfl⟩
      go_wp2_with fail
      refine(za RT).mono ?_;rintro e w' ⟨rfl,rfl⟩
      go_wp2
      go_ret
      exact⟨by first|rfl|(simp;done),za bX⟩
  ·have hp:(0:Int)<(tn:Int):=by omega
   rw[show decide (tn=0)=false from decide_eq_false hn0,Bool.and_false] at KK
   as_aux_lemma =>
   have HR:R=2:=(za KK)
   subst HR;clear KK X1;go_enter Tryz.func69,Tryz.ntmps69
   go_wp2
   go_ret
   exact⟨by first|rfl|(simp;done),za bX⟩
 ·have j7:(cli==0)=false:=by simp;omega
  have j7':¬ cli=0:=by omega
  have j8:¬ seq<1:=by omega
  have j9:¬ 1099511627776<seq:=by omega
  clear b1 b2 b3 b4 c2 c3;by_cases hn0:tn=0
  ·subst hn0;cases x6 with
   |false =>
    as_aux_lemma =>
    have HR:R=2:=(za KK)
    subst HR;clear KK X1;go_enter Tryz.func69,Tryz.ntmps69
    go_wp2
    go_ret
    exact⟨by first|rfl|(simp;done),za bX⟩
   |true =>
    cases y2 with
    |false =>
     as_aux_lemma =>
     have HR:R=14:=(za KK)
     subst HR;clear KK X1;go_enter Tryz.func69,Tryz.ntmps69
     go_wp2_with fail
     refine(za HP _).mono ?_;rintro e w' ⟨rfl,rfl⟩
     go_wp2
     go_ret
     exact⟨by first|rfl|(simp;done),za bX⟩
    |true =>
     cases y3 with
     |false =>
      as_aux_lemma =>
      have HR:R=14:=(za KK)
      subst HR;clear KK X1;go_enter Tryz.func69,Tryz.ntmps69
      go_wp2_with fail
      refine(za HP _).mono ?_;rintro e w' ⟨rfl,rfl⟩
      go_wp2_with fail
      refine(za PP _).mono ?_;rintro e w' ⟨rfl,rfl⟩
      go_wp2
      go_ret
      exact⟨by first|rfl|(simp;done),za bX⟩
     |true =>
      as_aux_lemma =>
      have HR:R=rn:=(za KK)
      subst HR;clear KK X1;go_enter Tryz.func69,Tryz.ntmps69
      go_wp2_with fail
      refine(za HP _).mono ?_;rintro e w' ⟨rfl,rfl⟩
      go_wp2_with fail
      refine(za PP _).mono ?_;rintro e w' ⟨rfl,rfl⟩
      go_wp2_with fail
      refine(za RT).mono ?_;rintro e w' ⟨rfl,rfl⟩
      go_wp2
      go_ret
      exact⟨by first|rfl|(simp;done),za bX⟩
  ·have hp:(0:Int)<(tn:Int):=by omega
   rw[show decide (tn=0)=false from decide_eq_false hn0,Bool.and_false] at KK
   as_aux_lemma =>
   have HR:R=2:=(za KK)
   subst HR;clear KK X1;go_enter Tryz.func69,Tryz.ntmps69
   go_wp2
   go_ret
   exact⟨by first|rfl|(simp;done),za bX⟩
end
end Go.Proofs.YtjcjleaicjhpeaaGreatDoor
