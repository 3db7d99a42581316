/- Conf: the document's Prefix and Host. -/
import Derived.Test.YtjcjleaicjhpeaaGreatDoorB23
import Derived.Test.YtjcjleaicjhpeaaGreatDoorB08
import Derived.Test.YtjcjleaicjhpeaaGreatDoorB17
import Derived.Test.YtjcjleaicjhpeaaGreatDoorB21
set_option linter.unusedVariables false
set_option maxRecDepth 20000
set_option maxHeartbeats 16000000
namespace Go.Proofs.YtjcjleaicjhpeaaGreatDoor
section
open Go.ChangeShapes Go.WideShapes Go.ChangeAt Go.RowKit
def noQ (c:UInt8):Bool:=!decide (c.toNat=63) && !decide (c.toNat=35)
theorem zkh (p q:UInt8→Bool):∀ l:List UInt8,l.all (fun c=>p c&&q c)=(l.all p&&l.all q)
 |[]=>rfl
 |c::l=>by
  simp only[List.all_cons,zkh p q l];cases p c <;> cases q c <;> simp
theorem zmz (l:List UInt8):l.all zjz=(zc0 zch l&&zc0 noQ l):=by
 rw[show zjz=fun c=>zch c&&noQ c from rfl];exact zkh _ _ l
def zlz (s:ByteArray):Bool:=s.data.toList.head? == some 47
theorem znr (s:ByteArray) (h:0<s.size):zlz s=decide ((s[0]'h).toNat=47):=by
 unfold zlz;have h1:=zc4 s 0 h;rw[List.drop_zero] at h1;rw[h1];simp only[List.head?_cons];generalize (s[0]'h)=x;rw[Bool.eq_iff_iff,beq_iff_eq,decide_eq_true_eq,Option.some.injEq];constructor
 ·intro e;rw[e];rfl
 ·intro e;exact UInt8.toNat_inj.1 e
theorem zmy (s:ByteArray):zc7 s=(zc0 noQ s.data.toList&&(decide (1≤s.size)&&(decide (s.size≤128)&&(zlz s&&zc0 zch s.data.toList)))):=by
 unfold zc7 zea;rw[zmz];unfold zlz;cases zc0 zch s.data.toList <;> cases zc0 noQ s.data.toList <;> cases decide (1≤s.size) <;> cases decide (s.size≤128) <;> cases (s.data.toList.head? == some 47) <;> rfl
theorem zb9 (s:ByteArray) (hs:s.size≤maxLen) (w:World):Calls Tryz.prog 25 #[.string s] w fun e w'=>e=.returned (.bool (zc7 s))∧w'=w:=by
 have SC:=zaa (zhn s hs w);have PE:=zaa (zmy s);have HH:=zaa (znr s);simp only[maxLen] at hs;generalize zc0 zch s.data.toList=sb at *;generalize zlz s=hb at *;generalize zc7 s=R at *;go_enter Tryz.func25,Tryz.ntmps25
 go_wp2
 go_loopw [3] (fun i wr=>∃ j:Nat,i=.int .i64 (j:Int)∧j≤s.size∧Hid (zc0 noQ (s.data.toList.drop j)=zc0 noQ s.data.toList)∧Hid (wr=w)) (fun i _=>s.size - (intOf i).toNat)
 case atStart=>exact⟨0,rfl,by omega,zaa rfl,zaa rfl⟩
 case round =>
  obtain⟨j,rfl,hj,hE,hB⟩:=hrel;by_cases h:j<s.size
  ·as_aux_lemma =>
   have hE2:=zaa (show zc0 noQ (s.data.toList.drop j)=(noQ (s[j]'h)&&zc0 noQ (s.data.toList.drop (j+1))) by rw[zc4 s j h];rfl);generalize hx:(s[j]'h)=x at *;have hx2:∀ hh,(s[j]'hh)=x:=fun _=>hx;have hw:IntKind.i64.wrap ((j:Int)+1)=((j+1:Nat):Int):=by rw[IntKind.wrap_i64];omega
   have hlt:(j:Int)<(s.size:Int):=by omega
   have HL:=zaa (show noQ x=(!decide (x.toNat=63) && !decide (x.toNat=35)) from rfl);generalize noQ x=q at *;generalize hn:x.toNat=n at *;have D:=zaa (show q=true→Hid (zc0 noQ (s.data.toList.drop (j+1))=zc0 noQ s.data.toList) from fun hq=>by rw[← za hE,za hE2,hq];exact zaa rfl)
   have N:=zaa (show q=false→Hid (R=false) from fun hq=>by
    have:zc0 noQ s.data.toList=false:=by rw[← za hE,za hE2,hq];rfl
    rw[za PE,this];exact zaa rfl)
   clear hx SC PE HH;by_cases h1:n=63
   ·have HQ:=(za N (by rw[za HL];simp[h1]))
    have h1':(n:Int)=63:=by omega
    subst h1;clear D N HL
    go_wp2
    go_ret
    exact⟨by first|(rw[za HQ];done)|(rw[za HQ];rfl),za hB⟩
   ·have i1:¬ (n:Int)=63:=by omega
    have i1':((n:Int)==63)=false:=by simp;omega
    by_cases h2:n=35
    ·have HQ:=(za N (by rw[za HL];simp[h2]))
     subst h2;clear D N HL
     go_wp2
     go_ret
     exact⟨by first|(rw[za HQ];done)|(rw[za HQ];rfl),za hB⟩
    ·have i2:¬ (n:Int)=35:=by omega
     have i2':((n:Int)==35)=false:=by simp;omega
     have HQ:=(za D (by rw[za HL];simp[h1,h2]))
     clear D N HL
     go_wp2
     exact⟨⟨j+1,by go_num,by omega,HQ,hB⟩,by simp[intOf];omega⟩
  ·as_aux_lemma =>
   have hE3:zc0 noQ s.data.toList=true:=by rw[← za hE,zd6 s j h];rfl
   rw[hE3,Bool.true_and] at PE;have hlt:¬ (j:Int)<(s.size:Int):=by omega
   have hwr:=za hB;subst hwr;clear hE hB hE3;by_cases h1:1≤s.size
   ·have i1:(1:Int)≤(s.size:Int):=by omega
    by_cases h2:s.size≤128
    ·have i2:(s.size:Int)≤128:=by omega
     have h0:0<s.size:=h1;have H0:=zaa (za HH h0);generalize hx:(s[0]'h0)=x at *;have hx2:∀ hh,(s[0]'hh)=x:=fun _=>hx;generalize hn:x.toNat=n at *;rw[decide_eq_true h1,decide_eq_true h2,Bool.true_and,Bool.true_and] at PE;have z0:(0:Int)<(s.size:Int):=by omega
     clear hx HH;by_cases h3:n=47
     ·have i3:(n:Int)=47:=by omega
      rw[show hb=true by rw[za H0];exact decide_eq_true h3,Bool.true_and] at PE;subst h3;clear H0
      go_wp2_with fail
      refine(za SC).mono ?_;rintro e w' ⟨rfl,rfl⟩
      go_wp2
      go_ret
      exact⟨by first|(rw[za PE];done)|(rw[za PE];rfl),rfl⟩
     ·have i3:¬ (n:Int)=47:=by omega
      have i3':((n:Int)==47)=false:=by simp;omega
      rw[show hb=false by rw[za H0];exact decide_eq_false h3,Bool.false_and] at PE;clear H0
      go_wp2
      go_ret
      exact⟨by first|(rw[za PE];done)|(rw[za PE];rfl),rfl⟩
    ·have i2:¬ (s.size:Int)≤128:=by omega
     rw[decide_eq_false h2,Bool.false_and,Bool.and_false] at PE;clear HH
     go_wp2
     go_ret
     exact⟨by first|(rw[za PE];done)|(rw[za PE];rfl),rfl⟩
   ·have i1:¬ (1:Int)≤(s.size:Int):=by omega
    rw[decide_eq_false h1,Bool.false_and] at PE;clear HH
    go_wp2
    go_ret
    exact⟨by first|(rw[za PE];done)|(rw[za PE];rfl),rfl⟩
def zmj:Bool→List UInt8→Bool
 |_,[]=>true
 |p,c::r=>!(p&&decide (c.toNat=46))&&zmj (decide (c.toNat=46)) r
def zmr (b:Bool) (l:List UInt8):Bool:=match l.getLast? with
 |none=>b
 |some c=>!decide (c.toNat=46)
theorem is46 (c:UInt8):(c=46)=(c.toNat=46):=propext ⟨fun e=>by rw[e];rfl,fun e=>UInt8.toNat_inj.1 e⟩
theorem zlx (b:Bool) (c:UInt8) (l:List UInt8):zmr b (c::l)=zmr (!decide (c.toNat=46)) l:=by
 cases l with
 |nil=>rfl
 |cons x r=>unfold zmr;rw[List.getLast?_cons_cons];simp[List.getLast?_cons]
theorem zh3:∀ (l:List UInt8) (b:Bool),zff b l=(zc0 (zgi true) l&&(zmj (!b) l&&zmr b l))
 |[],b=>by simp[zff,zc0,zmj,zmr]
 |c::l,b=>by
  unfold zff;rw[zlx];rw[show zc0 (zgi true) (c::l)=(zgi true c&&zc0 (zgi true) l) from rfl,show zmj (!b) (c::l)=(!((!b)&&decide (c.toNat=46))&&zmj (decide (c.toNat=46)) l) from rfl];by_cases h:c.toNat=46
  ·rw[if_pos ((is46 c).mpr h),zh3 l false,decide_eq_true h];have:zgi true c=true:=by unfold zgi;rw[decide_eq_true h];simp
   rw[this];cases b <;> simp
  ·rw[if_neg (fun e=>h ((is46 c).mp e)),zh3 l true,decide_eq_false h];have:zgi true c=zet c:=by unfold zgi;rw[decide_eq_false h];simp
   rw[this];cases b <;> cases zet c <;> simp
theorem zk6 (s:ByteArray) (h:0<s.size) (p:Bool):zmj p s.data.toList=(!(p&&decide ((s[0]'h).toNat=46))&&zmj (decide ((s[0]'h).toNat=46)) (s.data.toList.drop 1)):=by
 have h1:=zc4 s 0 h;rw[List.drop_zero] at h1
 conv=>lhs;rw[h1]
 rfl
theorem zly (s:ByteArray) (h:0<s.size) (b:Bool):zmr b s.data.toList = !decide ((s[s.size - 1]'(by omega)).toNat=46):=by
 have h1:=zc4 s (s.size - 1) (by omega);rw[show s.size - 1+1=s.size by omega,zd6 s s.size (by omega)] at h1;have h2:s.data.toList=s.data.toList.take (s.size - 1)++[s[s.size - 1]'(by omega)]:=by rw[← h1,List.take_append_drop]
 unfold zmr;rw[h2,List.getLast?_append];simp
theorem zkn (s:ByteArray):zbs s=(decide (s.size≤64)&&(zc0 (zgi true) s.data.toList&&(zmj true s.data.toList&&zmr false s.data.toList))):=by
 unfold zbs;rw[zh3];rfl
theorem zh2 (s:ByteArray) (k:Nat) (h:k<s.size):s.data.toList.getD k 0=s[k]'h:=by
 have h1:=zc4 s k h;rw[List.getD_eq_getElem?_getD];have h2:s.data.toList[k]? = some (s[k]'h):=by
  have:=congrArg List.head? h1;rw[List.head?_drop] at this;exact this
 rw[h2];rfl
def dd (s:ByteArray) (j:Nat):Bool:=zmj (decide ((s.data.toList.getD (j - 1) 0).toNat=46)) (s.data.toList.drop j)
theorem znn (s:ByteArray) (j:Nat) (h:j<s.size):dd s j=(!(decide ((s[j - 1]'(by omega)).toNat=46)&&decide ((s[j]'h).toNat=46))&&dd s (j+1)):=by
 unfold dd;rw[zh2 s (j - 1) (by omega),zc4 s j h,Nat.add_sub_cancel,zh2 s j h];rfl
theorem zo (s:ByteArray) (j:Nat) (h:¬ j<s.size):dd s j=true:=by
 unfold dd;rw[zd6 s j h];rfl
theorem zoa (s:ByteArray) (h:0<s.size):dd s 1=zmj (decide ((s[0]'h).toNat=46)) (s.data.toList.drop 1):=by
 unfold dd;rw[zh2 s 0 h]
theorem zci (s:ByteArray) (hs:s.size≤maxLen) (w:World):Calls Tryz.prog 24 #[.string s] w fun e w'=>e=.returned (.bool (zbs s))∧w'=w:=by
 have LC:=zaa (zfi s true hs w);have PE:=zaa (zkn s);simp only[maxLen] at hs;generalize zc0 (zgi true) s.data.toList=lb at *;by_cases h1:s.size<1
 ·as_aux_lemma =>
  have i1:(s.size:Int)<1:=by omega
  have e0:s.data.toList=[]:=(zn0 s).1 (by omega);have HR:zbs s=false:=by rw[zkn,e0];simp[zmr]
  clear e0 PE LC;generalize zbs s=R at *;subst HR;go_enter Tryz.func24,Tryz.ntmps24
  go_wp2
  go_ret
  exact⟨rfl,rfl⟩
 ·have i1:¬ (s.size:Int)<1:=by omega
  have h0:0<s.size:=by omega
  by_cases h2:64<s.size
  ·as_aux_lemma =>
   have i2:(64:Int)<(s.size:Int):=by omega
   rw[decide_eq_false (by omega),Bool.false_and] at PE;generalize zbs s=R at *;have HR:=za PE;subst HR;clear LC PE;go_enter Tryz.func24,Tryz.ntmps24
   go_wp2
   go_ret
   exact⟨rfl,rfl⟩
  ·have i2:¬ (64:Int)<(s.size:Int):=by omega
   rw[decide_eq_true (show s.size≤64 by omega),Bool.true_and,zk6 s h0,← zoa s h0,zly s h0] at PE;have DO:=zaa (znn s);have z0:(0:Int)<(s.size:Int):=by omega
   have zl:(0:Int)≤(s.size:Int) - 1:=by omega
   have zl2:(s.size:Int) - 1<(s.size:Int):=by omega
   have hwl:IntKind.i64.wrap ((s.size:Int) - 1)=((s.size - 1:Nat):Int):=by rw[IntKind.wrap_i64];omega
   have zl3:((s.size - 1:Nat):Int)<(s.size:Int):=by omega
   generalize hx:(s[0]'h0)=x at *;have hx2:∀ hh,(s[0]'hh)=x:=fun _=>hx;generalize hy:(s[s.size - 1]'(by omega))=y at *;have hy2:∀ hh,(s[s.size - 1]'hh)=y:=fun _=>hy;generalize hxn:x.toNat=xn at *;generalize hyn:y.toNat=yn at *;clear hx hy;cases lb with
   |false =>
    as_aux_lemma =>
    have HR:zbs s=false:=by rw[za PE];simp
    generalize zbs s=R at *;subst HR;clear PE DO;go_enter Tryz.func24,Tryz.ntmps24
    go_wp2_with fail
    refine(za LC).mono ?_;rintro e w' ⟨rfl,rfl⟩
    go_wp2
    go_ret
    exact⟨rfl,rfl⟩
   |true =>
    by_cases h3:xn=46
    ·as_aux_lemma =>
     subst h3;have HR:zbs s=false:=by rw[za PE];simp
     generalize zbs s=R at *;subst HR;clear PE DO;go_enter Tryz.func24,Tryz.ntmps24
     go_wp2_with fail
     refine(za LC).mono ?_;rintro e w' ⟨rfl,rfl⟩
     go_wp2
     go_ret
     exact⟨rfl,rfl⟩
    ·have i3:¬ (xn:Int)=46:=by omega
     have i3':((xn:Int)==46)=false:=by simp;omega
     by_cases h4:yn=46
     ·as_aux_lemma =>
      subst h4;have HR:zbs s=false:=by rw[za PE];simp
      generalize zbs s=R at *;subst HR;clear PE DO;go_enter Tryz.func24,Tryz.ntmps24
      go_wp2_with fail
      refine(za LC).mono ?_;rintro e w' ⟨rfl,rfl⟩
      go_wp2
      go_ret
      exact⟨rfl,rfl⟩
     ·as_aux_lemma =>
      have i4:¬ (yn:Int)=46:=by omega
      have i4':((yn:Int)==46)=false:=by simp;omega
      have HR:=zaa (show zbs s=dd s 1 by rw[za PE];simp[h3,h4]);generalize zbs s=R at *;clear PE h3 h4;go_enter Tryz.func24,Tryz.ntmps24
      go_wp2_with fail
      refine(za LC).mono ?_;rintro e w' ⟨rfl,rfl⟩
      go_wp2_with fail
      go_loopw [3] (fun i wr=>∃ j:Nat,i=.int .i64 (j:Int)∧1≤j∧j≤s.size∧Hid (dd s j=R)∧Hid (wr=w')) (fun i _=>s.size - (intOf i).toNat)
      case atStart=>exact⟨1,rfl,by omega,by omega,zaa (za HR).symm,zaa rfl⟩
      case round =>
       obtain⟨j,rfl,hj1,hj,hE,hB⟩:=hrel;by_cases h:j<s.size
       ·have hE2:=zaa (za DO j h);have hp:j - 1<s.size:=by omega
        generalize hz:(s[j]'h)=z at *;have hz2:∀ hh,(s[j]'hh)=z:=fun _=>hz;generalize hq:(s[j - 1]'hp)=zp at *;have hq2:∀ hh,(s[j - 1]'hh)=zp:=fun _=>hq;have hw:IntKind.i64.wrap ((j:Int)+1)=((j+1:Nat):Int):=by rw[IntKind.wrap_i64];omega
        have hwm:IntKind.i64.wrap ((j:Int) - 1)=((j - 1:Nat):Int):=by rw[IntKind.wrap_i64];omega
        have hlt:(j:Int)<(s.size:Int):=by omega
        have hlp:((j - 1:Nat):Int)<(s.size:Int):=by omega
        generalize hzn:z.toNat=zn at *;generalize hqn:zp.toNat=qn at *;clear hz hq;by_cases g1:zn=46
        ·subst g1;by_cases g2:qn=46
         ·subst g2;have HF:=zaa (show R=false by rw[← za hE,za hE2];simp);clear hE2 hE DO HR
          go_wp2
          go_ret
          exact⟨by first|(rw[za HF];done)|(rw[za HF];rfl),za hB⟩
         ·have k2:¬ (qn:Int)=46:=by omega
          have k2':((qn:Int)==46)=false:=by simp;omega
          have HD:=zaa (show dd s (j+1)=R by rw[← za hE,za hE2];simp[g2]);clear hE2 hE
          go_wp2
          exact⟨⟨j+1,by go_num,by omega,by omega,HD,hB⟩,by simp[intOf];omega⟩
        ·have k1:¬ (zn:Int)=46:=by omega
         have k1':((zn:Int)==46)=false:=by simp;omega
         have HD:=zaa (show dd s (j+1)=R by rw[← za hE,za hE2];simp[g1]);clear hE2 hE
         go_wp2
         exact⟨⟨j+1,by go_num,by omega,by omega,HD,hB⟩,by simp[intOf];omega⟩
       ·have HF:=zaa (show R=true by rw[← za hE,zo s j h]);have hlt:¬ (j:Int)<(s.size:Int):=by omega
        clear hE DO HR
        go_wp2
        go_ret
        exact⟨by first|(rw[za HF];done)|(rw[za HF];rfl),za hB⟩
def zlr (l:List Tgt):Bool:=l.all (fun t=>zdb t.1)
def rtN (ts:List Tgt):Nat:=if zlr ts then (if zfw ts then (if 16<ts.length then 6 else 0) else 15) else 14
def r1N (e0:Nat) (ts:List Tgt):Nat:=if zfw ts then e0 else 15
def r2N (e1:Nat) (ts:List Tgt):Nat:=if zlr ts then e1 else 14
theorem zkw {α:Type} (f:α→Bool) (l:List α) (j:Nat) (h:j<l.length):(l.take (j+1)).all f=((l.take j).all f&&f l[j]):=by
 rw[List.take_succ_eq_append_getElem h,List.all_append,List.all_cons,List.all_nil,Bool.and_true]
theorem zks (e0:Nat) (ts:List Tgt) (j:Nat) (h:j<ts.length):r1N e0 (ts.take (j+1))=if wtB ts[j].2 then r1N e0 (ts.take j) else 15:=by
 unfold r1N zfw;rw[zkw _ ts j h];generalize wtB ts[j].2=b;cases b
 ·rw[Bool.and_false];rfl
 ·rw[Bool.and_true];rfl
theorem zkt (e1:Nat) (ts:List Tgt) (j:Nat) (h:j<ts.length):r2N e1 (ts.take (j+1))=if zdb ts[j].1 then r2N e1 (ts.take j) else 14:=by
 unfold r2N zlr;rw[zkw _ ts j h];generalize zdb ts[j].1=b;cases b
 ·rw[Bool.and_false];rfl
 ·rw[Bool.and_true];rfl
theorem zck {w:World} {a:Option Addr} {ts:List Tgt} (hT:TgsAt w a ts) (n c:Nat) (hn:ts.length=n) (hx:n≤maxLen) (hz:∀ t∈ts,t.1.size≤140737488355328) :
  Calls Tryz.prog 124 #[.slice a n c] w fun e w'=>e=.returned (.int .i64 (rtN ts:Int))∧w'=w:=by
 have HT:=zaa hT;have HZ:=zaa hz;have hsF:=zdq .plain;simp only[maxLen] at hx;have HR:=zaa (show rtN ts=r2N (r1N (if 16<n then 6 else 0) ts) ts by rw[← hn];rfl);have HN:=zaa hn;clear hT hn hz;by_cases h16:16<n
 ·have i16:(16:Int)<(n:Int):=by omega
  rw[if_pos h16] at HR;go_enter Tryz.func124,Tryz.ntmps124
  go_wp2_with fail
  go_loopw [3,4] (fun e i wr=>∃ (j m:Nat),j≤n∧e=.int .i64 (m:Int)∧i=.int .i64 (j:Int)∧Hid (m=r1N 6 (ts.take j))∧Hid (wr=w)) (fun _ i _=>n - (intOf i).toNat)
  case atStart=>exact⟨0,6,by omega,rfl,rfl,zaa (by simp[r1N,zfw]),zaa rfl⟩
  case round =>
   obtain⟨j,m,hj,rfl,rfl,hm,hB⟩:=hrel;by_cases hjn:j<n
   ·as_aux_lemma =>
    have y0:(0:Int)≤(j:Int):=by omega
    have y1:(j:Int)<(n:Int):=by omega
    have hj1:j+1≤n:=by omega
    have hjl:j<ts.length:=by rw[za HN];exact hjn
    obtain⟨b,off,rfl,q0,q1⟩:=(za HT).cell j hjl;have ST:=zaa (zks 6 ts j hjl);generalize ts[j]=t at *;obtain⟨s,x⟩:=t;dsimp only at *;have p1:wr.cell? ⟨b,off+j*2+1,none⟩=some (.float .f64 x):=by rw[za hB];exact q1
    have WC:=zaa (ze0 x wr);clear q0 q1;cases hw:wtB x with
    |true =>
     rw[hw] at WC ST;have HM:=zaa (show m=r1N 6 (ts.take (j+1)) by rw[za ST,if_pos rfl];exact za hm);clear hw ST hm
     go_wp2_with fail
     refine(za WC).mono ?_;rintro e w' ⟨rfl,rfl⟩
     go_wp2
     exact⟨⟨j+1,m,hj1,rfl,by go_num,HM,hB⟩,by simp[intOf];omega⟩
    |false =>
     rw[hw] at WC ST;have HM:=zaa (show 15=r1N 6 (ts.take (j+1)) by rw[za ST];rfl);clear hw ST hm
     go_wp2_with fail
     refine(za WC).mono ?_;rintro e w' ⟨rfl,rfl⟩
     go_wp2
     exact⟨⟨j+1,15,hj1,rfl,by go_num,HM,hB⟩,by simp[intOf];omega⟩
   ·as_aux_lemma =>
    have y1:¬ (j:Int)<(n:Int):=by omega
    have hm2:=zaa (show m=r1N 6 ts by rw[za hm,List.take_of_length_le (by rw[za HN];omega)]);rw[← za hm2] at HR;have hwr:=za hB;subst hwr;clear hm hB
    go_wp2_with fail
    go_loopw [3,5] (fun e i wq=>∃ (k m2:Nat),k≤n∧e=.int .i64 (m2:Int)∧i=.int .i64 (k:Int)∧Hid (m2=r2N m (ts.take k))∧Hid (wq=wr)) (fun _ i _=>n - (intOf i).toNat)
    case atStart=>exact⟨0,m,by omega,rfl,rfl,zaa (by simp[r2N,zlr]),zaa rfl⟩
    case round =>
     rename_i w0
     obtain⟨k,m2,hk,rfl,rfl,hm3,hB2⟩:=hrel;by_cases hkn:k<n
     ·have y2:(0:Int)≤(k:Int):=by omega
      have y3:(k:Int)<(n:Int):=by omega
      have hk1:k+1≤n:=by omega
      have hkl:k<ts.length:=by rw[za HN];exact hkn
      obtain⟨b,off,rfl,q0,q1⟩:=(za HT).cell k hkl;have ST:=zaa (zkt m ts k hkl);have hs:=za HZ _ (List.getElem_mem hkl);generalize ts[k]=t at *;obtain⟨s,x⟩:=t;dsimp only at *;have hwq:=za hB2;subst hwq;have AC:=zaa (zgn s (by simp only[maxLen];omega) wr);clear q1 hB2;cases hw:zdb s with
      |true =>
       rw[hw] at AC ST;have HM:=zaa (show m2=r2N m (ts.take (k+1)) by rw[za ST,if_pos rfl];exact za hm3);clear hw ST hm3
       go_wp2_with fail
       refine(za AC).mono ?_;rintro e w' ⟨rfl,rfl⟩
       go_wp2
       exact⟨⟨k+1,m2,hk1,rfl,by go_num,HM,by first|exact zaa rfl|trivial⟩,by simp[intOf];omega⟩
      |false =>
       rw[hw] at AC ST;have HM:=zaa (show 14=r2N m (ts.take (k+1)) by rw[za ST];rfl);clear hw ST hm3
       go_wp2_with fail
       refine(za AC).mono ?_;rintro e w' ⟨rfl,rfl⟩
       go_wp2
       exact⟨⟨k+1,14,hk1,rfl,by go_num,HM,by first|exact zaa rfl|trivial⟩,by simp[intOf];omega⟩
     ·have y3:¬ (k:Int)<(n:Int):=by omega
      have HM:=zaa (show rtN ts=m2 by rw[za HR,za hm3,List.take_of_length_le (by rw[za HN];omega)]);clear hm3 hm2
      go_wp2
      go_ret
      exact⟨by rw[za HM];rfl,za hB2⟩
 ·have i16:¬ (16:Int)<(n:Int):=by omega
  rw[if_neg h16] at HR;go_enter Tryz.func124,Tryz.ntmps124
  go_wp2_with fail
  go_loopw [3,4] (fun e i wr=>∃ (j m:Nat),j≤n∧e=.int .i64 (m:Int)∧i=.int .i64 (j:Int)∧Hid (m=r1N 0 (ts.take j))∧Hid (wr=w)) (fun _ i _=>n - (intOf i).toNat)
  case atStart=>exact⟨0,0,by omega,rfl,rfl,zaa (by simp[r1N,zfw]),zaa rfl⟩
  case round =>
   obtain⟨j,m,hj,rfl,rfl,hm,hB⟩:=hrel;by_cases hjn:j<n
   ·as_aux_lemma =>
    have y0:(0:Int)≤(j:Int):=by omega
    have y1:(j:Int)<(n:Int):=by omega
    have hj1:j+1≤n:=by omega
    have hjl:j<ts.length:=by rw[za HN];exact hjn
    obtain⟨b,off,rfl,q0,q1⟩:=(za HT).cell j hjl;have ST:=zaa (zks 0 ts j hjl);generalize ts[j]=t at *;obtain⟨s,x⟩:=t;dsimp only at *;have p1:wr.cell? ⟨b,off+j*2+1,none⟩=some (.float .f64 x):=by rw[za hB];exact q1
    have WC:=zaa (ze0 x wr);clear q0 q1;cases hw:wtB x with
    |true =>
     rw[hw] at WC ST;have HM:=zaa (show m=r1N 0 (ts.take (j+1)) by rw[za ST,if_pos rfl];exact za hm);clear hw ST hm
     go_wp2_with fail
     refine(za WC).mono ?_;rintro e w' ⟨rfl,rfl⟩
     go_wp2
     exact⟨⟨j+1,m,hj1,rfl,by go_num,HM,hB⟩,by simp[intOf];omega⟩
    |false =>
     rw[hw] at WC ST;have HM:=zaa (show 15=r1N 0 (ts.take (j+1)) by rw[za ST];rfl);clear hw ST hm
     go_wp2_with fail
     refine(za WC).mono ?_;rintro e w' ⟨rfl,rfl⟩
     go_wp2
     exact⟨⟨j+1,15,hj1,rfl,by go_num,HM,hB⟩,by simp[intOf];omega⟩
   ·as_aux_lemma =>
    have y1:¬ (j:Int)<(n:Int):=by omega
    have hm2:=zaa (show m=r1N 0 ts by rw[za hm,List.take_of_length_le (by rw[za HN];omega)]);rw[← za hm2] at HR;have hwr:=za hB;subst hwr;clear hm hB
    go_wp2_with fail
    go_loopw [3,5] (fun e i wq=>∃ (k m2:Nat),k≤n∧e=.int .i64 (m2:Int)∧i=.int .i64 (k:Int)∧Hid (m2=r2N m (ts.take k))∧Hid (wq=wr)) (fun _ i _=>n - (intOf i).toNat)
    case atStart=>exact⟨0,m,by omega,rfl,rfl,zaa (by simp[r2N,zlr]),zaa rfl⟩
    case round =>
     rename_i w0
     obtain⟨k,m2,hk,rfl,rfl,hm3,hB2⟩:=hrel;by_cases hkn:k<n
     ·have y2:(0:Int)≤(k:Int):=by omega
      have y3:(k:Int)<(n:Int):=by omega
      have hk1:k+1≤n:=by omega
      have hkl:k<ts.length:=by rw[za HN];exact hkn
      obtain⟨b,off,rfl,q0,q1⟩:=(za HT).cell k hkl;have ST:=zaa (zkt m ts k hkl);have hs:=za HZ _ (List.getElem_mem hkl);generalize ts[k]=t at *;obtain⟨s,x⟩:=t;dsimp only at *;have hwq:=za hB2;subst hwq;have AC:=zaa (zgn s (by simp only[maxLen];omega) wr);clear q1 hB2;cases hw:zdb s with
      |true =>
       rw[hw] at AC ST;have HM:=zaa (show m2=r2N m (ts.take (k+1)) by rw[za ST,if_pos rfl];exact za hm3);clear hw ST hm3
       go_wp2_with fail
       refine(za AC).mono ?_;rintro e w' ⟨rfl,rfl⟩
       go_wp2
       exact⟨⟨k+1,m2,hk1,rfl,by go_num,HM,by first|exact zaa rfl|trivial⟩,by simp[intOf];omega⟩
      |false =>
       rw[hw] at AC ST;have HM:=zaa (show 14=r2N m (ts.take (k+1)) by rw[za ST];rfl);clear hw ST hm3
       go_wp2_with fail
       refine(za AC).mono ?_;rintro e w' ⟨rfl,rfl⟩
       go_wp2
       exact⟨⟨k+1,14,hk1,rfl,by go_num,HM,by first|exact zaa rfl|trivial⟩,by simp[intOf];omega⟩
     ·have y3:¬ (k:Int)<(n:Int):=by omega
      have HM:=zaa (show rtN ts=m2 by rw[za HR,za hm3,List.take_of_length_le (by rw[za HN];omega)]);clear hm3 hm2
      go_wp2
      go_ret
      exact⟨by rw[za HM];rfl,za hB2⟩
theorem zn7 {c:Cmd} (h:zbe c=false):zam c=2:=by
 unfold zam;rw[h];rfl
theorem zki {c:Cmd} (u m:Bool) (h:zbe c=true) (hu:zbi c=u) (hm:zb8 c=(m&&zlr c.ts)):zam c=if u then (if m then rtN c.ts else 14) else 2:=by
 unfold zam rtN;rw[h,hu,hm];cases u <;> cases m <;> cases zlr c.ts <;> simp
theorem chk1 {c:Cmd} (h:zbe c=true) (ha:c.act=1):zam c=if emp c.host&&emp c.pre then (if zcq c.pool then rtN c.ts else 14) else 2:=by
 refine zki _ _ h ?_ ?_
 ·unfold zbi zbk emp;rw[ha];simp
 ·unfold zb8 zbk zlr;rw[ha];simp
theorem chk2 {c:Cmd} (h:zbe c=true) (ha:c.act=2):zam c=if emp c.host&&emp c.pre&&decide (c.ts.length=0) then (if zcq c.pool then rtN c.ts else 14) else 2:=by
 refine zki _ _ h ?_ ?_
 ·unfold zbi zbk emp;rw[ha];simp
 ·unfold zb8 zbk zlr;rw[ha];simp
theorem chk3 {c:Cmd} (h:zbe c=true) (ha:c.act=3):zam c=if decide (c.ts.length=0) then (if zcq c.pool&&(zbs c.host&&zc7 c.pre) then rtN c.ts else 14) else 2:=by
 refine zki _ _ h ?_ ?_
 ·unfold zbi zbk;rw[ha];simp
 ·unfold zb8 zbk zlr;rw[ha];cases zcq c.pool <;> simp
theorem chk4 {c:Cmd} (h:zbe c=true) (ha:c.act=4):zam c=if emp c.pool&&decide (c.ts.length=0) then (if zbs c.host&&zc7 c.pre then rtN c.ts else 14) else 2:=by
 refine zki _ _ h ?_ ?_
 ·unfold zbi zbk emp;rw[ha];simp
 ·unfold zb8 zbk zlr;rw[ha];simp
theorem zdj {c:Cmd} (h:zbe c=true):(1≤c.act∧c.act≤4)∧(0≤c.cli∧c.cli≤32)∧((c.cli=0∧c.seq=0)∨(0<c.cli∧1≤c.seq∧c.seq≤1099511627776))∧(-1≤c.exp∧c.exp≤1099511627775):=by
 unfold zbe at h;simp only[Bool.and_eq_true,decide_eq_true_eq] at h;obtain⟨⟨⟨h1,h2⟩,h3⟩,h4⟩:=h;refine⟨h1,h2,?_,h4⟩;split at h3
 ·exact .inl ⟨by assumption,of_decide_eq_true h3⟩
 ·exact .inr ⟨by omega,of_decide_eq_true h3⟩
theorem zhx (c:Cmd) (a:Option Addr) (tc:Nat) (w:World) (h:CmdAt w c a tc) (hB:zbe c=true) (ha:c.act=1):Calls Tryz.prog 69 #[zas c a tc] w fun e w'=>e=.returned (.int .i64 (zam c:Int))∧Below w.heap.size w w':=by
 have bX:=zaa (show Below w.heap.size w (w.alloc (.cells (zal c a tc) 33)) from(Below.refl _ _).alloc (Nat.le_refl _) _);have X1:=zaa (zad w (.cells (zal c a tc) 33));have RT:=zaa (zck (h.tgs.later (za bX)) c.ts.length tc rfl h.tn.1 h.tz);have h47:(140737488355328:Nat)≤maxLen:=by simp[maxLen]
 have NP:=zaa (fun W=>zbl c.pool (Nat.le_trans h.tl h47) W);have HP:=zaa (fun W=>zci c.host (Nat.le_trans h.th h47) W);have PP:=zaa (fun W=>zb9 c.pre (Nat.le_trans h.tp h47) W);have KK:=zaa (chk1 hB ha);have hn:=h.tn.1;have z1:=h.th;have z2:=h.tp;have z3:=h.tl;have e4:=zcb c.host;have e5:=zcb c.pre;have e6:=zcb c.pool;have nl:=zcs;simp only[maxLen] at hn;obtain⟨_,⟨b1,b2⟩,hcs,⟨b3,b4⟩⟩:=zdj hB;clear hB;clear h h47;unfold zas zal at *;generalize zam c=R at *;generalize rtN c.ts=rn at *;generalize emp c.host=x4 at *;generalize emp c.pre=x5 at *;generalize emp c.pool=x6 at *;generalize zcq c.pool=y1 at *;generalize zbs c.host=y2 at *;generalize zc7 c.pre=y3 at *;obtain⟨act,cli,seq,exp,host,pre,pool,ts⟩:=c;dsimp only at *;subst ha;generalize ts.length=tn at *;have k0:=zab (za X1) 0 (.int .i64 1) rfl;have k1:=zab (za X1) 1 (.int .i64 cli) rfl;have k2:=zab (za X1) 2 (.int .i64 seq) rfl;have k3:=zab (za X1) 3 (.int .i64 exp) rfl;have k4:=zab (za X1) 4 (.string host) rfl;have k5:=zab (za X1) 5 (.string pre) rfl;have k6:=zab (za X1) 6 (.string pool) rfl;have k7:=zab (za X1) 7 (.slice a tn tc) rfl;have n3:¬ cli<0:=by omega
 have n4:¬ 32<cli:=by omega
 have n5:¬ exp < -1:=by omega
 have n6:¬ 1099511627775<exp:=by omega
 rcases hcs with⟨rfl,rfl⟩|⟨c1,c2,c3⟩
 ·skip
  cases x4 with
  |false =>
   as_aux_lemma =>
   have HR:R=2:=(za KK)
   subst HR;clear KK X1;go_enter Tryz.func69,Tryz.ntmps69
   go_wp2
   go_ret
   exact⟨by first|rfl|(simp;done),za bX⟩
  |true =>
   cases x5 with
   |false =>
    as_aux_lemma =>
    have HR:R=2:=(za KK)
    subst HR;clear KK X1;go_enter Tryz.func69,Tryz.ntmps69
    go_wp2
    go_ret
    exact⟨by first|rfl|(simp;done),za bX⟩
   |true =>
    cases y1 with
    |false =>
     as_aux_lemma =>
     have HR:R=14:=(za KK)
     subst HR;clear KK X1;go_enter Tryz.func69,Tryz.ntmps69
     go_wp2_with fail
     refine(za NP _).mono ?_;rintro e w' ⟨rfl,rfl⟩
     go_wp2
     go_ret
     exact⟨by first|rfl|(simp;done),za bX⟩
    |true =>
     as_aux_lemma =>
     have HR:R=rn:=(za KK)
     subst HR;clear KK X1;go_enter Tryz.func69,Tryz.ntmps69
     go_wp2_with fail
     refine(za NP _).mono ?_;rintro e w' ⟨rfl,rfl⟩
     go_wp2_with fail
     refine(za RT).mono ?_;rintro e w' ⟨rfl,rfl⟩
     go_wp2
     go_ret
     exact⟨by first|rfl|(simp;done),za bX⟩
 ·have j7:(cli==0)=false:=by simp;omega
  have j7':¬ cli=0:=by omega
  have j8:¬ seq<1:=by omega
  have j9:¬ 1099511627776<seq:=by omega
  clear b1 b2 b3 b4 c2 c3;cases x4 with
  |false =>
   as_aux_lemma =>
   have HR:R=2:=(za KK)
   subst HR;clear KK X1;go_enter Tryz.func69,Tryz.ntmps69
   go_wp2
   go_ret
   exact⟨by first|rfl|(simp;done),za bX⟩
  |true =>
   cases x5 with
   |false =>
    as_aux_lemma =>
    have HR:R=2:=(za KK)
    subst HR;clear KK X1;go_enter Tryz.func69,Tryz.ntmps69
    go_wp2
    go_ret
    exact⟨by first|rfl|(simp;done),za bX⟩
   |true =>
    cases y1 with
    |false =>
     as_aux_lemma =>
     have HR:R=14:=(za KK)
     subst HR;clear KK X1;go_enter Tryz.func69,Tryz.ntmps69
     go_wp2_with fail
     refine(za NP _).mono ?_;rintro e w' ⟨rfl,rfl⟩
     go_wp2
     go_ret
     exact⟨by first|rfl|(simp;done),za bX⟩
    |true =>
     as_aux_lemma =>
     have HR:R=rn:=(za KK)
     subst HR;clear KK X1;go_enter Tryz.func69,Tryz.ntmps69
     go_wp2_with fail
     refine(za NP _).mono ?_;rintro e w' ⟨rfl,rfl⟩
     go_wp2_with fail
     refine(za RT).mono ?_;rintro e w' ⟨rfl,rfl⟩
     go_wp2
     go_ret
     exact⟨by first|rfl|(simp;done),za bX⟩
theorem zhy (c:Cmd) (a:Option Addr) (tc:Nat) (w:World) (h:CmdAt w c a tc) (hB:zbe c=true) (ha:c.act=2):Calls Tryz.prog 69 #[zas c a tc] w fun e w'=>e=.returned (.int .i64 (zam c:Int))∧Below w.heap.size w w':=by
 have bX:=zaa (show Below w.heap.size w (w.alloc (.cells (zal c a tc) 33)) from(Below.refl _ _).alloc (Nat.le_refl _) _);have X1:=zaa (zad w (.cells (zal c a tc) 33));have RT:=zaa (zck (h.tgs.later (za bX)) c.ts.length tc rfl h.tn.1 h.tz);have h47:(140737488355328:Nat)≤maxLen:=by simp[maxLen]
 have NP:=zaa (fun W=>zbl c.pool (Nat.le_trans h.tl h47) W);have HP:=zaa (fun W=>zci c.host (Nat.le_trans h.th h47) W);have PP:=zaa (fun W=>zb9 c.pre (Nat.le_trans h.tp h47) W);have KK:=zaa (chk2 hB ha);have hn:=h.tn.1;have z1:=h.th;have z2:=h.tp;have z3:=h.tl;have e4:=zcb c.host;have e5:=zcb c.pre;have e6:=zcb c.pool;have nl:=zcs;simp only[maxLen] at hn;obtain⟨_,⟨b1,b2⟩,hcs,⟨b3,b4⟩⟩:=zdj hB;clear hB;clear h h47;unfold zas zal at *;generalize zam c=R at *;generalize rtN c.ts=rn at *;generalize emp c.host=x4 at *;generalize emp c.pre=x5 at *;generalize emp c.pool=x6 at *;generalize zcq c.pool=y1 at *;generalize zbs c.host=y2 at *;generalize zc7 c.pre=y3 at *;obtain⟨act,cli,seq,exp,host,pre,pool,ts⟩:=c;dsimp only at *;subst ha;generalize ts.length=tn at *;have k0:=zab (za X1) 0 (.int .i64 2) rfl;have k1:=zab (za X1) 1 (.int .i64 cli) rfl;have k2:=zab (za X1) 2 (.int .i64 seq) rfl;have k3:=zab (za X1) 3 (.int .i64 exp) rfl;have k4:=zab (za X1) 4 (.string host) rfl;have k5:=zab (za X1) 5 (.string pre) rfl;have k6:=zab (za X1) 6 (.string pool) rfl;have k7:=zab (za X1) 7 (.slice a tn tc) rfl;have n3:¬ cli<0:=by omega
 have n4:¬ 32<cli:=by omega
 have n5:¬ exp < -1:=by omega
 have n6:¬ 1099511627775<exp:=by omega
 rcases hcs with⟨rfl,rfl⟩|⟨c1,c2,c3⟩
 ·skip
  by_cases hn0:tn=0
  ·subst hn0;cases x4 with
   |false =>
    as_aux_lemma =>
    have HR:R=2:=(za KK)
    subst HR;clear KK X1;go_enter Tryz.func69,Tryz.ntmps69
    go_wp2
    go_ret
    exact⟨by first|rfl|(simp;done),za bX⟩
   |true =>
    cases x5 with
    |false =>
     as_aux_lemma =>
     have HR:R=2:=(za KK)
     subst HR;clear KK X1;go_enter Tryz.func69,Tryz.ntmps69
     go_wp2
     go_ret
     exact⟨by first|rfl|(simp;done),za bX⟩
    |true =>
     cases y1 with
     |false =>
      as_aux_lemma =>
      have HR:R=14:=(za KK)
      subst HR;clear KK X1;go_enter Tryz.func69,Tryz.ntmps69
      go_wp2_with fail
      refine(za NP _).mono ?_;rintro e w' ⟨rfl,rfl⟩
      go_wp2
      go_ret
      exact⟨by first|rfl|(simp;done),za bX⟩
     |true =>
      as_aux_lemma =>
      have HR:R=rn:=(za KK)
      subst HR;clear KK X1;go_enter Tryz.func69,Tryz.ntmps69
      go_wp2_with fail
      refine(za NP _).mono ?_;rintro e w' ⟨rfl,rfl⟩
      go_wp2_with fail
      refine(za RT).mono ?_;rintro e w' ⟨rfl,rfl⟩
      go_wp2
      go_ret
      exact⟨by first|rfl|(simp;done),za bX⟩
  ·have hp:(0:Int)<(tn:Int):=by omega
   rw[show decide (tn=0)=false from decide_eq_false hn0,Bool.and_false] at KK;cases x4 with
   |false =>
    as_aux_lemma =>
    have HR:R=2:=(za KK)
    subst HR;clear KK X1;go_enter Tryz.func69,Tryz.ntmps69
    go_wp2
    go_ret
    exact⟨by first|rfl|(simp;done),za bX⟩
   |true =>
    cases x5 with
    |false =>
     as_aux_lemma =>
     have HR:R=2:=(za KK)
     subst HR;clear KK X1;go_enter Tryz.func69,Tryz.ntmps69
     go_wp2
     go_ret
     exact⟨by first|rfl|(simp;done),za bX⟩
    |true =>
     as_aux_lemma =>
     have HR:R=2:=(za KK)
     subst HR;clear KK X1;go_enter Tryz.func69,Tryz.ntmps69
     go_wp2
     go_ret
     exact⟨by first|rfl|(simp;done),za bX⟩
 ·have j7:(cli==0)=false:=by simp;omega
  have j7':¬ cli=0:=by omega
  have j8:¬ seq<1:=by omega
  have j9:¬ 1099511627776<seq:=by omega
  clear b1 b2 b3 b4 c2 c3;by_cases hn0:tn=0
  ·subst hn0;cases x4 with
   |false =>
    as_aux_lemma =>
    have HR:R=2:=(za KK)
    subst HR;clear KK X1;go_enter Tryz.func69,Tryz.ntmps69
    go_wp2
    go_ret
    exact⟨by first|rfl|(simp;done),za bX⟩
   |true =>
    cases x5 with
    |false =>
     as_aux_lemma =>
     have HR:R=2:=(za KK)
     subst HR;clear KK X1;go_enter Tryz.func69,Tryz.ntmps69
     go_wp2
     go_ret
     exact⟨by first|rfl|(simp;done),za bX⟩
    |true =>
     cases y1 with
     |false =>
      as_aux_lemma =>
      have HR:R=14:=(za KK)
      subst HR;clear KK X1;go_enter Tryz.func69,Tryz.ntmps69
      go_wp2_with fail
      refine(za NP _).mono ?_;rintro e w' ⟨rfl,rfl⟩
      go_wp2
      go_ret
      exact⟨by first|rfl|(simp;done),za bX⟩
     |true =>
      as_aux_lemma =>
      have HR:R=rn:=(za KK)
      subst HR;clear KK X1;go_enter Tryz.func69,Tryz.ntmps69
      go_wp2_with fail
      refine(za NP _).mono ?_;rintro e w' ⟨rfl,rfl⟩
      go_wp2_with fail
      refine(za RT).mono ?_;rintro e w' ⟨rfl,rfl⟩
      go_wp2
      go_ret
      exact⟨by first|rfl|(simp;done),za bX⟩
  ·have hp:(0:Int)<(tn:Int):=by omega
   rw[show decide (tn=0)=false from decide_eq_false hn0,Bool.and_false] at KK;cases x4 with
   |false =>
    as_aux_lemma =>
    have HR:R=2:=(za KK)
    subst HR;clear KK X1;go_enter Tryz.func69,Tryz.ntmps69
    go_wp2
    go_ret
    exact⟨by first|rfl|(simp;done),za bX⟩
   |true =>
    cases x5 with
    |false =>
     as_aux_lemma =>
     have HR:R=2:=(za KK)
     subst HR;clear KK X1;go_enter Tryz.func69,Tryz.ntmps69
     go_wp2
     go_ret
     exact⟨by first|rfl|(simp;done),za bX⟩
    |true =>
     as_aux_lemma =>
     have HR:R=2:=(za KK)
     subst HR;clear KK X1;go_enter Tryz.func69,Tryz.ntmps69
     go_wp2
     go_ret
     exact⟨by first|rfl|(simp;done),za bX⟩
end
end Go.Proofs.YtjcjleaicjhpeaaGreatDoor
