/- Conf: the document's words: letters, PoolName, seen, Addr, Weight. -/
import Derived.Test.YtjcjleaicjhpeaaGreatDoorB01
import Derived.Test.YtjcjleaicjhpeaaGreatDoorB04
import Derived.Test.YtjcjleaicjhpeaaGreatDoorB06
import Derived.Test.YtjcjleaicjhpeaaGreatDoorB20
import Derived.Test.YtjcjleaicjhpeaaGreatDoorB23
import Derived.Test.YtjcjleaicjhpeaaGreatDoorB24
set_option linter.unusedVariables false
set_option maxRecDepth 20000
set_option maxHeartbeats 16000000
namespace Go.Proofs.YtjcjleaicjhpeaaGreatDoor
section
open Go.ChangeShapes Go.WideShapes Go.ChangeAt Go.RowKit
theorem zdp (s:ByteArray) (j:Nat) (h:j<s.size):s.data.toList.drop j=(s[j]'h)::s.data.toList.drop (j+1):=by
 rw[List.drop_eq_getElem_cons (by simpa using h)];simp;rfl
theorem zez (s:ByteArray) (j:Nat) (h:¬ j<s.size):s.data.toList.drop j=[]:=List.drop_of_length_le (by simp;omega)
def zdl (q:UInt8→Bool) (l:List UInt8):Bool:=l.all q
def zhu (pt:Bool) (c:UInt8):Bool:=zfk c||(pt&&decide (c.toNat=46))
theorem zpb:zhu false=zfk:=by funext c;simp[zhu]
theorem zga (s:ByteArray) (pt:Bool) (hs:s.size≤maxLen) (w:World):Calls Tryz.prog 52 #[.string s,.bool pt] w fun e w'=>e=.returned (.bool (zdl (zhu pt) s.data.toList))∧w'=w:=by
 simp only[maxLen] at hs;go_enter Tryz.func52,Tryz.ntmps52
 go_wp2
 go_loopw [5,6,7] (fun i _ _ wr=>∃ j:Nat,i=.int .i64 (j:Int)∧j≤s.size∧Hid (zdl (zhu pt) (s.data.toList.drop j)=zdl (zhu pt) s.data.toList)∧Hid (wr=w)) (fun i _ _ _=>s.size - (intOf i).toNat)
 case atStart=>exact⟨0,rfl,by omega,zaa rfl,zaa rfl⟩
 case round =>
  obtain⟨j,rfl,hj,hE,hB⟩:=hrel;by_cases h:j<s.size
  ·have hE2:=zaa (show zdl (zhu pt) (s.data.toList.drop j)=(zhu pt (s[j]'h)&&zdl (zhu pt) (s.data.toList.drop (j+1))) by rw[zdp s j h];rfl);generalize hx:(s[j]'h)=x at *;have hx2:∀ hh,(s[j]'hh)=x:=fun _=>hx;have hw:IntKind.i64.wrap ((j:Int)+1)=((j+1:Nat):Int):=by rw[IntKind.wrap_i64];omega
   have hlt:(j:Int)<(s.size:Int):=by omega
   have hn256:x.toNat<256:=x.toNat_lt;have HL:=zaa (show zhu pt x=((decide (97≤x.toNat)&&decide (x.toNat≤122))||((decide (48≤x.toNat)&&decide (x.toNat≤57))||decide (x.toNat=45))||(pt&&decide (x.toNat=46))) from rfl);generalize zhu pt x=q at *;generalize hn:x.toNat=n at *;have done:q=true→Hid (zdl (zhu pt) (s.data.toList.drop (j+1))=zdl (zhu pt) s.data.toList):=fun hq=>by rw[← za hE,za hE2,hq];exact zaa rfl
   have none:q=false→Hid (zdl (zhu pt) s.data.toList=false):=fun hq=>by rw[← za hE,za hE2,hq];exact zaa rfl
   have D:=zaa done;have N:=zaa none;clear done none hx;by_cases h1:97≤n
   ·have i1:(97:Int)≤(n:Int):=by omega
    by_cases h2:n≤122
    ·have i2:(n:Int)≤122:=by omega
     have HQ:=(za D (by rw[za HL];simp <;> omega))
     clear D N HL hn256
     go_wp2
     exact⟨⟨j+1,by go_num,by omega,HQ,hB⟩,by simp[intOf];omega⟩
    ·have i2:¬ (n:Int)≤122:=by omega
     have i3:(48:Int)≤(n:Int):=by omega
     have i4:¬ (n:Int)≤57:=by omega
     have i5:¬ (n:Int)=45:=by omega
     have i6:¬ (n:Int)=46:=by omega
     have j5:((n:Int)==45)=false:=by simp;omega
     have j6:((n:Int)==46)=false:=by simp;omega
     cases pt with
     |true =>
      have HQ:=(za N (by rw[za HL];simp <;> omega))
      clear D N HL hn256
      go_wp2
      go_ret
      exact⟨by first|(rw[za HQ];done)|(rw[za HQ];rfl),za hB⟩
     |false =>
      have HQ:=(za N (by rw[za HL];simp <;> omega))
      clear D N HL hn256
      go_wp2
      go_ret
      exact⟨by first|(rw[za HQ];done)|(rw[za HQ];rfl),za hB⟩
   ·have i1:¬ (97:Int)≤(n:Int):=by omega
    by_cases h3:48≤n
    ·have i3:(48:Int)≤(n:Int):=by omega
     by_cases h4:n≤57
     ·have i4:(n:Int)≤57:=by omega
      have HQ:=(za D (by rw[za HL];simp <;> omega))
      clear D N HL hn256
      go_wp2
      exact⟨⟨j+1,by go_num,by omega,HQ,hB⟩,by simp[intOf];omega⟩
     ·have i4:¬ (n:Int)≤57:=by omega
      have i5:¬ (n:Int)=45:=by omega
      have i6:¬ (n:Int)=46:=by omega
      have j5:((n:Int)==45)=false:=by simp;omega
      have j6:((n:Int)==46)=false:=by simp;omega
      cases pt with
      |true =>
       have HQ:=(za N (by rw[za HL];simp <;> omega))
       clear D N HL hn256
       go_wp2
       go_ret
       exact⟨by first|(rw[za HQ];done)|(rw[za HQ];rfl),za hB⟩
      |false =>
       have HQ:=(za N (by rw[za HL];simp <;> omega))
       clear D N HL hn256
       go_wp2
       go_ret
       exact⟨by first|(rw[za HQ];done)|(rw[za HQ];rfl),za hB⟩
    ·have i3:¬ (48:Int)≤(n:Int):=by omega
     by_cases h5:n=45
     ·subst h5;have HQ:=(za D (by rw[za HL];simp <;> omega))
      clear D N HL hn256
      go_wp2
      exact⟨⟨j+1,by go_num,by omega,HQ,hB⟩,by simp[intOf];omega⟩
     ·have i5:¬ (n:Int)=45:=by omega
      have j5:((n:Int)==45)=false:=by simp;omega
      by_cases h6:n=46
      ·subst h6;cases pt with
       |true =>
        have HQ:=(za D (by rw[za HL];simp <;> omega))
        clear D N HL hn256
        go_wp2
        exact⟨⟨j+1,by go_num,by omega,HQ,hB⟩,by simp[intOf];omega⟩
       |false =>
        have HQ:=(za N (by rw[za HL];simp <;> omega))
        clear D N HL hn256
        go_wp2
        go_ret
        exact⟨by first|(rw[za HQ];done)|(rw[za HQ];rfl),za hB⟩
      ·have i6:¬ (n:Int)=46:=by omega
       have j6:((n:Int)==46)=false:=by simp;omega
       cases pt with
       |true =>
        have HQ:=(za N (by rw[za HL];simp <;> omega))
        clear D N HL hn256
        go_wp2
        go_ret
        exact⟨by first|(rw[za HQ];done)|(rw[za HQ];rfl),za hB⟩
       |false =>
        have HQ:=(za N (by rw[za HL];simp <;> omega))
        clear D N HL hn256
        go_wp2
        go_ret
        exact⟨by first|(rw[za HQ];done)|(rw[za HQ];rfl),za hB⟩
  ·have hE3:=zaa (show zdl (zhu pt) s.data.toList=true by rw[← za hE,zez s j h];rfl);have hlt:¬ (j:Int)<(s.size:Int):=by omega
   go_wp2
   go_ret
   exact⟨by first|(rw[za hE3];done)|(rw[za hE3];rfl),za hB⟩
theorem zjz (s:ByteArray) (hs:s.size≤maxLen) (w:World):Calls Tryz.prog 53 #[.string s] w fun e w'=>e=.returned (.bool (zdl zcv s.data.toList))∧w'=w:=by
 simp only[maxLen] at hs;go_enter Tryz.func53,Tryz.ntmps53
 go_wp2
 go_loopw [3] (fun i wr=>∃ j:Nat,i=.int .i64 (j:Int)∧j≤s.size∧Hid (zdl zcv (s.data.toList.drop j)=zdl zcv s.data.toList)∧Hid (wr=w)) (fun i _=>s.size - (intOf i).toNat)
 case atStart=>exact⟨0,rfl,by omega,zaa rfl,zaa rfl⟩
 case round =>
  obtain⟨j,rfl,hj,hE,hB⟩:=hrel;by_cases h:j<s.size
  ·have hE2:=zaa (show zdl zcv (s.data.toList.drop j)=(zcv (s[j]'h)&&zdl zcv (s.data.toList.drop (j+1))) by rw[zdp s j h];rfl);generalize hx:(s[j]'h)=x at *;have hx2:∀ hh,(s[j]'hh)=x:=fun _=>hx;have hw:IntKind.i64.wrap ((j:Int)+1)=((j+1:Nat):Int):=by rw[IntKind.wrap_i64];omega
   have hlt:(j:Int)<(s.size:Int):=by omega
   have HL:=zaa (show zcv x=(decide (33≤x.toNat)&&decide (x.toNat≤126)) from rfl);generalize zcv x=q at *;generalize hn:x.toNat=n at *;have D:=zaa (show q=true→Hid (zdl zcv (s.data.toList.drop (j+1))=zdl zcv s.data.toList) from fun hq=>by rw[← za hE,za hE2,hq];exact zaa rfl);have N:=zaa (show q=false→Hid (zdl zcv s.data.toList=false) from fun hq=>by rw[← za hE,za hE2,hq];exact zaa rfl);clear hx;by_cases h1:n<33
   ·have i1:(n:Int)<33:=by omega
    have HQ:=(za N (by rw[za HL];simp <;> omega))
    clear D N HL
    go_wp2
    go_ret
    exact⟨by first|(rw[za HQ];done)|(rw[za HQ];rfl),za hB⟩
   ·have i1:¬ (n:Int)<33:=by omega
    by_cases h2:126<n
    ·have i2:(126:Int)<(n:Int):=by omega
     have HQ:=(za N (by rw[za HL];simp <;> omega))
     clear D N HL
     go_wp2
     go_ret
     exact⟨by first|(rw[za HQ];done)|(rw[za HQ];rfl),za hB⟩
    ·have i2:¬ (126:Int)<(n:Int):=by omega
     have HQ:=(za D (by rw[za HL];simp <;> omega))
     clear D N HL
     go_wp2
     exact⟨⟨j+1,by go_num,by omega,HQ,hB⟩,by simp[intOf];omega⟩
  ·have hE3:=zaa (show zdl zcv s.data.toList=true by rw[← za hE,zez s j h];rfl);have hlt:¬ (j:Int)<(s.size:Int):=by omega
   go_wp2
   go_ret
   exact⟨by first|(rw[za hE3];done)|(rw[za hE3];rfl),za hB⟩
theorem zfu (x:Nat) (w:World):Calls Tryz.prog 164 #[.float .f64 x] w fun e w'=>e=.returned (.bool (wtB x))∧w'=w:=by
 have hb:=zd4 x;unfold wtB;by_cases h:x<9218868437227405312
 ·have hi:(x:Int)<9218868437227405312:=by omega
  rw[decide_eq_true h];go_enter Tryz.func164,Tryz.ntmps164
  go_wp2
  go_ret
  exact⟨rfl,rfl⟩
 ·have hi:¬ (x:Int)<9218868437227405312:=by omega
  rw[decide_eq_false h];go_enter Tryz.func164,Tryz.ntmps164
  go_wp2
  go_ret
  exact⟨rfl,rfl⟩
theorem za0 (s:ByteArray) (hs:s.size≤maxLen) (w:World):Calls Tryz.prog 123 #[.string s] w fun e w'=>e=.returned (.bool (zdy s))∧w'=w:=by
 have CC:=zaa (show Calls Tryz.prog 52 #[.string s,.bool false] w fun e w'=>e=.returned (.bool (zdl zfk s.data.toList))∧w'=w from by have:=zga s false hs w;rw[zpb] at this;exact this);have HE:=zaa (show zdy s=(decide (1≤s.size)&&decide (s.size≤64)&&zdl zfk s.data.toList) from rfl);simp only[maxLen] at hs;generalize zdl zfk s.data.toList=b at *;by_cases h1:1≤s.size
 ·have i1:(1:Int)≤(s.size:Int):=by omega
  by_cases h2:s.size≤64
  ·have i2:(s.size:Int)≤64:=by omega
   rw[decide_eq_true h1,decide_eq_true h2,Bool.true_and,Bool.true_and] at HE;rw[za HE];go_enter Tryz.func123,Tryz.ntmps123
   go_wp2_with fail
   refine(za CC).mono ?_;rintro e w' ⟨rfl,rfl⟩
   go_wp2
   go_ret
   exact⟨rfl,rfl⟩
  ·have i2:¬ (s.size:Int)≤64:=by omega
   rw[decide_eq_false h2,Bool.and_false,Bool.false_and] at HE;rw[za HE];go_enter Tryz.func123,Tryz.ntmps123
   go_wp2
   go_ret
   exact⟨rfl,rfl⟩
 ·have i1:¬ (1:Int)≤(s.size:Int):=by omega
  rw[decide_eq_false h1,Bool.false_and,Bool.false_and] at HE;rw[za HE];go_enter Tryz.func123,Tryz.ntmps123
  go_wp2
  go_ret
  exact⟨rfl,rfl⟩
theorem zh1 (s:ByteArray) (hs:s.size≤maxLen) (w:World):Calls Tryz.prog 165 #[.string s] w fun e w'=>e=.returned (.bool (zcf s))∧w'=w:=by
 have CC:=zaa (zjz s hs w);have HE:=zaa (show zcf s=(decide (1≤s.size)&&decide (s.size≤64)&&zdl zcv s.data.toList) from rfl);simp only[maxLen] at hs;generalize zdl zcv s.data.toList=b at *;by_cases h1:1≤s.size
 ·have i1:(1:Int)≤(s.size:Int):=by omega
  by_cases h2:s.size≤64
  ·have i2:(s.size:Int)≤64:=by omega
   rw[decide_eq_true h1,decide_eq_true h2,Bool.true_and,Bool.true_and] at HE;rw[za HE];go_enter Tryz.func165,Tryz.ntmps165
   go_wp2_with fail
   refine(za CC).mono ?_;rintro e w' ⟨rfl,rfl⟩
   go_wp2
   go_ret
   exact⟨rfl,rfl⟩
  ·have i2:¬ (s.size:Int)≤64:=by omega
   rw[decide_eq_false h2,Bool.and_false,Bool.false_and] at HE;rw[za HE];go_enter Tryz.func165,Tryz.ntmps165
   go_wp2
   go_ret
   exact⟨rfl,rfl⟩
 ·have i1:¬ (1:Int)≤(s.size:Int):=by omega
  rw[decide_eq_false h1,Bool.false_and,Bool.false_and] at HE;rw[za HE];go_enter Tryz.func165,Tryz.ntmps165
  go_wp2
  go_ret
  exact⟨rfl,rfl⟩
def noQ (c:UInt8):Bool:=!decide (c.toNat=63) && !decide (c.toNat=35)
theorem zn7 (p q:UInt8→Bool):∀ l:List UInt8,l.all (fun c=>p c&&q c)=(l.all p&&l.all q)
 |[]=>rfl
 |c::l=>by
  simp only[List.all_cons,zn7 p q l];cases p c <;> cases q c <;> simp
theorem zse (l:List UInt8):l.all znh=(zdl zcv l&&zdl noQ l):=by
 rw[show znh=fun c=>zcv c&&noQ c from rfl];exact zn7 _ _ l
def zql (s:ByteArray):Bool:=s.data.toList.head? == some 47
theorem zt (s:ByteArray) (h:0<s.size):zql s=decide ((s[0]'h).toNat=47):=by
 unfold zql;have h1:=zdp s 0 h;rw[List.drop_zero] at h1;rw[h1];simp only[List.head?_cons];generalize (s[0]'h)=x;rw[Bool.eq_iff_iff,beq_iff_eq,decide_eq_true_eq,Option.some.injEq];constructor
 ·intro e;rw[e];rfl
 ·intro e;exact UInt8.toNat_inj.1 e
theorem zsd (s:ByteArray):zc5 s=(zdl noQ s.data.toList&&(decide (1≤s.size)&&(decide (s.size≤128)&&(zql s&&zdl zcv s.data.toList)))):=by
 unfold zc5 ze3;rw[zse];unfold zql;cases zdl zcv s.data.toList <;> cases zdl noQ s.data.toList <;> cases decide (1≤s.size) <;> cases decide (s.size≤128) <;> cases (s.data.toList.head? == some 47) <;> rfl
theorem za1 (s:ByteArray) (hs:s.size≤maxLen) (w:World):Calls Tryz.prog 25 #[.string s] w fun e w'=>e=.returned (.bool (zc5 s))∧w'=w:=by
 have SC:=zaa (zjz s hs w);have PE:=zaa (zsd s);have HH:=zaa (zt s);simp only[maxLen] at hs;generalize zdl zcv s.data.toList=sb at *;generalize zql s=hb at *;generalize zc5 s=R at *;go_enter Tryz.func25,Tryz.ntmps25
 go_wp2
 go_loopw [3] (fun i wr=>∃ j:Nat,i=.int .i64 (j:Int)∧j≤s.size∧Hid (zdl noQ (s.data.toList.drop j)=zdl noQ s.data.toList)∧Hid (wr=w)) (fun i _=>s.size - (intOf i).toNat)
 case atStart=>exact⟨0,rfl,by omega,zaa rfl,zaa rfl⟩
 case round =>
  obtain⟨j,rfl,hj,hE,hB⟩:=hrel;by_cases h:j<s.size
  ·as_aux_lemma =>
   have hE2:=zaa (show zdl noQ (s.data.toList.drop j)=(noQ (s[j]'h)&&zdl noQ (s.data.toList.drop (j+1))) by rw[zdp s j h];rfl);generalize hx:(s[j]'h)=x at *;have hx2:∀ hh,(s[j]'hh)=x:=fun _=>hx;have hw:IntKind.i64.wrap ((j:Int)+1)=((j+1:Nat):Int):=by rw[IntKind.wrap_i64];omega
   have hlt:(j:Int)<(s.size:Int):=by omega
   have HL:=zaa (show noQ x=(!decide (x.toNat=63) && !decide (x.toNat=35)) from rfl);generalize noQ x=q at *;generalize hn:x.toNat=n at *;have D:=zaa (show q=true→Hid (zdl noQ (s.data.toList.drop (j+1))=zdl noQ s.data.toList) from fun hq=>by rw[← za hE,za hE2,hq];exact zaa rfl)
   have N:=zaa (show q=false→Hid (R=false) from fun hq=>by
    have:zdl noQ s.data.toList=false:=by rw[← za hE,za hE2,hq];rfl
    rw[za PE,this];exact zaa rfl)
   clear hx SC PE HH;by_cases h1:n=63
   ·have HQ:=(za N (by rw[za HL];simp[h1]))
    have h1':(n:Int)=63:=by omega
    subst h1;clear D N HL
    go_wp2
    go_ret
    exact⟨by first|(rw[za HQ];done)|(rw[za HQ];rfl),za hB⟩
   ·have i1:¬ (n:Int)=63:=by omega
    have i1':((n:Int)==63)=false:=by simp;omega
    by_cases h2:n=35
    ·have HQ:=(za N (by rw[za HL];simp[h2]))
     subst h2;clear D N HL
     go_wp2
     go_ret
     exact⟨by first|(rw[za HQ];done)|(rw[za HQ];rfl),za hB⟩
    ·have i2:¬ (n:Int)=35:=by omega
     have i2':((n:Int)==35)=false:=by simp;omega
     have HQ:=(za D (by rw[za HL];simp[h1,h2]))
     clear D N HL
     go_wp2
     exact⟨⟨j+1,by go_num,by omega,HQ,hB⟩,by simp[intOf];omega⟩
  ·as_aux_lemma =>
   have hE3:zdl noQ s.data.toList=true:=by rw[← za hE,zez s j h];rfl
   rw[hE3,Bool.true_and] at PE;have hlt:¬ (j:Int)<(s.size:Int):=by omega
   have hwr:=za hB;subst hwr;clear hE hB hE3;by_cases h1:1≤s.size
   ·have i1:(1:Int)≤(s.size:Int):=by omega
    by_cases h2:s.size≤128
    ·have i2:(s.size:Int)≤128:=by omega
     have h0:0<s.size:=h1;have H0:=zaa (za HH h0);generalize hx:(s[0]'h0)=x at *;have hx2:∀ hh,(s[0]'hh)=x:=fun _=>hx;generalize hn:x.toNat=n at *;rw[decide_eq_true h1,decide_eq_true h2,Bool.true_and,Bool.true_and] at PE;have z0:(0:Int)<(s.size:Int):=by omega
     clear hx HH;by_cases h3:n=47
     ·have i3:(n:Int)=47:=by omega
      rw[show hb=true by rw[za H0];exact decide_eq_true h3,Bool.true_and] at PE;subst h3;clear H0
      go_wp2_with fail
      refine(za SC).mono ?_;rintro e w' ⟨rfl,rfl⟩
      go_wp2
      go_ret
      exact⟨by first|(rw[za PE];done)|(rw[za PE];rfl),rfl⟩
     ·have i3:¬ (n:Int)=47:=by omega
      have i3':((n:Int)==47)=false:=by simp;omega
      rw[show hb=false by rw[za H0];exact decide_eq_false h3,Bool.false_and] at PE;clear H0
      go_wp2
      go_ret
      exact⟨by first|(rw[za PE];done)|(rw[za PE];rfl),rfl⟩
    ·have i2:¬ (s.size:Int)≤128:=by omega
     rw[decide_eq_false h2,Bool.false_and,Bool.and_false] at PE;clear HH
     go_wp2
     go_ret
     exact⟨by first|(rw[za PE];done)|(rw[za PE];rfl),rfl⟩
   ·have i1:¬ (1:Int)≤(s.size:Int):=by omega
    rw[decide_eq_false h1,Bool.false_and] at PE;clear HH
    go_wp2
    go_ret
    exact⟨by first|(rw[za PE];done)|(rw[za PE];rfl),rfl⟩
def zrt:Bool→List UInt8→Bool
 |_,[]=>true
 |p,c::r=>!(p&&decide (c.toNat=46))&&zrt (decide (c.toNat=46)) r
def zr4 (b:Bool) (l:List UInt8):Bool:=match l.getLast? with
 |none=>b
 |some c=>!decide (c.toNat=46)
theorem is46 (c:UInt8):(c=46)=(c.toNat=46):=propext ⟨fun e=>by rw[e];rfl,fun e=>UInt8.toNat_inj.1 e⟩
theorem zqg (b:Bool) (c:UInt8) (l:List UInt8):zr4 b (c::l)=zr4 (!decide (c.toNat=46)) l:=by
 cases l with
 |nil=>rfl
 |cons x r=>unfold zr4;rw[List.getLast?_cons_cons];simp[List.getLast?_cons]
theorem zkb:∀ (l:List UInt8) (b:Bool),zg b l=(zdl (zhu true) l&&(zrt (!b) l&&zr4 b l))
 |[],b=>by simp[zg,zdl,zrt,zr4]
 |c::l,b=>by
  unfold zg;rw[zqg];rw[show zdl (zhu true) (c::l)=(zhu true c&&zdl (zhu true) l) from rfl,show zrt (!b) (c::l)=(!((!b)&&decide (c.toNat=46))&&zrt (decide (c.toNat=46)) l) from rfl];by_cases h:c.toNat=46
  ·rw[if_pos ((is46 c).mpr h),zkb l false,decide_eq_true h];have:zhu true c=true:=by unfold zhu;rw[decide_eq_true h];simp
   rw[this];cases b <;> simp
  ·rw[if_neg (fun e=>h ((is46 c).mp e)),zkb l true,decide_eq_false h];have:zhu true c=zfk c:=by unfold zhu;rw[decide_eq_false h];simp
   rw[this];cases b <;> cases zfk c <;> simp
theorem zpk (s:ByteArray) (h:0<s.size) (p:Bool):zrt p s.data.toList=(!(p&&decide ((s[0]'h).toNat=46))&&zrt (decide ((s[0]'h).toNat=46)) (s.data.toList.drop 1)):=by
 have h1:=zdp s 0 h;rw[List.drop_zero] at h1
 conv=>lhs;rw[h1]
 rfl
theorem zqh (s:ByteArray) (h:0<s.size) (b:Bool):zr4 b s.data.toList = !decide ((s[s.size - 1]'(by omega)).toNat=46):=by
 have h1:=zdp s (s.size - 1) (by omega);rw[show s.size - 1+1=s.size by omega,zez s s.size (by omega)] at h1;have h2:s.data.toList=s.data.toList.take (s.size - 1)++[s[s.size - 1]'(by omega)]:=by rw[← h1,List.take_append_drop]
 unfold zr4;rw[h2,List.getLast?_append];simp
theorem zo (s:ByteArray):zbw s=(decide (s.size≤64)&&(zdl (zhu true) s.data.toList&&(zrt true s.data.toList&&zr4 false s.data.toList))):=by
 unfold zbw;rw[zkb];rfl
theorem zka (s:ByteArray) (k:Nat) (h:k<s.size):s.data.toList.getD k 0=s[k]'h:=by
 have h1:=zdp s k h;rw[List.getD_eq_getElem?_getD];have h2:s.data.toList[k]? = some (s[k]'h):=by
  have:=congrArg List.head? h1;rw[List.head?_drop] at this;exact this
 rw[h2];rfl
def dd (s:ByteArray) (j:Nat):Bool:=zrt (decide ((s.data.toList.getD (j - 1) 0).toNat=46)) (s.data.toList.drop j)
theorem zs9 (s:ByteArray) (j:Nat) (h:j<s.size):dd s j=(!(decide ((s[j - 1]'(by omega)).toNat=46)&&decide ((s[j]'h).toNat=46))&&dd s (j+1)):=by
 unfold dd;rw[zka s (j - 1) (by omega),zdp s j h,Nat.add_sub_cancel,zka s j h];rfl
theorem zt9 (s:ByteArray) (j:Nat) (h:¬ j<s.size):dd s j=true:=by
 unfold dd;rw[zez s j h];rfl
theorem zu (s:ByteArray) (h:0<s.size):dd s 1=zrt (decide ((s[0]'h).toNat=46)) (s.data.toList.drop 1):=by
 unfold dd;rw[zka s 0 h]
theorem za8 (s:ByteArray) (hs:s.size≤maxLen) (w:World):Calls Tryz.prog 24 #[.string s] w fun e w'=>e=.returned (.bool (zbw s))∧w'=w:=by
 have LC:=zaa (zga s true hs w);have PE:=zaa (zo s);simp only[maxLen] at hs;generalize zdl (zhu true) s.data.toList=lb at *;by_cases h1:s.size<1
 ·as_aux_lemma =>
  have i1:(s.size:Int)<1:=by omega
  have e0:s.data.toList=[]:=(ztu s).1 (by omega);have HR:zbw s=false:=by rw[zo,e0];simp[zr4]
  clear e0 PE LC;generalize zbw s=R at *;subst HR;go_enter Tryz.func24,Tryz.ntmps24
  go_wp2
  go_ret
  exact⟨rfl,rfl⟩
 ·have i1:¬ (s.size:Int)<1:=by omega
  have h0:0<s.size:=by omega
  by_cases h2:64<s.size
  ·as_aux_lemma =>
   have i2:(64:Int)<(s.size:Int):=by omega
   rw[decide_eq_false (by omega),Bool.false_and] at PE;generalize zbw s=R at *;have HR:=za PE;subst HR;clear LC PE;go_enter Tryz.func24,Tryz.ntmps24
   go_wp2
   go_ret
   exact⟨rfl,rfl⟩
  ·have i2:¬ (64:Int)<(s.size:Int):=by omega
   rw[decide_eq_true (show s.size≤64 by omega),Bool.true_and,zpk s h0,← zu s h0,zqh s h0] at PE;have DO:=zaa (zs9 s);have z0:(0:Int)<(s.size:Int):=by omega
   have zl:(0:Int)≤(s.size:Int) - 1:=by omega
   have zl2:(s.size:Int) - 1<(s.size:Int):=by omega
   have hwl:IntKind.i64.wrap ((s.size:Int) - 1)=((s.size - 1:Nat):Int):=by rw[IntKind.wrap_i64];omega
   have zl3:((s.size - 1:Nat):Int)<(s.size:Int):=by omega
   generalize hx:(s[0]'h0)=x at *;have hx2:∀ hh,(s[0]'hh)=x:=fun _=>hx;generalize hy:(s[s.size - 1]'(by omega))=y at *;have hy2:∀ hh,(s[s.size - 1]'hh)=y:=fun _=>hy;generalize hxn:x.toNat=xn at *;generalize hyn:y.toNat=yn at *;clear hx hy;cases lb with
   |false =>
    as_aux_lemma =>
    have HR:zbw s=false:=by rw[za PE];simp
    generalize zbw s=R at *;subst HR;clear PE DO;go_enter Tryz.func24,Tryz.ntmps24
    go_wp2_with fail
    refine(za LC).mono ?_;rintro e w' ⟨rfl,rfl⟩
    go_wp2
    go_ret
    exact⟨rfl,rfl⟩
   |true =>
    by_cases h3:xn=46
    ·as_aux_lemma =>
     subst h3;have HR:zbw s=false:=by rw[za PE];simp
     generalize zbw s=R at *;subst HR;clear PE DO;go_enter Tryz.func24,Tryz.ntmps24
     go_wp2_with fail
     refine(za LC).mono ?_;rintro e w' ⟨rfl,rfl⟩
     go_wp2
     go_ret
     exact⟨rfl,rfl⟩
    ·have i3:¬ (xn:Int)=46:=by omega
     have i3':((xn:Int)==46)=false:=by simp;omega
     by_cases h4:yn=46
     ·as_aux_lemma =>
      subst h4;have HR:zbw s=false:=by rw[za PE];simp
      generalize zbw s=R at *;subst HR;clear PE DO;go_enter Tryz.func24,Tryz.ntmps24
      go_wp2_with fail
      refine(za LC).mono ?_;rintro e w' ⟨rfl,rfl⟩
      go_wp2
      go_ret
      exact⟨rfl,rfl⟩
     ·as_aux_lemma =>
      have i4:¬ (yn:Int)=46:=by omega
      have i4':((yn:Int)==46)=false:=by simp;omega
      have HR:=zaa (show zbw s=dd s 1 by rw[za PE];simp[h3,h4]);generalize zbw s=R at *;clear PE h3 h4;go_enter Tryz.func24,Tryz.ntmps24
      go_wp2_with fail
      refine(za LC).mono ?_;rintro e w' ⟨rfl,rfl⟩
      go_wp2_with fail
      go_loopw [3] (fun i wr=>∃ j:Nat,i=.int .i64 (j:Int)∧1≤j∧j≤s.size∧Hid (dd s j=R)∧Hid (wr=w')) (fun i _=>s.size - (intOf i).toNat)
      case atStart=>exact⟨1,rfl,by omega,by omega,zaa (za HR).symm,zaa rfl⟩
      case round =>
       obtain⟨j,rfl,hj1,hj,hE,hB⟩:=hrel;by_cases h:j<s.size
       ·have hE2:=zaa (za DO j h);have hp:j - 1<s.size:=by omega
        generalize hz:(s[j]'h)=z at *;have hz2:∀ hh,(s[j]'hh)=z:=fun _=>hz;generalize hq:(s[j - 1]'hp)=zp at *;have hq2:∀ hh,(s[j - 1]'hh)=zp:=fun _=>hq;have hw:IntKind.i64.wrap ((j:Int)+1)=((j+1:Nat):Int):=by rw[IntKind.wrap_i64];omega
        have hwm:IntKind.i64.wrap ((j:Int) - 1)=((j - 1:Nat):Int):=by rw[IntKind.wrap_i64];omega
        have hlt:(j:Int)<(s.size:Int):=by omega
        have hlp:((j - 1:Nat):Int)<(s.size:Int):=by omega
        generalize hzn:z.toNat=zn at *;generalize hqn:zp.toNat=qn at *;clear hz hq;by_cases g1:zn=46
        ·subst g1;by_cases g2:qn=46
         ·subst g2;have HF:=zaa (show R=false by rw[← za hE,za hE2];simp);clear hE2 hE DO HR
          go_wp2
          go_ret
          exact⟨by first|(rw[za HF];done)|(rw[za HF];rfl),za hB⟩
         ·have k2:¬ (qn:Int)=46:=by omega
          have k2':((qn:Int)==46)=false:=by simp;omega
          have HD:=zaa (show dd s (j+1)=R by rw[← za hE,za hE2];simp[g2]);clear hE2 hE
          go_wp2
          exact⟨⟨j+1,by go_num,by omega,by omega,HD,hB⟩,by simp[intOf];omega⟩
        ·have k1:¬ (zn:Int)=46:=by omega
         have k1':((zn:Int)==46)=false:=by simp;omega
         have HD:=zaa (show dd s (j+1)=R by rw[← za hE,za hE2];simp[g1]);clear hE2 hE
         go_wp2
         exact⟨⟨j+1,by go_num,by omega,by omega,HD,hB⟩,by simp[intOf];omega⟩
       ·have HF:=zaa (show R=true by rw[← za hE,zt9 s j h]);have hlt:¬ (j:Int)<(s.size:Int):=by omega
        clear hE DO HR
        go_wp2
        go_ret
        exact⟨by first|(rw[za HF];done)|(rw[za HF];rfl),za hB⟩
def zt2 (l:List Tgt):Bool:=l.all (fun t=>zcf t.1)
def rtN (ts:List Tgt):Nat:=if zt2 ts then (if zdk ts then (if 16<ts.length then 6 else 0) else 15) else 14
def r1N (e0:Nat) (ts:List Tgt):Nat:=if zdk ts then e0 else 15
def r2N (e1:Nat) (ts:List Tgt):Nat:=if zt2 ts then e1 else 14
theorem zop {α:Type} (f:α→Bool) (l:List α) (j:Nat) (h:j<l.length):(l.take (j+1)).all f=((l.take j).all f&&f l[j]):=by
 rw[List.take_succ_eq_append_getElem h,List.all_append,List.all_cons,List.all_nil,Bool.and_true]
theorem zoj (e0:Nat) (ts:List Tgt) (j:Nat) (h:j<ts.length):r1N e0 (ts.take (j+1))=if wtB ts[j].2 then r1N e0 (ts.take j) else 15:=by
 unfold r1N zdk;rw[zop _ ts j h];generalize wtB ts[j].2=b;cases b
 ·rw[Bool.and_false];rfl
 ·rw[Bool.and_true];rfl
theorem zok (e1:Nat) (ts:List Tgt) (j:Nat) (h:j<ts.length):r2N e1 (ts.take (j+1))=if zcf ts[j].1 then r2N e1 (ts.take j) else 14:=by
 unfold r2N zt2;rw[zop _ ts j h];generalize zcf ts[j].1=b;cases b
 ·rw[Bool.and_false];rfl
 ·rw[Bool.and_true];rfl
theorem zbi {w:World} {a:Option Addr} {ts:List Tgt} (hT:TgsAt w a ts) (n c:Nat) (hn:ts.length=n) (hx:n≤maxLen) (hz:∀ t∈ts,t.1.size≤140737488355328) :
  Calls Tryz.prog 124 #[.slice a n c] w fun e w'=>e=.returned (.int .i64 (rtN ts:Int))∧w'=w:=by
 have HT:=zaa hT;have HZ:=zaa hz;have hsF:=zda .plain;simp only[maxLen] at hx;have HR:=zaa (show rtN ts=r2N (r1N (if 16<n then 6 else 0) ts) ts by rw[← hn];rfl);have HN:=zaa hn;clear hT hn hz;by_cases h16:16<n
 ·have i16:(16:Int)<(n:Int):=by omega
  rw[if_pos h16] at HR;go_enter Tryz.func124,Tryz.ntmps124
  go_wp2_with fail
  go_loopw [3,4] (fun e i wr=>∃ (j m:Nat),j≤n∧e=.int .i64 (m:Int)∧i=.int .i64 (j:Int)∧Hid (m=r1N 6 (ts.take j))∧Hid (wr=w)) (fun _ i _=>n - (intOf i).toNat)
  case atStart=>exact⟨0,6,by omega,rfl,rfl,zaa (by simp[r1N,zdk]),zaa rfl⟩
  case round =>
   obtain⟨j,m,hj,rfl,rfl,hm,hB⟩:=hrel;by_cases hjn:j<n
   ·as_aux_lemma =>
    have y0:(0:Int)≤(j:Int):=by omega
    have y1:(j:Int)<(n:Int):=by omega
    have hj1:j+1≤n:=by omega
    have hjl:j<ts.length:=by rw[za HN];exact hjn
    obtain⟨b,off,rfl,q0,q1⟩:=(za HT).cell j hjl;have ST:=zaa (zoj 6 ts j hjl);generalize ts[j]=t at *;obtain⟨s,x⟩:=t;dsimp only at *;have p1:wr.cell? ⟨b,off+j*2+1,none⟩=some (.float .f64 x):=by rw[za hB];exact q1
    have WC:=zaa (zfu x wr);clear q0 q1;cases hw:wtB x with
    |true =>
     rw[hw] at WC ST;have HM:=zaa (show m=r1N 6 (ts.take (j+1)) by rw[za ST,if_pos rfl];exact za hm);clear hw ST hm
     go_wp2_with fail
     refine(za WC).mono ?_;rintro e w' ⟨rfl,rfl⟩
     go_wp2
     exact⟨⟨j+1,m,hj1,rfl,by go_num,HM,hB⟩,by simp[intOf];omega⟩
    |false =>
     rw[hw] at WC ST;have HM:=zaa (show 15=r1N 6 (ts.take (j+1)) by rw[za ST];rfl);clear hw ST hm
     go_wp2_with fail
     refine(za WC).mono ?_;rintro e w' ⟨rfl,rfl⟩
     go_wp2
     exact⟨⟨j+1,15,hj1,rfl,by go_num,HM,hB⟩,by simp[intOf];omega⟩
   ·as_aux_lemma =>
    have y1:¬ (j:Int)<(n:Int):=by omega
    have hm2:=zaa (show m=r1N 6 ts by rw[za hm,List.take_of_length_le (by rw[za HN];omega)]);rw[← za hm2] at HR;have hwr:=za hB;subst hwr;clear hm hB
    go_wp2_with fail
    go_loopw [3,5] (fun e i wq=>∃ (k m2:Nat),k≤n∧e=.int .i64 (m2:Int)∧i=.int .i64 (k:Int)∧Hid (m2=r2N m (ts.take k))∧Hid (wq=wr)) (fun _ i _=>n - (intOf i).toNat)
    case atStart=>exact⟨0,m,by omega,rfl,rfl,zaa (by simp[r2N,zt2]),zaa rfl⟩
    case round =>
     rename_i w0
     obtain⟨k,m2,hk,rfl,rfl,hm3,hB2⟩:=hrel;by_cases hkn:k<n
     ·have y2:(0:Int)≤(k:Int):=by omega
      have y3:(k:Int)<(n:Int):=by omega
      have hk1:k+1≤n:=by omega
      have hkl:k<ts.length:=by rw[za HN];exact hkn
      obtain⟨b,off,rfl,q0,q1⟩:=(za HT).cell k hkl;have ST:=zaa (zok m ts k hkl);have hs:=za HZ _ (List.getElem_mem hkl);generalize ts[k]=t at *;obtain⟨s,x⟩:=t;dsimp only at *;have hwq:=za hB2;subst hwq;have AC:=zaa (zh1 s (by simp only[maxLen];omega) wr);clear q1 hB2;cases hw:zcf s with
      |true =>
       rw[hw] at AC ST;have HM:=zaa (show m2=r2N m (ts.take (k+1)) by rw[za ST,if_pos rfl];exact za hm3);clear hw ST hm3
       go_wp2_with fail
       refine(za AC).mono ?_;rintro e w' ⟨rfl,rfl⟩
       go_wp2
       exact⟨⟨k+1,m2,hk1,rfl,by go_num,HM,by first|exact zaa rfl|trivial⟩,by simp[intOf];omega⟩
      |false =>
       rw[hw] at AC ST;have HM:=zaa (show 14=r2N m (ts.take (k+1)) by rw[za ST];rfl);clear hw ST hm3
       go_wp2_with fail
       refine(za AC).mono ?_;rintro e w' ⟨rfl,rfl⟩
       go_wp2
       exact⟨⟨k+1,14,hk1,rfl,by go_num,HM,by first|exact zaa rfl|trivial⟩,by simp[intOf];omega⟩
     ·have y3:¬ (k:Int)<(n:Int):=by omega
      have HM:=zaa (show rtN ts=m2 by rw[za HR,za hm3,List.take_of_length_le (by rw[za HN];omega)]);clear hm3 hm2
      go_wp2
      go_ret
      exact⟨by rw[za HM];rfl,za hB2⟩
 ·have i16:¬ (16:Int)<(n:Int):=by omega
  rw[if_neg h16] at HR;go_enter Tryz.func124,Tryz.ntmps124
  go_wp2_with fail
  go_loopw [3,4] (fun e i wr=>∃ (j m:Nat),j≤n∧e=.int .i64 (m:Int)∧i=.int .i64 (j:Int)∧Hid (m=r1N 0 (ts.take j))∧Hid (wr=w)) (fun _ i _=>n - (intOf i).toNat)
  case atStart=>exact⟨0,0,by omega,rfl,rfl,zaa (by simp[r1N,zdk]),zaa rfl⟩
  case round =>
   obtain⟨j,m,hj,rfl,rfl,hm,hB⟩:=hrel;by_cases hjn:j<n
   ·as_aux_lemma =>
    have y0:(0:Int)≤(j:Int):=by omega
    have y1:(j:Int)<(n:Int):=by omega
    have hj1:j+1≤n:=by omega
    have hjl:j<ts.length:=by rw[za HN];exact hjn
    obtain⟨b,off,rfl,q0,q1⟩:=(za HT).cell j hjl;have ST:=zaa (zoj 0 ts j hjl);generalize ts[j]=t at *;obtain⟨s,x⟩:=t;dsimp only at *;have p1:wr.cell? ⟨b,off+j*2+1,none⟩=some (.float .f64 x):=by rw[za hB];exact q1
    have WC:=zaa (zfu x wr);clear q0 q1;cases hw:wtB x with
    |true =>
     rw[hw] at WC ST;have HM:=zaa (show m=r1N 0 (ts.take (j+1)) by rw[za ST,if_pos rfl];exact za hm);clear hw ST hm
     go_wp2_with fail
     refine(za WC).mono ?_;rintro e w' ⟨rfl,rfl⟩
     go_wp2
     exact⟨⟨j+1,m,hj1,rfl,by go_num,HM,hB⟩,by simp[intOf];omega⟩
    |false =>
     rw[hw] at WC ST;have HM:=zaa (show 15=r1N 0 (ts.take (j+1)) by rw[za ST];rfl);clear hw ST hm
     go_wp2_with fail
     refine(za WC).mono ?_;rintro e w' ⟨rfl,rfl⟩
     go_wp2
     exact⟨⟨j+1,15,hj1,rfl,by go_num,HM,hB⟩,by simp[intOf];omega⟩
   ·as_aux_lemma =>
    have y1:¬ (j:Int)<(n:Int):=by omega
    have hm2:=zaa (show m=r1N 0 ts by rw[za hm,List.take_of_length_le (by rw[za HN];omega)]);rw[← za hm2] at HR;have hwr:=za hB;subst hwr;clear hm hB
    go_wp2_with fail
    go_loopw [3,5] (fun e i wq=>∃ (k m2:Nat),k≤n∧e=.int .i64 (m2:Int)∧i=.int .i64 (k:Int)∧Hid (m2=r2N m (ts.take k))∧Hid (wq=wr)) (fun _ i _=>n - (intOf i).toNat)
    case atStart=>exact⟨0,m,by omega,rfl,rfl,zaa (by simp[r2N,zt2]),zaa rfl⟩
    case round =>
     rename_i w0
     obtain⟨k,m2,hk,rfl,rfl,hm3,hB2⟩:=hrel;by_cases hkn:k<n
     ·have y2:(0:Int)≤(k:Int):=by omega
      have y3:(k:Int)<(n:Int):=by omega
      have hk1:k+1≤n:=by omega
      have hkl:k<ts.length:=by rw[za HN];exact hkn
      obtain⟨b,off,rfl,q0,q1⟩:=(za HT).cell k hkl;have ST:=zaa (zok m ts k hkl);have hs:=za HZ _ (List.getElem_mem hkl);generalize ts[k]=t at *;obtain⟨s,x⟩:=t;dsimp only at *;have hwq:=za hB2;subst hwq;have AC:=zaa (zh1 s (by simp only[maxLen];omega) wr);clear q1 hB2;cases hw:zcf s with
      |true =>
       rw[hw] at AC ST;have HM:=zaa (show m2=r2N m (ts.take (k+1)) by rw[za ST,if_pos rfl];exact za hm3);clear hw ST hm3
       go_wp2_with fail
       refine(za AC).mono ?_;rintro e w' ⟨rfl,rfl⟩
       go_wp2
       exact⟨⟨k+1,m2,hk1,rfl,by go_num,HM,by first|exact zaa rfl|trivial⟩,by simp[intOf];omega⟩
      |false =>
       rw[hw] at AC ST;have HM:=zaa (show 14=r2N m (ts.take (k+1)) by rw[za ST];rfl);clear hw ST hm3
       go_wp2_with fail
       refine(za AC).mono ?_;rintro e w' ⟨rfl,rfl⟩
       go_wp2
       exact⟨⟨k+1,14,hk1,rfl,by go_num,HM,by first|exact zaa rfl|trivial⟩,by simp[intOf];omega⟩
     ·have y3:¬ (k:Int)<(n:Int):=by omega
      have HM:=zaa (show rtN ts=m2 by rw[za HR,za hm3,List.take_of_length_le (by rw[za HN];omega)]);clear hm3 hm2
      go_wp2
      go_ret
      exact⟨by rw[za HM];rfl,za hB2⟩
end
end Go.Proofs.YtjcjleaicjhpeaaGreatDoor
