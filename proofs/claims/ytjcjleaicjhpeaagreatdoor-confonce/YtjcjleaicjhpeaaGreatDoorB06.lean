/- Conf: Check's small functions: numbers, names, hosts, prefixes, addresses, weights. -/
import Derived.Test.YtjcjleaicjhpeaaGreatDoorB05
import Derived.Test.YtjcjleaicjhpeaaGreatDoorB01
set_option linter.unusedVariables false
set_option maxRecDepth 20000
set_option maxHeartbeats 16000000
namespace Go.Proofs.YtjcjleaicjhpeaaGreatDoor
section
open Go.ChangeShapes Go.WideShapes Go.ChangeAt Go.RowKit
theorem za0 (n a b:Int) (w:World):Calls Tryz.prog 74 #[.int .i64 n,.int .i64 a,.int .i64 b] w fun e w'=>e=.returned (.bool (decide (a≤n∧n≤b)))∧w'=w:=by
 by_cases h1:a≤n
 ·by_cases h2:n≤b
  ·have e:decide (a≤n∧n≤b)=true:=decide_eq_true ⟨h1,h2⟩;rw[e];go_enter Tryz.func74,Tryz.ntmps74
   go_wp2
   go_ret
   exact⟨by simp,rfl⟩
  ·have e:decide (a≤n∧n≤b)=false:=decide_eq_false fun h=>h2 h.2;rw[e];go_enter Tryz.func74,Tryz.ntmps74
   go_wp2
   go_ret
   exact⟨by simp,rfl⟩
 ·have e:decide (a≤n∧n≤b)=false:=decide_eq_false fun h=>h1 h.1;rw[e];go_enter Tryz.func74,Tryz.ntmps74
  go_wp2
  go_ret
  exact⟨by simp,rfl⟩
theorem ze8 (a:Int) (w:World):Calls Tryz.prog 75 #[.int .i64 a] w fun e w'=>e=.returned (.bool (za8 a))∧w'=w:=by
 by_cases h1:a=3
 ·subst h1;go_enter Tryz.func75,Tryz.ntmps75
  go_wp2
  go_ret
  exact⟨rfl,rfl⟩
 ·by_cases h2:a=4
  ·subst h2;go_enter Tryz.func75,Tryz.ntmps75
   go_wp2
   go_ret
   exact⟨by first|rfl|(simp;omega)|(simp;done)|(congr 2;rw[Bool.eq_iff_iff];simp;omega),rfl⟩
  ·have e:za8 a=false:=by simp[za8,h1,h2]
   rw[e];go_enter Tryz.func75,Tryz.ntmps75
   go_wp2
   go_ret
   exact⟨by first|rfl|(simp;omega)|(simp;done)|(congr 2;rw[Bool.eq_iff_iff];simp;omega),rfl⟩
theorem zd6 (c:UInt8) (w:World):Calls Tryz.prog 167 #[.int .u8 (c.toNat:Int)] w fun e w'=>e=.returned (.bool (zcc c))∧w'=w:=by
 unfold zcc;generalize c.toNat=n;by_cases h1:33≤n
 ·by_cases h2:n≤126
  ·have i1:(33:Int)≤(n:Int):=by omega
   have i2:(n:Int)≤126:=by omega
   go_enter Tryz.func167,Tryz.ntmps167
   go_wp2
   go_ret
   exact⟨by first|rfl|(simp;omega)|(simp;done)|(congr 2;rw[Bool.eq_iff_iff];simp;omega),rfl⟩
  ·have i1:(33:Int)≤(n:Int):=by omega
   have i2:¬ (n:Int)≤126:=by omega
   go_enter Tryz.func167,Tryz.ntmps167
   go_wp2
   go_ret
   exact⟨by first|rfl|(simp;omega)|(simp;done)|(congr 2;rw[Bool.eq_iff_iff];simp;omega),rfl⟩
 ·have i1:¬ (33:Int)≤(n:Int):=by omega
  go_enter Tryz.func167,Tryz.ntmps167
  go_wp2
  go_ret
  exact⟨by first|rfl|(simp;omega)|(simp;done)|(congr 2;rw[Bool.eq_iff_iff];simp;omega),rfl⟩
theorem zg3 (c:UInt8) (w:World):Calls Tryz.prog 134 #[.int .u8 (c.toNat:Int)] w fun e w'=>e=.returned (.bool (zjo c))∧w'=w:=by
 have HA:=zaa (fun w=>zd6 c w);unfold zjo;generalize zcc c=b at *;generalize c.toNat=n at *;cases b
 ·go_enter Tryz.func134,Tryz.ntmps134
  go_wp2_with (go_at_call 167;refine(za HA _).mono ?_;rintro e w' ⟨rfl,rfl⟩)
  go_ret
  exact⟨rfl,rfl⟩
 ·by_cases h1:n=63
  ·subst h1;go_enter Tryz.func134,Tryz.ntmps134
   go_wp2_with (go_at_call 167;refine(za HA _).mono ?_;rintro e w' ⟨rfl,rfl⟩)
   go_ret
   exact⟨by first|rfl|(simp;omega)|(simp;done)|(congr 2;rw[Bool.eq_iff_iff];simp;omega),rfl⟩
  ·have i1:¬ (n:Int)=63:=by omega
   by_cases h2:n=35
   ·subst h2;go_enter Tryz.func134,Tryz.ntmps134
    go_wp2_with (go_at_call 167;refine(za HA _).mono ?_;rintro e w' ⟨rfl,rfl⟩)
    go_ret
    exact⟨rfl,rfl⟩
   ·have i2:¬ (n:Int)=35:=by omega
    have j1:((n:Int) != 63)=true:=by simp;omega
    have j2:((n:Int) != 35)=true:=by simp;omega
    go_enter Tryz.func134,Tryz.ntmps134
    go_wp2_with (go_at_call 167;refine(za HA _).mono ?_;rintro e w' ⟨rfl,rfl⟩)
    go_ret
    exact⟨by first|rfl|(simp;omega)|(simp;done)|(congr 2;rw[Bool.eq_iff_iff];simp;omega),rfl⟩
theorem zi1 (c:UInt8) (w:World):Calls Tryz.prog 135 #[.int .u8 (c.toNat:Int)] w fun e w'=>e=.returned (.bool (zek c))∧w'=w:=by
 unfold zek;generalize c.toNat=n;by_cases h1:97≤n
 ·have i1:(97:Int)≤(n:Int):=by omega
  have i3:(48:Int)≤(n:Int):=by omega
  have i4:¬ (n:Int)≤57:=by omega
  have i5:¬ (n:Int)=45:=by omega
  have h5:¬ n=45:=by omega
  have h4:¬ n≤57:=by omega
  by_cases h2:n≤122
  ·have i2:(n:Int)≤122:=by omega
   clear i3 i4 i5;go_enter Tryz.func135,Tryz.ntmps135
   go_wp2
   go_ret
   exact⟨by first|rfl|(simp;omega)|(simp;done)|(congr 2;rw[Bool.eq_iff_iff];simp;omega),rfl⟩
  ·have i2:¬ (n:Int)≤122:=by omega
   go_enter Tryz.func135,Tryz.ntmps135
   go_wp2
   go_ret
   exact⟨by first|rfl|(simp;omega)|(simp;done)|(congr 2;rw[Bool.eq_iff_iff];simp;omega),rfl⟩
 ·have i1:¬ (97:Int)≤(n:Int):=by omega
  by_cases h3:48≤n
  ·have i3:(48:Int)≤(n:Int):=by omega
   have i5:¬ (n:Int)=45:=by omega
   have h5:¬ n=45:=by omega
   by_cases h4:n≤57
   ·have i4:(n:Int)≤57:=by omega
    clear i5;go_enter Tryz.func135,Tryz.ntmps135
    go_wp2
    go_ret
    exact⟨by first|rfl|(simp;omega)|(simp;done)|(congr 2;rw[Bool.eq_iff_iff];simp;omega),rfl⟩
   ·have i4:¬ (n:Int)≤57:=by omega
    go_enter Tryz.func135,Tryz.ntmps135
    go_wp2
    go_ret
    exact⟨by first|rfl|(simp;omega)|(simp;done)|(congr 2;rw[Bool.eq_iff_iff];simp;omega),rfl⟩
  ·have i3:¬ (48:Int)≤(n:Int):=by omega
   by_cases h5:n=45
   ·subst h5;go_enter Tryz.func135,Tryz.ntmps135
    go_wp2
    go_ret
    exact⟨rfl,rfl⟩
   ·have i5:¬ (n:Int)=45:=by omega
    go_enter Tryz.func135,Tryz.ntmps135
    go_wp2
    go_ret
    exact⟨by first|rfl|(simp;omega)|(simp;done)|(congr 2;rw[Bool.eq_iff_iff];simp;omega),rfl⟩
theorem zn4 (s:ByteArray) (j:Nat) (h:j<s.size):(bsT s).getD j 0=(s.data.toList[j]'(by simpa using h)).toNat:=by
 rw[List.getD_eq_getElem?_getD];unfold bsT;rw[List.getElem?_map,List.getElem?_eq_getElem (by simpa using h)];rfl
theorem zfp (s:ByteArray) (most K:Nat) (f:UInt8→Bool) (hK:∀ (c:Array Value) (w:World),(callFunc K c).run Tryz.prog w=.ok (.enter K c) w)
  (hf:∀ (c:UInt8) (w:World),Calls Tryz.prog K (#[.int .u8 (c.toNat:Int)]++#[]) w fun e w'=>e=.returned (.bool (f c))∧w'=w) (hs:s.size≤140737488355328) (w:World) :
  Calls Tryz.prog 133 #[.string s,.int .i64 (most:Int),.func (.func K) #[] #[]] w fun e w'=>e=.returned (.bool (zd5 s most f))∧Below w.heap.size w w':=by
 have CW:=zaa (fun w=>za0 (s.size:Int) 1 (most:Int) w);have HF:=zaa hf;have E0:=zaa (show zd5 s most f=(decide (1≤s.size)&&decide (s.size≤most)&&s.data.toList.all f) from rfl);clear hf;by_cases h1:1≤s.size∧s.size≤most
 ·have e1:decide ((1:Int)≤(s.size:Int)∧(s.size:Int)≤(most:Int))=true:=decide_eq_true ⟨by omega,by omega⟩;have E:=zaa (show zd5 s most f=s.data.toList.all f by rw[za E0,decide_eq_true h1.1,decide_eq_true h1.2];rfl);rw[e1] at CW;clear e1 E0 h1;obtain⟨c,W1,hcv,hc,hb,hB⟩:=znl w s;have HB:=zaa hb;have B1:=zaa hB;have hn:=zhp s;clear hb hB;go_enter Tryz.func133,Tryz.ntmps133
  go_wp2_with (go_at_call 74;refine(za CW _).mono ?_;rintro e w' ⟨rfl,rfl⟩)
  go_loopw [17] (fun i wr=>∃ j:Nat,i=.int .i64 (j:Int)∧j≤s.size∧Hid (s.data.toList.all f=(s.data.toList.drop j).all f)∧Hid (wr=W1)) (fun i _=>s.size - (intOf i).toNat)
  case atStart=>exact⟨0,rfl,by omega,zaa rfl,zaa rfl⟩
  case round =>
   obtain⟨j,rfl,hj,hE,HW⟩:=hrel;have hw:=za HW;subst hw;by_cases h:j<s.size
   ·have hlt:(j:Int)<(s.size:Int):=by omega
    have hj0:(0:Int)≤(j:Int):=by omega
    have hjl:j<s.data.toList.length:=by simpa using h
    obtain⟨b,off,hbe,hcell⟩:=(za HB).cell j (by rw[hn];exact h);simp only[Option.some.injEq,Addr.mk.injEq,and_true] at hbe;obtain⟨rfl,rfl⟩:=hbe;rw[zn4 s j h,Nat.zero_add] at hcell;have hd:s.data.toList.drop j=s.data.toList[j]::s.data.toList.drop (j+1):=List.drop_eq_getElem_cons hjl;have HD:=zaa (show s.data.toList.all f=(f s.data.toList[j]&&(s.data.toList.drop (j+1)).all f) by rw[za hE,hd];rfl);have CF:=zaa (za HF s.data.toList[j]);generalize s.data.toList[j]=x at *;clear hd hE HF;cases hx:f x
    ·rw[hx] at HD CF;have E3:=zaa (show zd5 s most f=false by rw[za E,za HD];rfl);clear hx
     go_wp2_with fail
     refine(za CF _).mono ?_;rintro e w' ⟨rfl,rfl⟩
     go_wp2
     go_ret
     exact⟨by rw[za E3];rfl,za B1⟩
    ·rw[hx] at HD CF;clear hx
     go_wp2_with fail
     refine(za CF _).mono ?_;rintro e w' ⟨rfl,rfl⟩
     go_wp2
     exact⟨⟨j+1,by go_num,by omega,zaa (by rw[za HD];rfl),HW⟩,by simp[intOf];omega⟩
   ·have hlt:¬ (j:Int)<(s.size:Int):=by omega
    have E3:=zaa (show zd5 s most f=true by rw[za E,za hE,List.drop_of_length_le (by rw[Array.length_toList];show s.size≤j;omega)];rfl)
    go_wp2
    go_ret
    exact⟨by rw[za E3];rfl,za B1⟩
 ·have e1:decide ((1:Int)≤(s.size:Int)∧(s.size:Int)≤(most:Int))=false:=decide_eq_false fun h=>h1 ⟨by omega,by omega⟩
  have E:=zaa (show zd5 s most f=false by
   rw[za E0];by_cases h2:1≤s.size
   ·have h3:¬ s.size≤most:=fun h=>h1 ⟨h2,h⟩;simp[h3]
   ·simp[h2])
  rw[e1] at CW;clear e1 E0 h1;go_enter Tryz.func133,Tryz.ntmps133
  go_wp2_with (go_at_call 74;refine(za CW _).mono ?_;rintro e w' ⟨rfl,rfl⟩)
  go_ret
  exact⟨by rw[za E];rfl,Below.refl _ _⟩
theorem zip (c:Array Value) (w:World):(callFunc 135 c).run Tryz.prog w=.ok (.enter 135 c) w:=by
 simp[callFunc,go_sem,Tryz.func135];rw[if_neg (by decide +kernel),if_neg (by decide +kernel)]
theorem zge (c:Array Value) (w:World):(callFunc 167 c).run Tryz.prog w=.ok (.enter 167 c) w:=by
 simp[callFunc,go_sem,Tryz.func167];rw[if_neg (by decide +kernel),if_neg (by decide +kernel)]
theorem zg1 (c:Array Value) (w:World):(callFunc 134 c).run Tryz.prog w=.ok (.enter 134 c) w:=by
 simp[callFunc,go_sem,Tryz.func134];rw[if_neg (by decide +kernel),if_neg (by decide +kernel)]
theorem zd2 (s:ByteArray) (hs:s.size≤140737488355328) (w:World):Calls Tryz.prog 78 #[.string s] w fun e w'=>e=.returned (.bool (zcf s))∧Below w.heap.size w w':=by
 have CM:=zaa (fun w=>zfp s 64 135 zek zip (fun c w=>zi1 c w) hs w);unfold zcf;generalize zd5 s 64 zek=b at *;go_enter Tryz.func78,Tryz.ntmps78
 go_wp2_with (go_at_call 133;refine(za CM _).mono ?_;rintro e w' ⟨rfl,hb⟩)
 go_ret
 exact⟨rfl,hb⟩
theorem zd1 (s:ByteArray) (hs:s.size≤140737488355328) (w:World):Calls Tryz.prog 136 #[.string s] w fun e w'=>e=.returned (.bool (zc4 s))∧Below w.heap.size w w':=by
 have CM:=zaa (fun w=>zfp s 64 167 zcc zge (fun c w=>zd6 c w) hs w);unfold zc4;generalize zd5 s 64 zcc=b at *;go_enter Tryz.func136,Tryz.ntmps136
 go_wp2_with (go_at_call 133;refine(za CM _).mono ?_;rintro e w' ⟨rfl,hb⟩)
 go_ret
 exact⟨rfl,hb⟩
theorem zg2 (s:ByteArray) (hs:s.size≤140737488355328) (w:World):Calls Tryz.prog 77 #[.string s] w fun e w'=>e=.returned (.bool (zb2 s))∧Below w.heap.size w w':=by
 have CM:=zaa (fun w=>zfp s 128 134 zjo zg1 (fun c w=>zg3 c w) hs w);cases hm:zd5 s 128 zjo
 ·have E:=zaa (show zb2 s=false by unfold zb2;rw[hm];rfl);rw[hm] at CM;clear hm;go_enter Tryz.func77,Tryz.ntmps77
  go_wp2_with (go_at_call 133;refine(za CM _).mono ?_;rintro e w' ⟨rfl,hb⟩)
  go_ret
  exact⟨by rw[za E];rfl,hb⟩
 ·have h1:1≤s.size:=by
   unfold zd5 at hm;simp only[Bool.and_eq_true,decide_eq_true_eq] at hm;exact hm.1.1
  have hl:0<s.data.toList.length:=by rw[Array.length_toList];exact h1
  have hx:(0:Int)<(s.size:Int):=by omega
  have hh:s.data.toList.head? = some (s[0]'h1):=by
   rw[List.head?_eq_getElem?,List.getElem?_eq_getElem hl];rfl
  have E:=zaa (show zb2 s=(((s[0]'h1).toNat:Int)==47) by
   unfold zb2;rw[hm,hh,Bool.true_and,Bool.eq_iff_iff];simp only[beq_iff_eq,Option.some.injEq];rw[← UInt8.toNat_inj];have:(47:UInt8).toNat=47:=rfl
   omega)
  rw[hm] at CM;clear hm hh hl;generalize hy:(s[0]'h1)=x at *;have hx2:∀ hh,(s[0]'hh)=x:=fun _=>hy;have hz:(s.toList)[0]? = some x:=by rw[ByteArray.toList_eq,List.getElem?_eq_getElem (by rw[Array.length_toList];exact h1)];exact congrArg some hy
  go_enter Tryz.func77,Tryz.ntmps77
  go_wp2_with (go_at_call 133;refine(za CM _).mono ?_;rintro e w' ⟨rfl,hb⟩)
  go_ret
  exact⟨by rw[za E];rfl,hb⟩
theorem zc5 (x:Nat) (w:World):(callFunc 91 #[.float .f64 x]).run Tryz.prog w=.ok (.value (.int .u64 (x:Int))) w:=by
 rw[run_callFunc_extern Tryz.func91 (by kernel_rfl) (by kernel_rfl) (by kernel_rfl) (e:=Extern.MathFloatBits.float64bits) (by kernel_rfl)];rfl
theorem zko (x:Nat) (w:World):(callFunc 122 #[.int .u64 (x:Int)]).run Tryz.prog w=.ok (.value (.float .f64 x)) w:=by
 rw[run_callFunc_extern Tryz.func122 (by kernel_rfl) (by kernel_rfl) (by kernel_rfl) (e:=Extern.MathFloatBits.float64frombits) (by kernel_rfl)];rfl
theorem ziv (w:World):Calls Tryz.prog 137 #[.int .i64 1] w fun e w'=>e=.returned (.float .f64 9218868437227405312)∧w'=w:=by
 have hf:∀ w,(callFunc 122 #[.int .u64 9218868437227405312]).run Tryz.prog w=.ok (.value (.float .f64 9218868437227405312)) w:=fun w=>zko 9218868437227405312 w;go_enter Tryz.func137,Tryz.ntmps137
 go_wp2
 go_ret
 exact⟨rfl,rfl⟩
theorem zer (x:Nat) (w:World):Calls Tryz.prog 80 #[.float .f64 x] w fun e w'=>e=.returned (.bool (wtB x))∧Below w.heap.size w w':=by
 have hb:=zc5 x;have hb2:∀ w,(callFunc 91 #[.float .f64 9218868437227405312]).run Tryz.prog w=.ok (.value (.int .u64 9218868437227405312)) w:=fun w=>zc5 9218868437227405312 w;have B0:=zaa (Below.refl w.heap.size w);unfold wtB;by_cases h:x<9218868437227405312
 ·have hi:(x:Int)<9218868437227405312:=by omega
  have e:decide (x<9218868437227405312)=true:=decide_eq_true h;rw[e];go_enter Tryz.func80,Tryz.ntmps80
  go_wp2_with (go_at_call 137;refine(ziv _).mono ?_;rintro e w1 ⟨rfl,rfl⟩)
  go_ret
  exact⟨by rfl,by first|exact za B0|exact(za B0).drew⟩
 ·have hi:¬ (x:Int)<9218868437227405312:=by omega
  have e:decide (x<9218868437227405312)=false:=decide_eq_false h;have dI:decide ((x:Int)<9218868437227405312)=false:=decide_eq_false hi;rw[e];go_enter Tryz.func80,Tryz.ntmps80
  go_wp2_with (go_at_call 137;refine(ziv _).mono ?_;rintro e w1 ⟨rfl,rfl⟩)
  go_ret
  exact⟨rfl,by first|exact za B0|exact(za B0).drew⟩
theorem zhn {α:Type} (l:List α) (f:α→Bool) (j:Nat) (h:j<l.length):(l.drop j).all f=(f l[j]&&(l.drop (j+1)).all f):=by
 rw[List.drop_eq_getElem_cons h];rfl
theorem zfi {w:World} {a:Option Addr} {l:List Tgt} (h:TgsAt w a l) (n c:Nat) (hn:l.length=n) (hx:n≤maxLen) :
  Calls Tryz.prog 39 #[.slice a n c] w fun e w'=>e=.returned (.bool (zen l))∧Below w.heap.size w w':=by
 have H1:=zaa h;have HN:=zaa hn;have E0:=zaa (show zen l=(l.drop 0).all (fun t=>wtB t.2) from rfl);simp only[maxLen] at hx;have hsF:=zde .plain;clear h hn;go_enter Tryz.func39,Tryz.ntmps39
 go_wp2_with fail
 go_loopw [7] (fun i wr=>∃ j:Nat,j≤n∧i=.int .i64 (j:Int)∧Hid (zen l=(l.drop j).all (fun t=>wtB t.2))∧Hid (Below w.heap.size w wr)) (fun i _=>n - (intOf i).toNat)
 case atStart=>exact⟨0,by omega,rfl,E0,zaa (Below.refl _ _)⟩
 case round =>
  obtain⟨j,hj,rfl,HE,B⟩:=hrel;by_cases hjn:j<n
  ·have y0:(0:Int)≤(j:Int):=by omega
   have y1:(j:Int)<(n:Int):=by omega
   have hjl:j<l.length:=by rw[za HN];exact hjn
   obtain⟨b1,o1,rfl,q0,q1⟩:=(za H1).cell j hjl;have p0:=cell_later (za B) q0;have p1:=cell_later (za B) q1;have HD:=zaa (show zen l=(wtB l[j].2&&(l.drop (j+1)).all (fun t=>wtB t.2)) by rw[za HE,zhn l _ j hjl]);clear HE q0 q1;generalize l[j]=t at *;obtain⟨s,x⟩:=t;simp only at p0 p1 HD;have X1:=zad wr (.cells #[.string s,.float .f64 x] 70);have c1:=zag X1 1 (.float .f64 x) rfl;have BX:=zaa (show Below w.heap.size w (wr.alloc (.cells #[.string s,.float .f64 x] 70)) from(za B).alloc (za B).size _);clear X1;cases hw:wtB x
   ·rw[hw] at HD
    go_wp2_with (go_at_call 80;refine(zer x _).mono ?_;rintro e w1 ⟨rfl,hb⟩;rw[hw])
    go_ret
    exact⟨by rw[za HD];rfl,(za BX).trans (hb.mono (za BX).size)⟩
   ·rw[hw] at HD
    go_wp2_with (go_at_call 80;refine(zer x _).mono ?_;rintro e w1 ⟨rfl,hb⟩;rw[hw];have B3:=zaa ((za BX).trans (hb.mono (za BX).size));clear hb)
    exact⟨⟨j+1,by omega,by go_num,zaa (by rw[za HD];rfl),B3⟩,by simp[intOf];omega⟩
  ·have hjj:¬ (j:Int)<(n:Int):=by omega
   have E3:=zaa (show zen l=true by rw[za HE,List.drop_of_length_le (by rw[za HN];omega)];rfl)
   go_wp2
   go_ret
   exact⟨by rw[za E3];rfl,za B⟩
theorem zej {w:World} {a:Option Addr} {l:List Tgt} (h:TgsAt w a l) (hz:∀ t∈l,t.1.size≤140737488355328) (n c:Nat) (hn:l.length=n) (hx:n≤maxLen) :
  Calls Tryz.prog 79 #[.slice a n c] w fun e w'=>e=.returned (.bool (l.all (fun t=>zc4 t.1)))∧Below w.heap.size w w':=by
 have H1:=zaa h;have HN:=zaa hn;have HZ:=zaa hz;have E0:=zaa (show l.all (fun t=>zc4 t.1)=(l.drop 0).all (fun t=>zc4 t.1) from rfl);simp only[maxLen] at hx;have hsF:=zde .plain;generalize hR:l.all (fun t=>zc4 t.1)=R at *;clear h hn hz hR;go_enter Tryz.func79,Tryz.ntmps79
 go_wp2_with fail
 go_loopw [7] (fun i wr=>∃ j:Nat,j≤n∧i=.int .i64 (j:Int)∧Hid (R=(l.drop j).all (fun t=>zc4 t.1))∧Hid (Below w.heap.size w wr)) (fun i _=>n - (intOf i).toNat)
 case atStart=>exact⟨0,by omega,rfl,E0,zaa (Below.refl _ _)⟩
 case round =>
  obtain⟨j,hj,rfl,HE,B⟩:=hrel;by_cases hjn:j<n
  ·have y0:(0:Int)≤(j:Int):=by omega
   have y1:(j:Int)<(n:Int):=by omega
   have hjl:j<l.length:=by rw[za HN];exact hjn
   obtain⟨b1,o1,rfl,q0,q1⟩:=(za H1).cell j hjl;have p0:=cell_later (za B) q0;have p1:=cell_later (za B) q1;have HD:=zaa (show R=(zc4 l[j].1&&(l.drop (j+1)).all (fun t=>zc4 t.1)) by rw[za HE,zhn l _ j hjl]);have HS:=zaa (za HZ l[j] (List.getElem_mem hjl));clear HE q0 q1;generalize l[j]=t at *;obtain⟨s,x⟩:=t;simp only at p0 p1 HD HS;have X1:=zad wr (.cells #[.string s,.float .f64 x] 70);have c1:=zag X1 0 (.string s) rfl;have BX:=zaa (show Below w.heap.size w (wr.alloc (.cells #[.string s,.float .f64 x] 70)) from(za B).alloc (za B).size _);clear X1;cases hw:zc4 s
   ·rw[hw] at HD
    go_wp2_with (go_at_call 136;refine(zd1 s (za HS) _).mono ?_;rintro e w1 ⟨rfl,hb⟩;rw[hw])
    go_ret
    exact⟨by rw[za HD];rfl,(za BX).trans (hb.mono (za BX).size)⟩
   ·rw[hw] at HD
    go_wp2_with (go_at_call 136;refine(zd1 s (za HS) _).mono ?_;rintro e w1 ⟨rfl,hb⟩;rw[hw];have B3:=zaa ((za BX).trans (hb.mono (za BX).size));clear hb)
    exact⟨⟨j+1,by omega,by go_num,zaa (by rw[za HD];rfl),B3⟩,by simp[intOf];omega⟩
  ·have hjj:¬ (j:Int)<(n:Int):=by omega
   have E3:=zaa (show R=true by rw[za HE,List.drop_of_length_le (by rw[za HN];omega)];rfl)
   go_wp2
   go_ret
   exact⟨by rw[za E3];rfl,za B⟩
def Mx (w:World):Prop:=∃ m,w.cell? ⟨Tryz.laysM146_ren.g 1,0,none⟩=some (.int .i64 m)
theorem Mx.later {w w':World} (h:Mx w) (hb:Below w.heap.size w w'):Mx w':=let ⟨m,hm⟩:=h;⟨m,cell_later hb hm⟩
theorem zjt (s:ByteArray) (w:World) (hm:Mx w) (hs:s.size≤64):Calls Tryz.prog 132 #[.string s,.string ⟨#[46]⟩] w fun e w' =>
  e=.returned (.slice (some ⟨w.heap.size,0,none⟩) (Lib.splitB zfu 0 (Lib.countB s zfu) s).length (Lib.splitB zfu 0 (Lib.countB s zfu) s).length)∧w'=w.alloc (.cells ((Lib.splitB zfu 0 (Lib.countB s zfu) s).map Value.string).toArray 9):=by
 obtain⟨m,hm⟩:=hm;have h1:1≤zfu.size:=by decide
 have hlen:=Lib.splitB_all zfu h1 0 _ s rfl;have:=Any.strings_Split { Tryz.laysM146 with } Tryz.laysM146.i9 s zfu m w (by omega) hm h1;rw[hlen];exact this
theorem ziw (s:ByteArray) (hs:s.size≤140737488355328) (w:World) (hm:Mx w):Calls Tryz.prog 76 #[.string s] w fun e w'=>e=.returned (.bool (zba s))∧Below w.heap.size w w':=by
 by_cases h64:s.size≤64
 ·have SC:=zaa (zjt s w hm h64);have E0:=zaa (show zba s=((Lib.splitB zfu 0 (Lib.countB s zfu) s).drop 0).all zcf by rw[List.drop_zero,zk6 _ s rfl h64];unfold zba;rw[decide_eq_true h64];rfl);have HZ:=zaa (show ∀ p∈Lib.splitB zfu 0 (Lib.countB s zfu) s,p.size≤140737488355328 from fun p hp=>Nat.le_trans (zm0 _ _ _ hp) hs)
  have HC:=zaa (show(Lib.splitB zfu 0 (Lib.countB s zfu) s).length≤65 by
   rw[Lib.splitB_all zfu (by decide) 0 _ s rfl];have:=Lib.countB_le zfu (by decide) s.size s (Nat.le_refl _)
   omega)
  have hi:¬ (64:Int)<(s.size:Int):=by omega
  generalize Lib.splitB zfu 0 (Lib.countB s zfu) s=l at *;have X1:=zad w (.cells (l.map Value.string).toArray 9);have HX:=zaa X1;have B0:=zaa (show Below w.heap.size w (w.alloc (.cells (l.map Value.string).toArray 9)) from(Below.refl _ _).alloc (Nat.le_refl _) _)
  have KC:=zaa (show ∀ j x W,l[j]? = some x→Below (w.heap.size+1) (w.alloc (.cells (l.map Value.string).toArray 9)) W→W.cell? ⟨w.heap.size,j,none⟩=some (.string x) from fun j x W hx hb=>by
   have hg:=(hb.block w.heap.size (by omega)).trans (za HX);rw[cell_of_row _ _ _ _ _ _ hg]
   simp[hx])
  have hc:=za HC;clear X1 HX HC hm h64;generalize hn:l.length=n at *;have HN:=zaa hn;clear hn;go_enter Tryz.func76,Tryz.ntmps76
  go_wp2_with (go_at_call 132;refine(za SC).mono ?_;rintro e w1 ⟨rfl,rfl⟩)
  go_loopw [11] (fun i wr=>∃ j:Nat,j≤n∧i=.int .i64 (j:Int)∧Hid (zba s=(l.drop j).all zcf)∧Hid (Below (w.heap.size+1) (w.alloc (.cells (l.map Value.string).toArray 9)) wr)) (fun i _=>n - (intOf i).toNat)
  case atStart=>exact⟨0,by omega,rfl,E0,zaa (Below.refl _ _)⟩
  case round =>
   obtain⟨j,hj,rfl,HE,B⟩:=hrel;by_cases hjn:j<n
   ·have y0:(0:Int)≤(j:Int):=by omega
    have y1:(j:Int)<(n:Int):=by omega
    have hjl:j<l.length:=by rw[za HN];exact hjn
    have p0:=za KC j _ wr (List.getElem?_eq_getElem hjl) (za B);have HD:=zaa (show zba s=(zcf l[j]&&(l.drop (j+1)).all zcf) by rw[za HE,zhn l _ j hjl]);have HS:=zaa (za HZ l[j] (List.getElem_mem hjl));clear HE;generalize l[j]=t at *;cases hw:zcf t
    ·rw[hw] at HD
     go_wp2_with (go_at_call 78;refine(zd2 t (za HS) _).mono ?_;rintro e w1 ⟨rfl,hb⟩;rw[hw])
     go_ret
     exact⟨by rw[za HD];rfl,(za B0).trans (((za B).trans (hb.mono (by have:=(za B).size;simp at this;omega))).mono (by simp))⟩
    ·rw[hw] at HD
     go_wp2_with (go_at_call 78;refine(zd2 t (za HS) _).mono ?_;rintro e w1 ⟨rfl,hb⟩;rw[hw];have B3:=zaa ((za B).trans (hb.mono (by have:=(za B).size;simp at this;omega)));clear hb)
     exact⟨⟨j+1,by omega,by go_num,zaa (by rw[za HD];rfl),B3⟩,by simp[intOf];omega⟩
   ·have hjj:¬ (j:Int)<(n:Int):=by omega
    have E3:=zaa (show zba s=true by rw[za HE,List.drop_of_length_le (by rw[za HN];omega)];rfl)
    go_wp2
    go_ret
    exact⟨by rw[za E3];rfl,(za B0).trans ((za B).mono (by simp))⟩
 ·have hi:(64:Int)<(s.size:Int):=by omega
  have E:=zaa (show zba s=false by unfold zba;rw[decide_eq_false h64];rfl);go_enter Tryz.func76,Tryz.ntmps76
  go_wp2
  go_ret
  exact⟨by rw[za E];rfl,Below.refl _ _⟩
def zds (ts:List ByteArray):Array Value:=(ts.map Value.string).toArray
theorem zm3 (ts:List ByteArray) (j:Nat) (h:j<ts.length):(zds ts)[j]? = some (.string ts[j]):=by
 unfold zds;simp[h]
theorem zcz (base:Nat) {w:World} {sp:Option Addr} {n0 c:Nat} {l:List Nat} (hn0:l.length=n0) (hown:OwnB base w sp c l) (B m mc:Nat) (ts:List ByteArray) (hm:ts.length=m) (hB:w.heap[B]? = some (.cells (zds ts) 9 (0,0)))
  (hts:∀ t∈ts,t.size≤1000000) (hsz:l.length+1000006*m≤140737488355328) (hm2:m≤1000) (hbase:base≤w.heap.size) :
  Calls Tryz.prog 149 #[.slice sp n0 c,.slice (some ⟨B,0,none⟩) m mc] w fun e w'=>∃ sp' n' c',e=.returned (.slice sp' n' c')∧Hid ((l++zn0 ts).length=n')∧OwnB base w' sp' c' (l++zn0 ts)∧Grew w sp w' sp':=by
 have HO:=zaa hown;have HN:=zaa hn0;have HM:=zaa hm;have HB:=zaa hB;have HNE:=zaa (hown.ne hB tyne.2);have HNS:=zaa hts
 have LE:=zaa (show ∀ j,((ts.take j).flatMap txB).length≤1000006*m from fun j=>by
  have h1:=zb4 txB 1000006 (ts.take j) (fun x hx=>by
   have h2:=hts x (List.mem_of_mem_take hx);have:=zca x (by omega)
   omega)
  have h2:(ts.take j).length≤m:=by rw[← hm,List.length_take];omega
  omega)
 clear hown hn0 hm hB hts;go_enter Tryz.func149,Tryz.ntmps149
 go_wp2
 go_loopw [0,9] (fun v i wr=>∃ (j:Nat) (sp':Option Addr) (n' c':Nat),j≤m∧v=.slice sp' n' c'∧i=.int .i64 (j:Int)∧Hid ((l++(ts.take j).flatMap txB).length=n')∧Hid (OwnB base wr sp' c' (l++(ts.take j).flatMap txB))∧Hid (Grew w sp wr sp')) (fun _ i _=>m - (intOf i).toNat)
 case atStart=>exact⟨0,sp,n0,c,by omega,rfl,rfl,zaa (by simpa using za HN),zaa (by simpa using za HO),Grew.refl _ _⟩
 case round =>
  obtain⟨j,sp',n',c',hj,rfl,rfl,hl',ho',hg'⟩:=hrel;by_cases hjm:j<m
  ·have y0:(0:Int)≤(j:Int):=by omega
   have y1:(j:Int)<(m:Int):=by omega
   have hjl:j<ts.length:=by rw[za HM];exact hjm
   have hBr:=Grew.block (za hg') (za HB) (za HNE);have p0:=zag hBr j _ (zm3 ts j hjl);have hx:=za HNS ts[j] (List.getElem_mem hjl);have FT:=zaa (zb5 txB ts j hjl);generalize ts[j]=x at *
   have LJ:=zaa (show(l++(ts.take j).flatMap txB).length+6+x.size≤140737488355328 by
    have h1:=za LE j;have h2:1000006*(j+1)≤1000006*m:=Nat.mul_le_mul_left _ (by omega);have h3:((ts.take j).flatMap txB).length≤1000006*j:=by
     have h1:=zb4 txB 1000006 (ts.take j) (fun x hx=>by
      have h2:=za HNS x (List.mem_of_mem_take hx);have:=zca x (by omega)
      omega)
     have h2:(ts.take j).length≤j:=by rw[List.length_take];omega
     omega
    rw[List.length_append];omega)
   have hbr:base≤wr.heap.size:=Nat.le_trans hbase (za hg').grown.size;have X1:=zaa (show(wr.alloc (.cells (zc [x.size]) 3)).heap[wr.heap.size]? = some (.cells (zc [x.size]) 3 (0,0)) from zad wr (.cells (zc [x.size]) 3));have bA:=zaa (show Below wr.heap.size wr (wr.alloc (.cells (zc [x.size]) 3)) from(Below.refl _ _).alloc (Nat.le_refl _) _);have CN:=zaa (zaz base (za hl') ((za ho').later (za bA)) wr.heap.size 1 1 [x.size] rfl (za X1) (by intro n hn;simp at hn;omega) (by have:=za LJ;omega) (by omega) (Nat.le_trans hbr (za bA).size));have hxs:x.size≤1000000:=hx;rw[show zc [x.size]=#[.int .i64 (x.size:Int)] from rfl] at CN X1 bA;clear hBr hx
   go_wp2_with fail
   refine(za CN).mono ?_;rintro e V ⟨s1,m1,c1,rfl,hn1,ho1,hg1⟩;have hV:=zaa (Grew.aside (za bA) hg1);have hvs:base≤V.heap.size:=Nat.le_trans hbr (za hV).grown.size;have HO1:=zaa ho1;have hne1:=zaa (ho1.some_ (by rw[List.length_append];have:=(zbx x.size).1;simp[zgr];omega))
   have hs2:=zaa (show m1+x.size≤140737488355328 by
    rw[← za hn1,List.length_append];have h1:=za LJ;have h2:=zau x.size (by omega);simp[zgr];simp at h1
    omega)
   clear ho1 hg1 CN
   go_wp2_with (at_builtin;refine zed rfl (.tmp 17) (.tmp 18) rfl s1 m1 c1 _ rfl (za hn1) (za HO1) (za hne1) x rfl (za hs2) hvs ?_;intro sp2 n2 c2 W2 hn2 ho3 hg2 hnn;rw[List.append_assoc,List.append_assoc,show zgr [x.size]++bsT x=txB x by simp[zgr,txB],← za FT] at hn2 ho3;have HO3:=zaa ho3;clear ho3)
   have hbn:=zaa ((za hg').trans ((za hV).trans hg2));exact⟨⟨j+1,sp2,n2,c2,by omega,rfl,by go_num,by first|exact hn2|exact zaa (by rw[List.length_append];exact za hn2),za HO3,za hbn⟩,by simp[intOf];omega⟩
  ·have hjj:¬ (j:Int)<(m:Int):=by omega
   have E:=zaa (show(ts.take j).flatMap txB=zn0 ts by rw[List.take_of_length_le (by rw[za HM];omega)];rfl)
   go_wp2
   go_ret
   exact⟨sp',n',c',rfl,zaa (by rw[← za E];simpa using za hl'),by rw[← za E];exact za ho',za hg'⟩
def zf7 (x:Nat):List Nat:=(List.range 8).map (fun k=>x / 2 ^ (56 - 8*k) % 256)
theorem zfj (x:Nat):(zf7 x).length=8:=by simp[zf7]
theorem zjc (x j:Nat) (h:j<8):(zf7 x).take (j+1)=(zf7 x).take j++[x / 2 ^ (56 - 8*j) % 256]:=by
 rw[List.take_succ_eq_append_getElem (by rw[zfj];exact h)];simp[zf7]
theorem zkg (x s:Nat):((x:Int) / 2 ^ s) % 256=((x / 2 ^ s % 256:Nat):Int):=by
 have:((x / 2 ^ s:Nat):Int)=(x:Int) / 2 ^ s:=by simp
 rw[← this];omega
theorem zdv (base:Nat) {w:World} {sp:Option Addr} {n0 c:Nat} {l:List Nat} (hn0:l.length=n0) (hown:OwnB base w sp c l) (x:Nat) (hx:x<18446744073709551616) (hsz:l.length+8≤140737488355328) (hbase:base≤w.heap.size) :
  Calls Tryz.prog 188 #[.slice sp n0 c,.float .f64 x] w fun e w'=>∃ sp' n' c',e=.returned (.slice sp' n' c')∧Hid ((l++zf7 x).length=n')∧OwnB base w' sp' c' (l++zf7 x)∧Grew w sp w' sp':=by
 have HO:=zaa hown;have HN:=zaa hn0;have hbits:=zc5 x;have LE:=zaa (show ∀ j,((zf7 x).take j).length≤8 from fun j=>by have:=zfj x;rw[List.length_take];omega);clear hown hn0;go_enter Tryz.func188,Tryz.ntmps188
 go_wp2_with fail
 go_loopw [0,6] (fun v i wr=>∃ (j:Nat) (sp':Option Addr) (n' c':Nat),j≤8∧v=.slice sp' n' c'∧i=.int .i64 (56 - 8*(j:Int))∧Hid ((l++(zf7 x).take j).length=n')∧Hid (OwnB base wr sp' c' (l++(zf7 x).take j))∧Hid (Grew w sp wr sp')) (fun _ i _=>(intOf i+8).toNat)
 case atStart=>exact⟨0,sp,n0,c,by omega,rfl,rfl,zaa (by simpa using za HN),zaa (by simpa using za HO),Grew.refl _ _⟩
 case round =>
  obtain⟨j,sp',n',c',hj,rfl,rfl,hl',ho',hg'⟩:=hrel;by_cases hjm:j<8
  ·obtain⟨s,hs⟩:∃ s:Nat,s=56 - 8*j:=⟨_,rfl⟩
   have hsi:56 - 8*(j:Int)=(s:Int):=by omega
   have hnx:=zaa (show(s:Int) - 8=56 - 8*((j+1:Nat):Int) by omega);have y0:(0:Int)≤(s:Int):=by omega
   have y1:(s:Int)≤56:=by omega
   have y2:s≤64:=by omega
   have hmin:min s 64=s:=by omega
   have hby:=zkg x s;have HB:=zaa hby;have FT:=zaa (zjc x j hjm);rw[← hs] at FT;have hw8:IntKind.u8.wrap ((x:Int) / 2 ^ s)=((x / 2 ^ s % 256:Nat):Int):=by rw[← hby,IntKind.wrap_u8]
   rw[hsi];have hq2:x / 2 ^ s % 256<256:=Nat.mod_lt _ (by decide);generalize hq:x / 2 ^ s % 256=q at *;have hlit:=zaa (zbq (l:=[q]) (zad wr (.cells #[.int .u8 (q:Int)] 5)) (by intro c hc;simp only[List.mem_cons,List.not_mem_nil,or_false] at hc;omega));have bA:=zaa (show Below wr.heap.size wr (wr.alloc (.cells #[.int .u8 (q:Int)] 5)) from(Below.refl _ _).alloc (Nat.le_refl _) _);have hbr:base≤wr.heap.size:=Nat.le_trans hbase (za hg').grown.size
   have hs2:=zaa (show(l++(zf7 x).take j).length+1≤140737488355328 by
    rw[List.length_append];have:((zf7 x).take j).length≤7:=by rw[List.length_take];omega
    omega)
   have hj1:j+1≤8:=by omega
   clear hs hsi hq hjm
   go_wp2_with (at_builtin;refine zbh rfl (.tmp 13) (.tmp 18) rfl base sp' n' c' _ rfl (za hl') (by exact(za ho').later (za bA)) (some ⟨wr.heap.size,0,none⟩) 1 1 rfl [q] rfl (by exact za hlit) (fun h=>by cases h) (za hs2) (Nat.le_trans hbr (za bA).size) ?_;intro sp2 n2 c2 W2 hn2 ho2 hg2 hb2;rw[List.append_assoc,← za FT] at hn2 ho2;have HO2:=zaa ho2;clear ho2)
   have hbn:=zaa ((za hg').trans (Grew.aside (za bA) ⟨hg2,hb2⟩));refine⟨⟨j+1,sp2,n2,c2,hj1,rfl,?_,by first|exact hn2|exact zaa (by rw[List.length_append];exact za hn2),za HO2,za hbn⟩,?_⟩
   ·first|(rw[za hnx])|(rw[← za hnx];go_num)
   ·have hh:=za hnx;simp[intOf];omega
  ·have hj8:j=8:=by omega
   have E:=zaa (show(zf7 x).take j=zf7 x from List.take_of_length_le (by rw[zfj];omega));have y0:¬ (0:Int)≤56 - 8*(j:Int):=by omega
   clear hj8
   go_wp2
   go_ret
   exact⟨sp',n',c',rfl,zaa (by rw[← za E];simpa using za hl'),by rw[← za E];exact za ho',za hg'⟩
def tgB (t:Tgt):List Nat:=txB t.1++zf7 t.2
def zkj (ts:List Tgt):List Nat:=zat ts.length++ts.flatMap tgB
def zas (p:Po):List Nat:=txB p.nm++zkj p.ts
def zan (r:Rt):List Nat:=txB r.h++(txB r.p++txB r.l)
def zar (e:Cf):List Nat:=zat e.ps.length++(e.ps.flatMap zas++(zat e.rs.length++e.rs.flatMap zan))
end
end Go.Proofs.YtjcjleaicjhpeaaGreatDoor
