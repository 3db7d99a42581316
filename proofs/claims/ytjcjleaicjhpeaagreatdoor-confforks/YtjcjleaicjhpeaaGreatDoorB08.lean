/- Conf: Check's small functions, the rest: hosts, weights, lists of targets. -/
import Derived.Test.YtjcjleaicjhpeaaGreatDoorB07
import Derived.Test.YtjcjleaicjhpeaaGreatDoorB01
set_option linter.unusedVariables false
set_option maxRecDepth 20000
set_option maxHeartbeats 16000000
namespace Go.Proofs.YtjcjleaicjhpeaaGreatDoor
section
open Go.ChangeShapes Go.WideShapes Go.ChangeAt Go.RowKit
theorem ziu (w:World):Calls Tryz.prog 137 #[.int .i64 1] w fun e w'=>e=.returned (.float .f64 9218868437227405312)∧w'=w:=by
 have hf:∀ w,(callFunc 122 #[.int .u64 9218868437227405312]).run Tryz.prog w=.ok (.value (.float .f64 9218868437227405312)) w:=fun w=>zk0 9218868437227405312 w;go_enter Tryz.func137,Tryz.ntmps137
 go_wp2
 go_ret
 exact⟨rfl,rfl⟩
theorem zey (x:Nat) (w:World):Calls Tryz.prog 80 #[.float .f64 x] w fun e w'=>e=.returned (.bool (wtB x))∧Below w.heap.size w w':=by
 have hb:=zdc x;have hb2:∀ w,(callFunc 91 #[.float .f64 9218868437227405312]).run Tryz.prog w=.ok (.value (.int .u64 9218868437227405312)) w:=fun w=>zdc 9218868437227405312 w;have B0:=zaa (Below.refl w.heap.size w);unfold wtB;by_cases h:x<9218868437227405312
 ·have hi:(x:Int)<9218868437227405312:=by omega
  have e:decide (x<9218868437227405312)=true:=decide_eq_true h;rw[e];go_enter Tryz.func80,Tryz.ntmps80
  go_wp2_with (go_at_call 137;refine(ziu _).mono ?_;rintro e w1 ⟨rfl,rfl⟩)
  go_ret
  exact⟨by rfl,by first|exact za B0|exact(za B0).drew⟩
 ·have hi:¬ (x:Int)<9218868437227405312:=by omega
  have e:decide (x<9218868437227405312)=false:=decide_eq_false h;have dI:decide ((x:Int)<9218868437227405312)=false:=decide_eq_false hi;rw[e];go_enter Tryz.func80,Tryz.ntmps80
  go_wp2_with (go_at_call 137;refine(ziu _).mono ?_;rintro e w1 ⟨rfl,rfl⟩)
  go_ret
  exact⟨rfl,by first|exact za B0|exact(za B0).drew⟩
theorem zht {α:Type} (l:List α) (f:α→Bool) (j:Nat) (h:j<l.length):(l.drop j).all f=(f l[j]&&(l.drop (j+1)).all f):=by
 rw[List.drop_eq_getElem_cons h];rfl
theorem zfu {w:World} {a:Option Addr} {l:List Tgt} (h:TgsAt w a l) (n c:Nat) (hn:l.length=n) (hx:n≤maxLen) :
  Calls Tryz.prog 39 #[.slice a n c] w fun e w'=>e=.returned (.bool (zfw l))∧Below w.heap.size w w':=by
 have H1:=zaa h;have HN:=zaa hn;have E0:=zaa (show zfw l=(l.drop 0).all (fun t=>wtB t.2) from rfl);simp only[maxLen] at hx;have hsF:=zdq .plain;clear h hn;go_enter Tryz.func39,Tryz.ntmps39
 go_wp2_with fail
 go_loopw [7] (fun i wr=>∃ j:Nat,j≤n∧i=.int .i64 (j:Int)∧Hid (zfw l=(l.drop j).all (fun t=>wtB t.2))∧Hid (Below w.heap.size w wr)) (fun i _=>n - (intOf i).toNat)
 case atStart=>exact⟨0,by omega,rfl,E0,zaa (Below.refl _ _)⟩
 case round =>
  obtain⟨j,hj,rfl,HE,B⟩:=hrel;by_cases hjn:j<n
  ·have y0:(0:Int)≤(j:Int):=by omega
   have y1:(j:Int)<(n:Int):=by omega
   have hjl:j<l.length:=by rw[za HN];exact hjn
   obtain⟨b1,o1,rfl,q0,q1⟩:=(za H1).cell j hjl;have p0:=cell_later (za B) q0;have p1:=cell_later (za B) q1;have HD:=zaa (show zfw l=(wtB l[j].2&&(l.drop (j+1)).all (fun t=>wtB t.2)) by rw[za HE,zht l _ j hjl]);clear HE q0 q1;generalize l[j]=t at *;obtain⟨s,x⟩:=t;simp only at p0 p1 HD;have X1:=zad wr (.cells #[.string s,.float .f64 x] 70);have c1:=zah X1 1 (.float .f64 x) rfl;have BX:=zaa (show Below w.heap.size w (wr.alloc (.cells #[.string s,.float .f64 x] 70)) from(za B).alloc (za B).size _);clear X1;cases hw:wtB x
   ·rw[hw] at HD
    go_wp2_with (go_at_call 80;refine(zey x _).mono ?_;rintro e w1 ⟨rfl,hb⟩;rw[hw])
    go_ret
    exact⟨by rw[za HD];rfl,(za BX).trans (hb.mono (za BX).size)⟩
   ·rw[hw] at HD
    go_wp2_with (go_at_call 80;refine(zey x _).mono ?_;rintro e w1 ⟨rfl,hb⟩;rw[hw];have B3:=zaa ((za BX).trans (hb.mono (za BX).size));clear hb)
    exact⟨⟨j+1,by omega,by go_num,zaa (by rw[za HD];rfl),B3⟩,by simp[intOf];omega⟩
  ·have hjj:¬ (j:Int)<(n:Int):=by omega
   have E3:=zaa (show zfw l=true by rw[za HE,List.drop_of_length_le (by rw[za HN];omega)];rfl)
   go_wp2
   go_ret
   exact⟨by rw[za E3];rfl,za B⟩
theorem zes {w:World} {a:Option Addr} {l:List Tgt} (h:TgsAt w a l) (hz:∀ t∈l,t.1.size≤140737488355328) (n c:Nat) (hn:l.length=n) (hx:n≤maxLen) :
  Calls Tryz.prog 79 #[.slice a n c] w fun e w'=>e=.returned (.bool (l.all (fun t=>zdb t.1)))∧Below w.heap.size w w':=by
 have H1:=zaa h;have HN:=zaa hn;have HZ:=zaa hz;have E0:=zaa (show l.all (fun t=>zdb t.1)=(l.drop 0).all (fun t=>zdb t.1) from rfl);simp only[maxLen] at hx;have hsF:=zdq .plain;generalize hR:l.all (fun t=>zdb t.1)=R at *;clear h hn hz hR;go_enter Tryz.func79,Tryz.ntmps79
 go_wp2_with fail
 go_loopw [7] (fun i wr=>∃ j:Nat,j≤n∧i=.int .i64 (j:Int)∧Hid (R=(l.drop j).all (fun t=>zdb t.1))∧Hid (Below w.heap.size w wr)) (fun i _=>n - (intOf i).toNat)
 case atStart=>exact⟨0,by omega,rfl,E0,zaa (Below.refl _ _)⟩
 case round =>
  obtain⟨j,hj,rfl,HE,B⟩:=hrel;by_cases hjn:j<n
  ·have y0:(0:Int)≤(j:Int):=by omega
   have y1:(j:Int)<(n:Int):=by omega
   have hjl:j<l.length:=by rw[za HN];exact hjn
   obtain⟨b1,o1,rfl,q0,q1⟩:=(za H1).cell j hjl;have p0:=cell_later (za B) q0;have p1:=cell_later (za B) q1;have HD:=zaa (show R=(zdb l[j].1&&(l.drop (j+1)).all (fun t=>zdb t.1)) by rw[za HE,zht l _ j hjl]);have HS:=zaa (za HZ l[j] (List.getElem_mem hjl));clear HE q0 q1;generalize l[j]=t at *;obtain⟨s,x⟩:=t;simp only at p0 p1 HD HS;have X1:=zad wr (.cells #[.string s,.float .f64 x] 70);have c1:=zah X1 0 (.string s) rfl;have BX:=zaa (show Below w.heap.size w (wr.alloc (.cells #[.string s,.float .f64 x] 70)) from(za B).alloc (za B).size _);clear X1;cases hw:zdb s
   ·rw[hw] at HD
    go_wp2_with (go_at_call 136;refine(zd9 s (za HS) _).mono ?_;rintro e w1 ⟨rfl,hb⟩;rw[hw])
    go_ret
    exact⟨by rw[za HD];rfl,(za BX).trans (hb.mono (za BX).size)⟩
   ·rw[hw] at HD
    go_wp2_with (go_at_call 136;refine(zd9 s (za HS) _).mono ?_;rintro e w1 ⟨rfl,hb⟩;rw[hw];have B3:=zaa ((za BX).trans (hb.mono (za BX).size));clear hb)
    exact⟨⟨j+1,by omega,by go_num,zaa (by rw[za HD];rfl),B3⟩,by simp[intOf];omega⟩
  ·have hjj:¬ (j:Int)<(n:Int):=by omega
   have E3:=zaa (show R=true by rw[za HE,List.drop_of_length_le (by rw[za HN];omega)];rfl)
   go_wp2
   go_ret
   exact⟨by rw[za E3];rfl,za B⟩
def Mx (w:World):Prop:=∃ m,w.cell? ⟨Tryz.laysM146_ren.g 1,0,none⟩=some (.int .i64 m)
theorem Mx.later {w w':World} (h:Mx w) (hb:Below w.heap.size w w'):Mx w':=let ⟨m,hm⟩:=h;⟨m,cell_later hb hm⟩
theorem zj8 (s:ByteArray) (w:World) (hm:Mx w) (hs:s.size≤64):Calls Tryz.prog 132 #[.string s,.string ⟨#[46]⟩] w fun e w' =>
  e=.returned (.slice (some ⟨w.heap.size,0,none⟩) (Lib.splitB zf7 0 (Lib.countB s zf7) s).length (Lib.splitB zf7 0 (Lib.countB s zf7) s).length)∧w'=w.alloc (.cells ((Lib.splitB zf7 0 (Lib.countB s zf7) s).map Value.string).toArray 9):=by
 obtain⟨m,hm⟩:=hm;have h1:1≤zf7.size:=by decide
 have hlen:=Lib.splitB_all zf7 h1 0 _ s rfl;have:=Any.strings_Split { Tryz.laysM146 with } Tryz.laysM146.i9 s zf7 m w (by omega) hm h1;rw[hlen];exact this
theorem ziv (s:ByteArray) (hs:s.size≤140737488355328) (w:World) (hm:Mx w):Calls Tryz.prog 76 #[.string s] w fun e w'=>e=.returned (.bool (zbs s))∧Below w.heap.size w w':=by
 by_cases h64:s.size≤64
 ·have SC:=zaa (zj8 s w hm h64);have E0:=zaa (show zbs s=((Lib.splitB zf7 0 (Lib.countB s zf7) s).drop 0).all zcq by rw[List.drop_zero,zlh _ s rfl h64];unfold zbs;rw[decide_eq_true h64];rfl);have HZ:=zaa (show ∀ p∈Lib.splitB zf7 0 (Lib.countB s zf7) s,p.size≤140737488355328 from fun p hp=>Nat.le_trans (zm5 _ _ _ hp) hs)
  have HC:=zaa (show(Lib.splitB zf7 0 (Lib.countB s zf7) s).length≤65 by
   rw[Lib.splitB_all zf7 (by decide) 0 _ s rfl];have:=Lib.countB_le zf7 (by decide) s.size s (Nat.le_refl _)
   omega)
  have hi:¬ (64:Int)<(s.size:Int):=by omega
  generalize Lib.splitB zf7 0 (Lib.countB s zf7) s=l at *;have X1:=zad w (.cells (l.map Value.string).toArray 9);have HX:=zaa X1;have B0:=zaa (show Below w.heap.size w (w.alloc (.cells (l.map Value.string).toArray 9)) from(Below.refl _ _).alloc (Nat.le_refl _) _)
  have KC:=zaa (show ∀ j x W,l[j]? = some x→Below (w.heap.size+1) (w.alloc (.cells (l.map Value.string).toArray 9)) W→W.cell? ⟨w.heap.size,j,none⟩=some (.string x) from fun j x W hx hb=>by
   have hg:=(hb.block w.heap.size (by omega)).trans (za HX);rw[cell_of_row _ _ _ _ _ _ hg]
   simp[hx])
  have hc:=za HC;clear X1 HX HC hm h64;generalize hn:l.length=n at *;have HN:=zaa hn;clear hn;go_enter Tryz.func76,Tryz.ntmps76
  go_wp2_with (go_at_call 132;refine(za SC).mono ?_;rintro e w1 ⟨rfl,rfl⟩)
  go_loopw [11] (fun i wr=>∃ j:Nat,j≤n∧i=.int .i64 (j:Int)∧Hid (zbs s=(l.drop j).all zcq)∧Hid (Below (w.heap.size+1) (w.alloc (.cells (l.map Value.string).toArray 9)) wr)) (fun i _=>n - (intOf i).toNat)
  case atStart=>exact⟨0,by omega,rfl,E0,zaa (Below.refl _ _)⟩
  case round =>
   obtain⟨j,hj,rfl,HE,B⟩:=hrel;by_cases hjn:j<n
   ·have y0:(0:Int)≤(j:Int):=by omega
    have y1:(j:Int)<(n:Int):=by omega
    have hjl:j<l.length:=by rw[za HN];exact hjn
    have p0:=za KC j _ wr (List.getElem?_eq_getElem hjl) (za B);have HD:=zaa (show zbs s=(zcq l[j]&&(l.drop (j+1)).all zcq) by rw[za HE,zht l _ j hjl]);have HS:=zaa (za HZ l[j] (List.getElem_mem hjl));clear HE;generalize l[j]=t at *;cases hw:zcq t
    ·rw[hw] at HD
     go_wp2_with (go_at_call 78;refine(ze t (za HS) _).mono ?_;rintro e w1 ⟨rfl,hb⟩;rw[hw])
     go_ret
     exact⟨by rw[za HD];rfl,(za B0).trans (((za B).trans (hb.mono (by have:=(za B).size;simp at this;omega))).mono (by simp))⟩
    ·rw[hw] at HD
     go_wp2_with (go_at_call 78;refine(ze t (za HS) _).mono ?_;rintro e w1 ⟨rfl,hb⟩;rw[hw];have B3:=zaa ((za B).trans (hb.mono (by have:=(za B).size;simp at this;omega)));clear hb)
     exact⟨⟨j+1,by omega,by go_num,zaa (by rw[za HD];rfl),B3⟩,by simp[intOf];omega⟩
   ·have hjj:¬ (j:Int)<(n:Int):=by omega
    have E3:=zaa (show zbs s=true by rw[za HE,List.drop_of_length_le (by rw[za HN];omega)];rfl)
    go_wp2
    go_ret
    exact⟨by rw[za E3];rfl,(za B0).trans ((za B).mono (by simp))⟩
 ·have hi:(64:Int)<(s.size:Int):=by omega
  have E:=zaa (show zbs s=false by unfold zbs;rw[decide_eq_false h64];rfl);go_enter Tryz.func76,Tryz.ntmps76
  go_wp2
  go_ret
  exact⟨by rw[za E];rfl,Below.refl _ _⟩
def zdy (ts:List ByteArray):Array Value:=(ts.map Value.string).toArray
theorem zm7 (ts:List ByteArray) (j:Nat) (h:j<ts.length):(zdy ts)[j]? = some (.string ts[j]):=by
 unfold zdy;simp[h]
theorem zc6 (base:Nat) {w:World} {sp:Option Addr} {n0 c:Nat} {l:List Nat} (hn0:l.length=n0) (hown:OwnB base w sp c l) (B m mc:Nat) (ts:List ByteArray) (hm:ts.length=m) (hB:w.heap[B]? = some (.cells (zdy ts) 9 (0,0)))
  (hts:∀ t∈ts,t.size≤1000000) (hsz:l.length+1000006*m≤140737488355328) (hm2:m≤1000) (hbase:base≤w.heap.size) :
  Calls Tryz.prog 149 #[.slice sp n0 c,.slice (some ⟨B,0,none⟩) m mc] w fun e w'=>∃ sp' n' c',e=.returned (.slice sp' n' c')∧Hid ((l++zn2 ts).length=n')∧OwnB base w' sp' c' (l++zn2 ts)∧Grew w sp w' sp':=by
 have HO:=zaa hown;have HN:=zaa hn0;have HM:=zaa hm;have HB:=zaa hB;have HNE:=zaa (hown.ne hB tyne.2);have HNS:=zaa hts
 have LE:=zaa (show ∀ j,((ts.take j).flatMap txB).length≤1000006*m from fun j=>by
  have h1:=zb6 txB 1000006 (ts.take j) (fun x hx=>by
   have h2:=hts x (List.mem_of_mem_take hx);have:=zcf x (by omega)
   omega)
  have h2:(ts.take j).length≤m:=by rw[← hm,List.length_take];omega
  omega)
 clear hown hn0 hm hB hts;go_enter Tryz.func149,Tryz.ntmps149
 go_wp2
 go_loopw [0,9] (fun v i wr=>∃ (j:Nat) (sp':Option Addr) (n' c':Nat),j≤m∧v=.slice sp' n' c'∧i=.int .i64 (j:Int)∧Hid ((l++(ts.take j).flatMap txB).length=n')∧Hid (OwnB base wr sp' c' (l++(ts.take j).flatMap txB))∧Hid (Grew w sp wr sp')) (fun _ i _=>m - (intOf i).toNat)
 case atStart=>exact⟨0,sp,n0,c,by omega,rfl,rfl,zaa (by simpa using za HN),zaa (by simpa using za HO),Grew.refl _ _⟩
 case round =>
  obtain⟨j,sp',n',c',hj,rfl,rfl,hl',ho',hg'⟩:=hrel;by_cases hjm:j<m
  ·have y0:(0:Int)≤(j:Int):=by omega
   have y1:(j:Int)<(m:Int):=by omega
   have hjl:j<ts.length:=by rw[za HM];exact hjm
   have hBr:=Grew.block (za hg') (za HB) (za HNE);have p0:=zah hBr j _ (zm7 ts j hjl);have hx:=za HNS ts[j] (List.getElem_mem hjl);have FT:=zaa (zby txB ts j hjl);generalize ts[j]=x at *
   have LJ:=zaa (show(l++(ts.take j).flatMap txB).length+6+x.size≤140737488355328 by
    have h1:=za LE j;have h2:1000006*(j+1)≤1000006*m:=Nat.mul_le_mul_left _ (by omega);have h3:((ts.take j).flatMap txB).length≤1000006*j:=by
     have h1:=zb6 txB 1000006 (ts.take j) (fun x hx=>by
      have h2:=za HNS x (List.mem_of_mem_take hx);have:=zcf x (by omega)
      omega)
     have h2:(ts.take j).length≤j:=by rw[List.length_take];omega
     omega
    rw[List.length_append];omega)
   have hbr:base≤wr.heap.size:=Nat.le_trans hbase (za hg').grown.size;have X1:=zaa (show(wr.alloc (.cells (zcc [x.size]) 3)).heap[wr.heap.size]? = some (.cells (zcc [x.size]) 3 (0,0)) from zad wr (.cells (zcc [x.size]) 3));have bA:=zaa (show Below wr.heap.size wr (wr.alloc (.cells (zcc [x.size]) 3)) from(Below.refl _ _).alloc (Nat.le_refl _) _);have CN:=zaa (za2 base (za hl') ((za ho').later (za bA)) wr.heap.size 1 1 [x.size] rfl (za X1) (by intro n hn;simp at hn;omega) (by have:=za LJ;omega) (by omega) (Nat.le_trans hbr (za bA).size));have hxs:x.size≤1000000:=hx;rw[show zcc [x.size]=#[.int .i64 (x.size:Int)] from rfl] at CN X1 bA;clear hBr hx
   go_wp2_with fail
   refine(za CN).mono ?_;rintro e V ⟨s1,m1,c1,rfl,hn1,ho1,hg1⟩;have hV:=zaa (Grew.aside (za bA) hg1);have hvs:base≤V.heap.size:=Nat.le_trans hbr (za hV).grown.size;have HO1:=zaa ho1;have hne1:=zaa (ho1.some_ (by rw[List.length_append];have:=(zb1 x.size).1;simp[zg1];omega))
   have hs2:=zaa (show m1+x.size≤140737488355328 by
    rw[← za hn1,List.length_append];have h1:=za LJ;have h2:=zan x.size (by omega);simp[zg1];simp at h1
    omega)
   clear ho1 hg1 CN
   go_wp2_with (at_builtin;refine zej rfl (.tmp 17) (.tmp 18) rfl s1 m1 c1 _ rfl (za hn1) (za HO1) (za hne1) x rfl (za hs2) hvs ?_;intro sp2 n2 c2 W2 hn2 ho3 hg2 hnn;rw[List.append_assoc,List.append_assoc,show zg1 [x.size]++bsT x=txB x by simp[zg1,txB],← za FT] at hn2 ho3;have HO3:=zaa ho3;clear ho3)
   have hbn:=zaa ((za hg').trans ((za hV).trans hg2));exact⟨⟨j+1,sp2,n2,c2,by omega,rfl,by go_num,by first|exact hn2|exact zaa (by rw[List.length_append];exact za hn2),za HO3,za hbn⟩,by simp[intOf];omega⟩
  ·have hjj:¬ (j:Int)<(m:Int):=by omega
   have E:=zaa (show(ts.take j).flatMap txB=zn2 ts by rw[List.take_of_length_le (by rw[za HM];omega)];rfl)
   go_wp2
   go_ret
   exact⟨sp',n',c',rfl,zaa (by rw[← za E];simpa using za hl'),by rw[← za E];exact za ho',za hg'⟩
def zgk (x:Nat):List Nat:=(List.range 8).map (fun k=>x / 2 ^ (56 - 8*k) % 256)
theorem zfv (x:Nat):(zgk x).length=8:=by simp[zgk]
theorem zje (x j:Nat) (h:j<8):(zgk x).take (j+1)=(zgk x).take j++[x / 2 ^ (56 - 8*j) % 256]:=by
 rw[List.take_succ_eq_append_getElem (by rw[zfv];exact h)];simp[zgk]
theorem zku (x s:Nat):((x:Int) / 2 ^ s) % 256=((x / 2 ^ s % 256:Nat):Int):=by
 have:((x / 2 ^ s:Nat):Int)=(x:Int) / 2 ^ s:=by simp
 rw[← this];omega
theorem zdz (base:Nat) {w:World} {sp:Option Addr} {n0 c:Nat} {l:List Nat} (hn0:l.length=n0) (hown:OwnB base w sp c l) (x:Nat) (hx:x<18446744073709551616) (hsz:l.length+8≤140737488355328) (hbase:base≤w.heap.size) :
  Calls Tryz.prog 188 #[.slice sp n0 c,.float .f64 x] w fun e w'=>∃ sp' n' c',e=.returned (.slice sp' n' c')∧Hid ((l++zgk x).length=n')∧OwnB base w' sp' c' (l++zgk x)∧Grew w sp w' sp':=by
 have HO:=zaa hown;have HN:=zaa hn0;have hbits:=zdc x;have LE:=zaa (show ∀ j,((zgk x).take j).length≤8 from fun j=>by have:=zfv x;rw[List.length_take];omega);clear hown hn0;go_enter Tryz.func188,Tryz.ntmps188
 go_wp2_with fail
 go_loopw [0,6] (fun v i wr=>∃ (j:Nat) (sp':Option Addr) (n' c':Nat),j≤8∧v=.slice sp' n' c'∧i=.int .i64 (56 - 8*(j:Int))∧Hid ((l++(zgk x).take j).length=n')∧Hid (OwnB base wr sp' c' (l++(zgk x).take j))∧Hid (Grew w sp wr sp')) (fun _ i _=>(intOf i+8).toNat)
 case atStart=>exact⟨0,sp,n0,c,by omega,rfl,rfl,zaa (by simpa using za HN),zaa (by simpa using za HO),Grew.refl _ _⟩
 case round =>
  obtain⟨j,sp',n',c',hj,rfl,rfl,hl',ho',hg'⟩:=hrel;by_cases hjm:j<8
  ·obtain⟨s,hs⟩:∃ s:Nat,s=56 - 8*j:=⟨_,rfl⟩
   have hsi:56 - 8*(j:Int)=(s:Int):=by omega
   have hnx:=zaa (show(s:Int) - 8=56 - 8*((j+1:Nat):Int) by omega);have y0:(0:Int)≤(s:Int):=by omega
   have y1:(s:Int)≤56:=by omega
   have y2:s≤64:=by omega
   have hmin:min s 64=s:=by omega
   have hby:=zku x s;have HB:=zaa hby;have FT:=zaa (zje x j hjm);rw[← hs] at FT;have hw8:IntKind.u8.wrap ((x:Int) / 2 ^ s)=((x / 2 ^ s % 256:Nat):Int):=by rw[← hby,IntKind.wrap_u8]
   rw[hsi];have hq2:x / 2 ^ s % 256<256:=Nat.mod_lt _ (by decide);generalize hq:x / 2 ^ s % 256=q at *;have hlit:=zaa (zbr (l:=[q]) (zad wr (.cells #[.int .u8 (q:Int)] 5)) (by intro c hc;simp only[List.mem_cons,List.not_mem_nil,or_false] at hc;omega));have bA:=zaa (show Below wr.heap.size wr (wr.alloc (.cells #[.int .u8 (q:Int)] 5)) from(Below.refl _ _).alloc (Nat.le_refl _) _);have hbr:base≤wr.heap.size:=Nat.le_trans hbase (za hg').grown.size
   have hs2:=zaa (show(l++(zgk x).take j).length+1≤140737488355328 by
    rw[List.length_append];have:((zgk x).take j).length≤7:=by rw[List.length_take];omega
    omega)
   have hj1:j+1≤8:=by omega
   clear hs hsi hq hjm
   go_wp2_with (at_builtin;refine zbc rfl (.tmp 13) (.tmp 18) rfl base sp' n' c' _ rfl (za hl') (by exact(za ho').later (za bA)) (some ⟨wr.heap.size,0,none⟩) 1 1 rfl [q] rfl (by exact za hlit) (fun h=>by cases h) (za hs2) (Nat.le_trans hbr (za bA).size) ?_;intro sp2 n2 c2 W2 hn2 ho2 hg2 hb2;rw[List.append_assoc,← za FT] at hn2 ho2;have HO2:=zaa ho2;clear ho2)
   have hbn:=zaa ((za hg').trans (Grew.aside (za bA) ⟨hg2,hb2⟩));refine⟨⟨j+1,sp2,n2,c2,hj1,rfl,?_,by first|exact hn2|exact zaa (by rw[List.length_append];exact za hn2),za HO2,za hbn⟩,?_⟩
   ·first|(rw[za hnx])|(rw[← za hnx];go_num)
   ·have hh:=za hnx;simp[intOf];omega
  ·have hj8:j=8:=by omega
   have E:=zaa (show(zgk x).take j=zgk x from List.take_of_length_le (by rw[zfv];omega));have y0:¬ (0:Int)≤56 - 8*(j:Int):=by omega
   clear hj8
   go_wp2
   go_ret
   exact⟨sp',n',c',rfl,zaa (by rw[← za E];simpa using za hl'),by rw[← za E];exact za ho',za hg'⟩
def tgB (t:Tgt):List Nat:=txB t.1++zgk t.2
def zkx (ts:List Tgt):List Nat:=zap ts.length++ts.flatMap tgB
def zav (p:Po):List Nat:=txB p.nm++zkx p.ts
def zao (r:Rt):List Nat:=txB r.h++(txB r.p++txB r.l)
def zaq (e:Cf):List Nat:=zap e.ps.length++(e.ps.flatMap zav++(zap e.rs.length++e.rs.flatMap zao))
end
end Go.Proofs.YtjcjleaicjhpeaaGreatDoor
