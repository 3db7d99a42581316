/- The document's answers of layer 2: entry of the scan, GetEntry, SameEntry. -/
import Derived.Test.YtofllbpfajppeaaGreatDoorB22
import Derived.Test.YtofllbpfajppeaaGreatDoorB13
import Derived.Test.YtofllbpfajppeaaGreatDoorB11
set_option linter.unusedVariables false
set_option maxRecDepth 20000
set_option maxHeartbeats 16000000
namespace Go.Proofs.YtofllbpfajppeaaGreatDoor
section
open Go.ChangeShapes Go.WideShapes Go.ChangeAt Go.RowKit
theorem zka {l:List Nat} {m k x:Nat} (hx:x≠0):zfk l m k x=(0,k,x):=by rw[zfk,if_pos hx]
theorem zth (l:List Nat) (k:Nat):(∃ y,y≠0∧zju l k=.error y∧zfk l 1 k 0=(0,k,y))∨∃ n k2,zju l k=.ok (n,k2)∧zfk l 1 k 0=(n,k2,0):=by
 cases ht:zbh l k with
 |error y=>exact .inl ⟨y,zc ht,by rw[zju,ht],by simp only[zfk,ht];rfl⟩
 |ok p =>
  obtain⟨n,k2⟩:=p;by_cases hn:n=0
  ·exact .inl ⟨4,by decide,by rw[zju,ht];simp only[if_pos hn],by simp only[zfk,ht,if_pos (show n<1 by omega)];rfl⟩
  ·exact .inr ⟨n,k2,by rw[zju,ht];simp only[if_neg hn],by simp only[zfk,ht,if_neg (show ¬ n<1 by omega)];rfl⟩
theorem zzm (l:List Nat) (lo hi k:Nat):(∃ y,y≠0∧zkc l lo hi k=.error y∧zo7 l lo hi k 0=(0,k,y))∨∃ n k2,zkc l lo hi k=.ok (n,k2)∧zo7 l lo hi k 0=(n,k2,0):=by
 cases ht:zkc l lo hi k with
 |error y=>exact .inl ⟨y,zti ht,rfl,by simp only[zo7,ht];rfl⟩
 |ok p=>exact .inr ⟨p.1,p.2,rfl,by simp only[zo7,ht];rfl⟩
theorem zws {l:List Nat} {k kd k1 x1 t k2 x2 i k3 x3:Nat} (h1:zo7 l 1 3 k 0=(kd,k1,x1)) (h2:zfk l 1 k1 x1=(t,k2,x2)) (h3:zfk l 1 k2 x2=(i,k3,x3)) :
  (x3≠0∧za9 l k=.error x3)∨(x3=0∧zkc l 1 3 k=.ok (kd,k1)∧zju l k1=.ok (t,k2)∧zju l k2=.ok (i,k3)):=by
 rcases zzm l 1 3 k with⟨y,hy,e1,e2⟩|⟨n,k',e1,e2⟩
 ·rw[e2] at h1;simp only[Prod.mk.injEq] at h1;obtain⟨rfl,rfl,rfl⟩:=h1;rw[zka hy] at h2;simp only[Prod.mk.injEq] at h2;obtain⟨rfl,rfl,rfl⟩:=h2;rw[zka hy] at h3;simp only[Prod.mk.injEq] at h3;obtain⟨rfl,rfl,rfl⟩:=h3;exact .inl ⟨hy,by rw[za9,e1]⟩
 ·rw[e2] at h1;simp only[Prod.mk.injEq] at h1;obtain⟨rfl,rfl,rfl⟩:=h1;rcases zth l k' with⟨y,hy,f1,f2⟩|⟨m,k'',f1,f2⟩
  ·rw[f2] at h2;simp only[Prod.mk.injEq] at h2;obtain⟨rfl,rfl,rfl⟩:=h2;rw[zka hy] at h3;simp only[Prod.mk.injEq] at h3;obtain⟨rfl,rfl,rfl⟩:=h3;exact .inl ⟨hy,by rw[za9,e1];simp only[f1]⟩
  ·rw[f2] at h2;simp only[Prod.mk.injEq] at h2;obtain⟨rfl,rfl,rfl⟩:=h2;rcases zth l k'' with⟨y,hy,g1,g2⟩|⟨q,k''',g1,g2⟩
   ·rw[g2] at h3;simp only[Prod.mk.injEq] at h3;obtain⟨rfl,rfl,rfl⟩:=h3;exact .inl ⟨hy,by rw[za9,e1];simp only[f1,g1]⟩
   ·rw[g2] at h3;simp only[Prod.mk.injEq] at h3;obtain⟨rfl,rfl,rfl⟩:=h3;exact .inr ⟨rfl,e1,f1,g1⟩
theorem zy5 {l:List Nat} {k k1 x1 t k2 x2 i k3 x3 n k4 x4:Nat} (h1:zo7 l 1 3 k 0=(1,k1,x1)) (h2:zfk l 1 k1 x1=(t,k2,x2)) (h3:zfk l 1 k2 x2=(i,k3,x3)) (h4:zfk l 0 k3 x3=(n,k4,x4)) :
  (x4=0∧0<n∧za9 l k=.error 4)∨(x4=0∧¬ 0<n∧za9 l k=.ok ((1,t,i,[]),k4))∨(x4≠0∧za9 l k=.error x4):=by
 rcases zws h1 h2 h3 with⟨hx,he⟩|⟨rfl,e1,e2,e3⟩
 ·rw[zka hx] at h4;simp only[Prod.mk.injEq] at h4;obtain⟨rfl,rfl,rfl⟩:=h4;exact .inr (.inr ⟨hx,he⟩)
 ·cases ht:zbh l k3 with
  |error y =>
   simp only[zfk,ht] at h4;have h4':(0,k3,y)=(n,k4,x4):=h4;simp only[Prod.mk.injEq] at h4';obtain⟨rfl,rfl,rfl⟩:=h4';exact .inr (.inr ⟨zc ht,by rw[za9,e1];simp only[e2,e3,zfu,ht]⟩)
  |ok p =>
   obtain⟨n',k'⟩:=p;simp only[zfk,ht] at h4;have h4':(n',k',0)=(n,k4,x4):=h4;simp only[Prod.mk.injEq] at h4';obtain⟨rfl,rfl,rfl⟩:=h4';by_cases hn:0<n'
   ·exact .inl ⟨rfl,hn,by rw[za9,e1];simp only[e2,e3,zfu,ht,hn,and_self,if_true]⟩
   ·obtain rfl:n'=0:=by omega
    refine .inr (.inl ⟨rfl,hn,?_⟩);rw[za9,e1];simp[e2,e3,zfu,ht,zgp]
theorem zAw {l:List Nat} {k kd k1 t k2 i k3:Nat} (hkd:kd≠1) (e1:zkc l 1 3 k=.ok (kd,k1)) (e2:zju l k1=.ok (t,k2)) (e3:zju l k2=.ok (i,k3)) :
  za9 l k=match zv8 l 2048 k3 with | .error y=>.error y | .ok (d,k5)=>.ok ((kd,t,i,d),k5):=by
 rw[za9,e1];simp only[e2,e3,zfu,zv8];cases ht:zbh l k3 with
 |error y=>rfl
 |ok p =>
  obtain⟨n,k4⟩:=p;simp only[if_neg (show ¬ (kd=1∧0<n) from fun h=>hkd h.1)];by_cases hn:2048<n
  ·simp only[if_pos hn]
  ·simp only[if_neg hn];cases zgp l n k4 <;> rfl
def zAq (S:Nat) (a:Option Addr) (c:Nat) (l:List Nat) (base:Nat) (r:Except Nat ((Nat×Nat×Nat×List Nat)×Nat)) (e:Ending) (w':World):Prop :=
 match r with
 |.ok (p,k')=>(∃ sp m cc,e=.returned (entVal (p.1:Int) (p.2.1:Int) (p.2.2.1:Int) sp m cc)∧Hid (p.2.2.2.length=m)∧OwnB base w' sp cc p.2.2.2)∧ScAt S w' a c l k' 0
 |.error y=>(∃ (kd t i:Int) (sp:Option Addr) (m cc:Nat),e=.returned (entVal kd t i sp m cc))∧∃ k',ScAt S w' a c l k' y
theorem zlj (S:Nat) (a:Option Addr) (c:Nat) (l:List Nat) (k:Nat) (w:World) (h:ScAt S w a c l k 0) (hl:l.length≤140737488355328) (hc:l.length≤c) (hz:a=none→c=0) :
  Calls Tryz.prog 166 #[.pointer (some ⟨S,0,none⟩)] w fun e w'=>zAq S a c l w.heap.size (za9 l k) e w'∧w.grownBy w' (some S):=by
 have HL:=zaa hl;have HC:=zaa hc;have HZ:=zaa hz;have b1:Below w.heap.size w (w.alloc (.cells #[.int .i64 0,.int .i64 0,.int .i64 0,.slice none 0 0] 64)):=(Below.refl _ _).alloc (Nat.le_refl _) _;have S0:=zaa (h.later b1);have G0:=zaa (zb0 (some S) b1);have Hlt:=zaa h.lt;have HBlt:=zaa (fun b off h0 e=>zfe h.bytes h0 b off e);have R0:=zaa (zad w (.cells #[.int .i64 0,.int .i64 0,.int .i64 0,.slice none 0 0] 64));obtain⟨kd,k1,x1,h1⟩:∃ kd k1 x1,zo7 l 1 3 k 0=(kd,k1,x1):=⟨_,_,_,rfl⟩
 obtain⟨t,k2,x2,h2⟩:∃ t k2 x2,zfk l 1 k1 x1=(t,k2,x2):=⟨_,_,_,rfl⟩
 obtain⟨i,k3,x3,h3⟩:∃ i k3 x3,zfk l 1 k2 x2=(i,k3,x3):=⟨_,_,_,rfl⟩
 have N1:=zaa h1;have N2:=zaa h2;have N3:=zaa h3;have Z0:=zaa (size_alloc w (.cells #[.int .i64 0,.int .i64 0,.int .i64 0,.slice none 0 0] 64));clear h hl hc hz b1 h1 h2 h3;go_enter Tryz.func166,Tryz.ntmps166
 go_wp2_with fail
 generalize w.alloc (.cells #[.int .i64 0,.int .i64 0,.int .i64 0,.slice none 0 0] 64)=W0 at *;refine(zos S a c l 1 3 k 0 _ (za S0) (za HL)).mono ?_;rw[za N1];rintro e W1 ⟨rfl,s1,g1⟩;have G1:=zaa (zag (za G0) g1);have R1:=zaa (zah g1 (za R0) (by have:=za Hlt;omega));have S1:=zaa s1;have Z1:=zaa (show w.heap.size+1≤W1.heap.size from Nat.le_trans (Nat.le_of_eq (za Z0).symm) g1.size);clear s1 g1 G0 R0 S0 Z0
 go_wp2_with fail
 refine(zdt S a c l 1 k1 x1 _ (za S1) (za HL)).mono ?_;rw[za N2];rintro e W2 ⟨rfl,s2,g2⟩;have G2:=zaa (zag (za G1) g2);have R2:=zaa (zah g2 (za R1) (by have:=za Hlt;omega));have S2:=zaa s2;have Z2:=zaa (Nat.le_trans (za Z1) g2.size);clear s2 g2 G1 R1 S1 Z1
 go_wp2_with fail
 refine(zdt S a c l 1 k2 x2 _ (za S2) (za HL)).mono ?_;rw[za N3];rintro e W3 ⟨rfl,s3,g3⟩;have G3:=zaa (zag (za G2) g3);have R3:=zaa (zah g3 (za R2) (by have:=za Hlt;omega));have S3:=zaa s3;have Z3:=zaa (Nat.le_trans (za Z2) g3.size);clear s3 g3 G2 R2 S2 Z2;by_cases hkd:kd=1
 ·subst hkd;obtain⟨n,k4,x4,h4⟩:∃ n k4 x4,zfk l 0 k3 x3=(n,k4,x4):=⟨_,_,_,rfl⟩
  have HE:=zaa (zy5 (za N1) (za N2) (za N3) h4);have N4:=zaa h4;clear h4
  go_wp2_with fail
  refine(zdt S a c l 0 k3 x3 _ (za S3) (za HL)).mono ?_;rw[za N4];rintro e W4 ⟨rfl,s4,g4⟩;have G4:=zaa (zag (za G3) g4);have R4:=zaa (zah g4 (za R3) (by have:=za Hlt;omega));obtain⟨_,_,c4,_,_⟩:=s4.cells;have S4:=zaa s4;clear s4 g4 G3 R3 S3;rcases za HE with⟨rfl,hn,he⟩|⟨rfl,hn,he⟩|⟨hx,he⟩
  ·have HE':=zaa he;clear he HE
   go_wp2_with fail
   refine(zc1 S a c l k4 4 _ (za S4)).mono ?_;rintro e W5 ⟨rfl,s5,g5⟩;have G5:=zaa (zag (za G4) g5);have R5:=zaa (zah g5 (za R4) (by have:=za Hlt;omega));have S5:=zaa s5;obtain⟨⟨p0,p1,p2,p3⟩,f0,f1,f2,f3⟩:=zaq (za R5);clear s5 g5 G4 R4 S4 c4
   go_wp2_with fail
   obtain⟨q6,s7⟩:=zcr (x:=.int .i64 1) (y:=.int .i64 (t:Int)) (z:=.int .i64 (i:Int)) (u:=.slice none 0 0) (za R5);obtain⟨⟨z0,z1,z2,z3⟩,_⟩:=zaq q6;refine bodyPost_ret (v:=entVal 1 (t:Int) (i:Int) none 0 0) (by simp[results,Tryz.results166,go_sem,z0,z1,z2,z3]) rfl ?_;rw[za HE'];exact⟨⟨⟨_,_,_,_,_,_,rfl⟩,k4,(za S5).far s7 (by have:=za Hlt;omega) (fun b off h0 e=>by have:=za HBlt b off h0 e;omega)⟩,zch (za G5) s7 (Nat.le_refl _)⟩
  ·have HE':=zaa he;clear he HE;obtain⟨⟨p0,p1,p2,p3⟩,f0,f1,f2,f3⟩:=zaq (za R4)
   go_wp2_with fail
   obtain⟨q6,s7⟩:=zcr (x:=.int .i64 1) (y:=.int .i64 (t:Int)) (z:=.int .i64 (i:Int)) (u:=.slice none 0 0) (za R4);obtain⟨⟨z0,z1,z2,z3⟩,_⟩:=zaq q6;refine bodyPost_ret (v:=entVal 1 (t:Int) (i:Int) none 0 0) (by simp[results,Tryz.results166,go_sem,z0,z1,z2,z3]) rfl ?_;rw[za HE'];exact⟨⟨⟨none,0,0,rfl,rfl,OwnB.ofNil _ _⟩,(za S4).far s7 (by have:=za Hlt;omega) (fun b off h0 e=>by have:=za HBlt b off h0 e;omega)⟩,zch (za G4) s7 (Nat.le_refl _)⟩
  ·have HE':=zaa he;have hx0:¬ (x4:Int)=0:=by omega
   clear he HE hx;obtain⟨⟨p0,p1,p2,p3⟩,f0,f1,f2,f3⟩:=zaq (za R4)
   go_wp2_with fail
   obtain⟨q6,s7⟩:=zcr (x:=.int .i64 1) (y:=.int .i64 (t:Int)) (z:=.int .i64 (i:Int)) (u:=.slice none 0 0) (za R4);obtain⟨⟨z0,z1,z2,z3⟩,_⟩:=zaq q6;refine bodyPost_ret (v:=entVal 1 (t:Int) (i:Int) none 0 0) (by simp[results,Tryz.results166,go_sem,z0,z1,z2,z3]) rfl ?_;rw[za HE'];exact⟨⟨⟨_,_,_,_,_,_,rfl⟩,k4,(za S4).far s7 (by have:=za Hlt;omega) (fun b off h0 e=>by have:=za HBlt b off h0 e;omega)⟩,zch (za G4) s7 (Nat.le_refl _)⟩
 ·rcases zws (za N1) (za N2) (za N3) with⟨hx,he⟩|⟨rfl,e1,e2,e3⟩
  ·have HE':=zaa he;clear he;have HX:=zaa hx;clear hx
   go_wp2_with fail
   refine(zA3 S a c l 2048 k3 x3 _ (za S3) (za HL) (za HX)).mono ?_;rintro e W4 ⟨rfl,s4,g4⟩;have G4:=zaa (zag (za G3) g4);have R4:=zaa (zah g4 (za R3) (by have:=za Hlt;omega));have S4:=zaa s4;obtain⟨⟨p0,p1,p2,p3⟩,f0,f1,f2,f3⟩:=zaq (za R4);clear s4 g4 G3 R3 S3
   go_wp2_with fail
   obtain⟨q6,s7⟩:=zcr (x:=.int .i64 (kd:Int)) (y:=.int .i64 (t:Int)) (z:=.int .i64 (i:Int)) (u:=.slice none 0 0) (za R4);obtain⟨⟨z0,z1,z2,z3⟩,_⟩:=zaq q6;refine bodyPost_ret (v:=entVal (kd:Int) (t:Int) (i:Int) none 0 0) (by simp[results,Tryz.results166,go_sem,z0,z1,z2,z3]) rfl ?_;rw[za HE'];exact⟨⟨⟨_,_,_,_,_,_,rfl⟩,k3,(za S4).far s7 (by have:=za Hlt;omega) (fun b off h0 e=>by have:=za HBlt b off h0 e;omega)⟩,zch (za G4) s7 (Nat.le_refl _)⟩
  ·have HE':=zaa (zAw hkd e1 e2 e3);clear e1 e2 e3
   go_wp2_with fail
   refine(zxw S a c l 2048 k3 _ (za S3) (za HL) (za HC) (za HZ)).mono ?_;rintro e W4 ⟨hrow,g4⟩;have G4:=zaa (zag (za G3) g4);have R4:=zaa (zah g4 (za R3) (by have:=za Hlt;omega));obtain⟨⟨p0,p1,p2,p3⟩,f0,f1,f2,f3⟩:=zaq (za R4);clear g4 G3 R3;cases hr:zv8 l 2048 k3 with
   |error y =>
    rw[hr] at hrow HE';obtain⟨rfl,k5,s4⟩:=hrow;have S4:=zaa s4;clear s4
    go_wp2_with fail
    obtain⟨q6,s7⟩:=zcr (x:=.int .i64 (kd:Int)) (y:=.int .i64 (t:Int)) (z:=.int .i64 (i:Int)) (u:=.slice none 0 0) (za R4);obtain⟨⟨z0,z1,z2,z3⟩,_⟩:=zaq q6;refine bodyPost_ret (v:=entVal (kd:Int) (t:Int) (i:Int) none 0 0) (by simp[results,Tryz.results166,go_sem,z0,z1,z2,z3]) rfl ?_;rw[za HE'];exact⟨⟨⟨_,_,_,_,_,_,rfl⟩,k5,(za S4).far s7 (by have:=za Hlt;omega) (fun b off h0 e=>by have:=za HBlt b off h0 e;omega)⟩,zch (za G4) s7 (Nat.le_refl _)⟩
   |ok p =>
    obtain⟨d,k5⟩:=p;rw[hr] at hrow HE';obtain⟨⟨sp,m,cc,rfl,hlen,ho⟩,s4⟩:=hrow;have S4:=zaa s4;have O4:=zaa ho;clear s4 ho
    go_wp2_with fail
    obtain⟨q6,s7⟩:=zcr (x:=.int .i64 (kd:Int)) (y:=.int .i64 (t:Int)) (z:=.int .i64 (i:Int)) (u:=.slice sp m cc) (za R4);obtain⟨⟨z0,z1,z2,z3⟩,_⟩:=zaq q6;refine bodyPost_ret (v:=entVal (kd:Int) (t:Int) (i:Int) sp m cc) (by simp[results,Tryz.results166,go_sem,z0,z1,z2,z3]) rfl ?_;rw[za HE'];exact⟨⟨⟨sp,m,cc,rfl,hlen,((za O4).far s7 (za Z3)).mono (by have:=za Z3;omega)⟩,(za S4).far s7 (by have:=za Hlt;omega) (fun b off h0 e=>by have:=za HBlt b off h0 e;omega)⟩,zch (za G4) s7 (Nat.le_refl _)⟩
theorem zjm (a:Option Addr) (m c:Nat) (l:List Nat) (w:World) (hm:l.length=m) (hl:l.length≤140737488355328) (hc:l.length≤c) (hz:a=none→c=0) (hb:BytesAt w a l) :
  Calls Tryz.prog 133 #[.slice a m c] w fun e w'=>(∃ v,e=.returned v∧zo8 w.heap.size (za6 l (za9 l 0)) w' v)∧Below w.heap.size w w':=by
 subst hm;have HB:=zaa hb;have HL:=zaa hl;have HC:=zaa hc;have HZ:=zaa hz;clear hb hl hc hz;go_enter Tryz.func133,Tryz.ntmps133
 go_wp2_with fail
 have r0:=zbp (.cells #[.slice a l.length c,.int .i64 0,.int .i64 0] 194) (zad w (.cells #[.int .i64 0,.int .i64 0,.int .i64 0,.slice none 0 0] 64));have s0:=zad (w.alloc (.cells #[.int .i64 0,.int .i64 0,.int .i64 0,.slice none 0 0] 64)) (.cells #[.slice a l.length c,.int .i64 0,.int .i64 0] 194);rw[size_alloc] at s0;have hbl:Below w.heap.size w ((w.alloc (.cells #[.int .i64 0,.int .i64 0,.int .i64 0,.slice none 0 0] 64)).alloc (.cells #[.slice a l.length c,.int .i64 0,.int .i64 0] 194)) :=
  ((Below.refl _ _).alloc (Nat.le_refl _) _).alloc (by rw[size_alloc];omega) _
 have hsz:((w.alloc (.cells #[.int .i64 0,.int .i64 0,.int .i64 0,.slice none 0 0] 64)).alloc (.cells #[.slice a l.length c,.int .i64 0,.int .i64 0] 194)).heap.size=w.heap.size+2:=by rw[size_alloc,size_alloc]
 generalize (w.alloc (.cells #[.int .i64 0,.int .i64 0,.int .i64 0,.slice none 0 0] 64)).alloc (.cells #[.slice a l.length c,.int .i64 0,.int .i64 0] 194)=W at *;have S0:=zaa (zAm (za HB) hbl (Nat.le_succ _) s0);have F0:=zaa hbl;have R0:=zaa r0;have Z0:=zaa hsz;clear r0 s0 hbl hsz;refine(zlj (w.heap.size+1) a c l 0 _ (za S0) (za HL) (za HC) (za HZ)).mono ?_;rintro e W1 ⟨hm1,g1⟩;have R1:=zaa (zah g1 (za R0) (by omega));have F1:=zaa ((za F0).grown g1 (za F0).size (fun j e=>by have:=Option.some.inj e;omega));have Z1:=zaa (show w.heap.size+2≤W1.heap.size from Nat.le_trans (Nat.le_of_eq (za Z0).symm) g1.size);clear g1 R0 F0 S0;cases he:za9 l 0 with
 |error y =>
  rw[he] at hm1;obtain⟨⟨kd,t,i,sp,mm,cc,rfl⟩,k1,s1⟩:=hm1;have hy:=zhj he;have b2:Below W1.heap.size W1 (W1.alloc (.cells #[.int .i64 kd,.int .i64 t,.int .i64 i,.slice sp mm cc] 64)):=(Below.refl _ _).alloc (Nat.le_refl _) _;have S2:=zaa (s1.later b2);have R2:=zaa ((b2.block _ (by have:=za Z1;omega)).trans (za R1));have F2:=zaa ((za F1).trans (b2.mono (za F1).size));have HW:=zaa (show za6 l (.error y:Except Nat ((Nat×Nat×Nat×List Nat)×Nat))=.error y from rfl);have HEnd:=zaa (zk (l:=l) (k:=k1) hy);have hy0:¬ (y:Int)=0:=by omega
  clear s1 b2 F1 R1 hy
  go_wp2_with fail
  generalize W1.alloc _=W2 at *;refine(zdj (w.heap.size+1) a c l k1 y _ (za S2)).mono ?_;rw[za HEnd];rintro e W4 ⟨rfl,s4,g4⟩;have R4:=zaa (zah g4 (za R2) (by omega));have F4:=zaa ((za F2).grown g4 (za F2).size (fun j e=>by have:=Option.some.inj e;omega));obtain⟨_,_,c4,_,_⟩:=s4.cells;obtain⟨⟨p0,p1,p2,p3⟩,f0,f1,f2,f3⟩:=zaq (za R4);clear s4 g4 R2 F2 S2
  go_wp2_with fail
  go_region_held3 (fun w'=>w'.cell? ⟨w.heap.size+1,2,none⟩=some (.int .i64 (y:Int))) (go_keep) (fail)
  go_wp2_with fail
  obtain⟨q6,s7⟩:=zcr (x:=.int .i64 0) (y:=.int .i64 0) (z:=.int .i64 0) (u:=.slice none 0 0) (za R4);obtain⟨⟨z0,z1,z2,z3⟩,_⟩:=zaq q6;generalize hW6:(((W4.setCell ⟨w.heap.size,0,none⟩ (.int .i64 0)).setCell ⟨w.heap.size,1,none⟩ (.int .i64 0)).setCell ⟨w.heap.size,2,none⟩ (.int .i64 0)).setCell ⟨w.heap.size,3,none⟩ (.slice none 0 0)=W6 at *;have y0:W6.drew.cell? ⟨w.heap.size,0,none⟩=_:=z0;have y1:W6.drew.cell? ⟨w.heap.size,1,none⟩=_:=z1;have y2:W6.drew.cell? ⟨w.heap.size,2,none⟩=_:=z2;have y3:W6.drew.cell? ⟨w.heap.size,3,none⟩=_:=z3;refine bodyPost_ret (v:=.tuple #[entVal 0 0 0 none 0 0,.int .i64 (y:Int)]) (by simp[results,Tryz.results133,go_sem,y0,y1,y2,y3]) rfl ?_;refine⟨⟨_,rfl,?_⟩,((za F4).grown s7 (za F4).size (fun j e=>Nat.le_of_eq (Option.some.inj e))).drew⟩;rw[he,za HW];exact rfl
 |ok p =>
  obtain⟨⟨kd,t,i,d⟩,k1⟩:=p;rw[he] at hm1;obtain⟨⟨sp,mm,cc,rfl,hlen,ho1⟩,s1⟩:=hm1;have b2:Below W1.heap.size W1 (W1.alloc (.cells #[.int .i64 (kd:Int),.int .i64 (t:Int),.int .i64 (i:Int),.slice sp mm cc] 64)):=(Below.refl _ _).alloc (Nat.le_refl _) _;have S2:=zaa (s1.later b2);have O2:=zaa (ho1.later b2);have X2:=zaa (zad W1 (.cells #[.int .i64 (kd:Int),.int .i64 (t:Int),.int .i64 (i:Int),.slice sp mm cc] 64));have R2:=zaa ((b2.block _ (by have:=za Z1;omega)).trans (za R1));have F2:=zaa ((za F1).trans (b2.mono (za F1).size));clear s1 b2 F1 R1 ho1
  go_wp2_with fail
  generalize W1.alloc _=W2 at *;refine(zdj (w.heap.size+1) a c l k1 0 _ (za S2)).mono ?_;by_cases hk:k1<l.length
  ·rw[zpp hk];rintro e W4 ⟨rfl,s4,g4⟩;have HW:=zaa (show za6 l (.ok ((kd,t,i,d),k1))=.error 4 by simp only[za6,if_pos hk]);have R4:=zaa (zah g4 (za R2) (by omega));have F4:=zaa ((za F2).grown g4 (za F2).size (fun j e=>by have:=Option.some.inj e;omega));obtain⟨_,_,c4,_,_⟩:=s4.cells;obtain⟨⟨p0,p1,p2,p3⟩,f0,f1,f2,f3⟩:=zaq (za R4);clear s4 g4 R2 F2 S2 hk
   go_wp2_with fail
   go_region_held3 (fun w'=>w'.cell? ⟨w.heap.size+1,2,none⟩=some (.int .i64 4)) (go_keep) (fail)
   go_wp2_with fail
   obtain⟨q6,s7⟩:=zcr (x:=.int .i64 0) (y:=.int .i64 0) (z:=.int .i64 0) (u:=.slice none 0 0) (za R4);obtain⟨⟨z0,z1,z2,z3⟩,_⟩:=zaq q6;generalize hW6:(((W4.setCell ⟨w.heap.size,0,none⟩ (.int .i64 0)).setCell ⟨w.heap.size,1,none⟩ (.int .i64 0)).setCell ⟨w.heap.size,2,none⟩ (.int .i64 0)).setCell ⟨w.heap.size,3,none⟩ (.slice none 0 0)=W6 at *;have y0:W6.drew.cell? ⟨w.heap.size,0,none⟩=_:=z0;have y1:W6.drew.cell? ⟨w.heap.size,1,none⟩=_:=z1;have y2:W6.drew.cell? ⟨w.heap.size,2,none⟩=_:=z2;have y3:W6.drew.cell? ⟨w.heap.size,3,none⟩=_:=z3;refine bodyPost_ret (v:=.tuple #[entVal 0 0 0 none 0 0,.int .i64 4]) (by simp[results,Tryz.results133,go_sem,y0,y1,y2,y3]) rfl ?_;refine⟨⟨_,rfl,?_⟩,((za F4).grown s7 (za F4).size (fun j e=>Nat.le_of_eq (Option.some.inj e))).drew⟩;rw[he,za HW];exact rfl
  ·rw[zwr hk];rintro e W4 ⟨rfl,s4,g4⟩;have HW:=zaa (show za6 l (.ok ((kd,t,i,d),k1))=.ok (kd,t,i,d) by simp only[za6,if_neg hk]);have R4:=zaa (zah g4 (za R2) (by omega));have X4:=zaa (zah g4 (za X2) (by have:=za Z1;omega));have F4:=zaa ((za F2).grown g4 (za F2).size (fun j e=>by have:=Option.some.inj e;omega));have O4:=zaa ((za O2).far g4 (by rw[za Z0];omega));obtain⟨_,_,c4,_,_⟩:=s4.cells;obtain⟨⟨p0,p1,p2,p3⟩,f0,f1,f2,f3⟩:=zaq (za R4);obtain⟨⟨g0,g1,g2,g3⟩,_⟩:=zaq (za X4);clear s4 g4 R2 F2 S2 hk O2
   go_wp2_with fail
   obtain⟨q6,s7⟩:=zcr (x:=.int .i64 (kd:Int)) (y:=.int .i64 (t:Int)) (z:=.int .i64 (i:Int)) (u:=.slice sp mm cc) (za R4);obtain⟨⟨z0,z1,z2,z3⟩,_⟩:=zaq q6;refine bodyPost_ret (v:=.tuple #[entVal (kd:Int) (t:Int) (i:Int) sp mm cc,.int .i64 0]) (by simp[results,Tryz.results133,go_sem,z0,z1,z2,z3]) rfl ?_;refine⟨⟨_,rfl,?_⟩,(za F4).grown s7 (za F4).size (fun j e=>Nat.le_of_eq (Option.some.inj e))⟩;rw[he,za HW];exact⟨sp,mm,cc,rfl,hlen,((za O4).far s7 (by rw[za Z0];omega)).mono (by rw[za Z0];omega)⟩
end
end Go.Proofs.YtofllbpfajppeaaGreatDoor
