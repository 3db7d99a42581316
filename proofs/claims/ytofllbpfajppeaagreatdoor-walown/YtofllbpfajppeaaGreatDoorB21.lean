/- The document's answers of layer 2: GetHard, add, PutHard. -/
import Derived.Test.YtofllbpfajppeaaGreatDoorB20
import Derived.Deep.RegionHeld3
import Derived.Test.YtofllbpfajppeaaGreatDoorB11
import Derived.Test.YtofllbpfajppeaaGreatDoorB14
import Derived.Test.YtofllbpfajppeaaGreatDoorB12
import Derived.Test.YtofllbpfajppeaaGreatDoorB17
import Derived.Test.YtofllbpfajppeaaGreatDoorB18
set_option linter.unusedVariables false
set_option maxRecDepth 20000
set_option maxHeartbeats 16000000
namespace Go.Proofs.YtofllbpfajppeaaGreatDoor
section
open Go.ChangeShapes Go.WideShapes Go.ChangeAt Go.RowKit
def ziq (v x:Nat):Nat:=if x=0∧9<v then 4 else x
def ze (l:List Nat) (t v k x:Nat):Value:=if zkl l k (ziq v x)=0 then .tuple #[.agg #[.int .i64 (t:Int),.int .i64 (v:Int)],.int .i64 0] else .tuple #[.agg #[.int .i64 0,.int .i64 0],.int .i64 ((zkl l k (ziq v x):Nat):Int)]
theorem zk7 (a:Option Addr) (m c:Nat) (l:List Nat) (t k1 x1 v k2 x2:Nat) (w:World) (hm:l.length=m) (hl:l.length≤140737488355328) (hb:BytesAt w a l) (h1:zfk l 0 0 0=(t,k1,x1)) (h2:zfk l 0 k1 x1=(v,k2,x2)) :
  Calls Tryz.prog 132 #[.slice a m c] w fun e w'=>e=.returned (ze l t v k2 x2)∧Below w.heap.size w w':=by
 subst hm;have HB:=zaa hb;have HL:=zaa hl;have N1:=zaa h1;have N2:=zaa h2;clear hb hl h1 h2;go_enter Tryz.func132,Tryz.ntmps132
 go_wp2_with fail
 have r0:=zbp (.cells #[.slice a l.length c,.int .i64 0,.int .i64 0] 194) (zad w (.cells #[.int .i64 0,.int .i64 0] 29));have s0:=zad (w.alloc (.cells #[.int .i64 0,.int .i64 0] 29)) (.cells #[.slice a l.length c,.int .i64 0,.int .i64 0] 194);rw[size_alloc] at s0;have hbl:Below w.heap.size w ((w.alloc (.cells #[.int .i64 0,.int .i64 0] 29)).alloc (.cells #[.slice a l.length c,.int .i64 0,.int .i64 0] 194)) :=
  ((Below.refl _ _).alloc (Nat.le_refl _) _).alloc (by rw[size_alloc];omega) _
 generalize (w.alloc (.cells #[.int .i64 0,.int .i64 0] 29)).alloc (.cells #[.slice a l.length c,.int .i64 0,.int .i64 0] 194)=W at *;have S0:=zaa (zAm (za HB) hbl (Nat.le_succ _) s0);have F0:=zaa hbl;have R0:=zaa r0;clear r0 s0 hbl;refine(zdt (w.heap.size+1) a c l 0 0 0 _ (za S0) (za HL)).mono ?_;rw[za N1];rintro e W1 ⟨rfl,s1,g1⟩;have R1:=zaa (zah g1 (za R0) (by omega));have F1:=zaa ((za F0).grown g1 (za F0).size (fun j e=>by have:=Option.some.inj e;omega));have S1:=zaa s1;clear s1 g1 R0 F0 S0
 go_wp2_with fail
 refine(zdt (w.heap.size+1) a c l 0 k1 x1 _ (za S1) (za HL)).mono ?_;rw[za N2];rintro e W2 ⟨rfl,s2,g2⟩;have R2:=zaa (zah g2 (za R1) (by omega));have F2:=zaa ((za F1).grown g2 (za F1).size (fun j e=>by have:=Option.some.inj e;omega));obtain⟨_,_,c2,_,_⟩:=s2.cells;have S2:=zaa s2;clear s2 g2 R1 F1 S1;by_cases hx:x2=0
 ·subst hx;by_cases h9:9<v
  ·have hH:=zaa (show ziq v 0=4 by rw[ziq,if_pos ⟨rfl,h9⟩]);have hE:=zaa (show zkl l k2 4=4 by rw[zkl,if_neg (fun h=>by omega)])
   go_wp2_with fail
   refine(zc1 (w.heap.size+1) a c l k2 4 _ (za S2)).mono ?_;rintro e W3 ⟨rfl,s3,g3⟩;have R3:=zaa (zah g3 (za R2) (by omega));have F3:=zaa ((za F2).grown g3 (za F2).size (fun j e=>by have:=Option.some.inj e;omega));have S3:=zaa s3;clear s3 g3 R2 F2 S2 c2
   go_wp2_with fail
   refine(zdj (w.heap.size+1) a c l k2 4 _ (za S3)).mono ?_;rw[za hE];rintro e W4 ⟨rfl,s4,g4⟩;have R4:=zaa (zah g4 (za R3) (by omega));have F4:=zaa ((za F3).grown g4 (za F3).size (fun j e=>by have:=Option.some.inj e;omega));obtain⟨_,_,c4,_,_⟩:=s4.cells;obtain⟨p0,p1,f0,f1⟩:=zaz (za R4);clear s4 g4 R3 F3 S3
   go_wp2_with fail
   go_region_held3 (fun w'=>w'.cell? ⟨w.heap.size+1,2,none⟩=some (.int .i64 4)) (go_keep) (fail)
   go_wp2_with fail
   have q5:=heap_setCell_same W4 w.heap.size 0 _ 29 (.int .i64 0) (za R4);have q6:=heap_setCell_same _ w.heap.size 1 _ 29 (.int .i64 0) q5;obtain⟨z0,z1,_,_⟩:=zaz q6;have y0:((W4.setCell ⟨w.heap.size,0,none⟩ (.int .i64 0)).setCell ⟨w.heap.size,1,none⟩ (.int .i64 0)).drew.cell? ⟨w.heap.size,0,none⟩=_:=z0;have y1:((W4.setCell ⟨w.heap.size,0,none⟩ (.int .i64 0)).setCell ⟨w.heap.size,1,none⟩ (.int .i64 0)).drew.cell? ⟨w.heap.size,1,none⟩=_:=z1;refine bodyPost_ret (v:=.tuple #[.agg #[.int .i64 0,.int .i64 0],.int .i64 4]) (by simp[results,Tryz.results132,go_sem,y0,y1]) rfl ?_;exact⟨by rw[ze,za hH,za hE];rfl,(((za F4).setCell (p:=⟨w.heap.size,0,none⟩) (Nat.le_refl _) _).setCell (p:=⟨w.heap.size,1,none⟩) (Nat.le_refl _) _).drew⟩
  ·have hH:=zaa (show ziq v 0=0 by rw[ziq,if_neg (fun h=>h9 h.2)]);by_cases hk:k2<l.length
   ·have hE:=zaa (show zkl l k2 0=4 by rw[zkl,if_pos ⟨rfl,hk⟩]);clear hk
    go_wp2_with fail
    refine(zdj (w.heap.size+1) a c l k2 0 _ (za S2)).mono ?_;rw[za hE];rintro e W4 ⟨rfl,s4,g4⟩;have R4:=zaa (zah g4 (za R2) (by omega));have F4:=zaa ((za F2).grown g4 (za F2).size (fun j e=>by have:=Option.some.inj e;omega));obtain⟨_,_,c4,_,_⟩:=s4.cells;obtain⟨p0,p1,f0,f1⟩:=zaz (za R4);clear s4 g4 R2 F2 S2
    go_wp2_with fail
    go_region_held3 (fun w'=>w'.cell? ⟨w.heap.size+1,2,none⟩=some (.int .i64 4)) (go_keep) (fail)
    go_wp2_with fail
    have q5:=heap_setCell_same W4 w.heap.size 0 _ 29 (.int .i64 0) (za R4);have q6:=heap_setCell_same _ w.heap.size 1 _ 29 (.int .i64 0) q5;obtain⟨z0,z1,_,_⟩:=zaz q6;have y0:((W4.setCell ⟨w.heap.size,0,none⟩ (.int .i64 0)).setCell ⟨w.heap.size,1,none⟩ (.int .i64 0)).drew.cell? ⟨w.heap.size,0,none⟩=_:=z0;have y1:((W4.setCell ⟨w.heap.size,0,none⟩ (.int .i64 0)).setCell ⟨w.heap.size,1,none⟩ (.int .i64 0)).drew.cell? ⟨w.heap.size,1,none⟩=_:=z1;refine bodyPost_ret (v:=.tuple #[.agg #[.int .i64 0,.int .i64 0],.int .i64 4]) (by simp[results,Tryz.results132,go_sem,y0,y1]) rfl ?_;exact⟨by rw[ze,za hH,za hE];rfl,(((za F4).setCell (p:=⟨w.heap.size,0,none⟩) (Nat.le_refl _) _).setCell (p:=⟨w.heap.size,1,none⟩) (Nat.le_refl _) _).drew⟩
   ·have hE:=zaa (show zkl l k2 0=0 by rw[zkl,if_neg (fun h=>hk h.2)]);clear hk
    go_wp2_with fail
    refine(zdj (w.heap.size+1) a c l k2 0 _ (za S2)).mono ?_;rw[za hE];rintro e W4 ⟨rfl,s4,g4⟩;have R4:=zaa (zah g4 (za R2) (by omega));have F4:=zaa ((za F2).grown g4 (za F2).size (fun j e=>by have:=Option.some.inj e;omega));obtain⟨_,_,c4,_,_⟩:=s4.cells;obtain⟨p0,p1,f0,f1⟩:=zaz (za R4);clear s4 g4 R2 F2 S2
    go_wp2_with fail
    have q5:=heap_setCell_same W4 w.heap.size 0 _ 29 (.int .i64 (t:Int)) (za R4);have q6:=heap_setCell_same _ w.heap.size 1 _ 29 (.int .i64 (v:Int)) q5;obtain⟨z0,z1,_,_⟩:=zaz q6;refine bodyPost_ret (v:=.tuple #[.agg #[.int .i64 (t:Int),.int .i64 (v:Int)],.int .i64 0]) (by simp[results,Tryz.results132,go_sem,z0,z1]) rfl ?_;exact⟨by rw[ze,za hH,za hE];rfl,((za F4).setCell (p:=⟨w.heap.size,0,none⟩) (Nat.le_refl _) _).setCell (p:=⟨w.heap.size,1,none⟩) (Nat.le_refl _) _⟩
 ·have hH:=zaa (show ziq v x2=x2 by rw[ziq,if_neg (fun h=>hx h.1)]);have hE:=zaa (show zkl l k2 x2=x2 by rw[zkl,if_neg (fun h=>hx h.1)]);have hx0:¬ (x2:Int)=0:=by omega
  have hX:=zaa hx;clear hx
  go_wp2_with fail
  refine(zdj (w.heap.size+1) a c l k2 x2 _ (za S2)).mono ?_;rw[za hE];rintro e W4 ⟨rfl,s4,g4⟩;have R4:=zaa (zah g4 (za R2) (by omega));have F4:=zaa ((za F2).grown g4 (za F2).size (fun j e=>by have:=Option.some.inj e;omega));obtain⟨_,_,c4,_,_⟩:=s4.cells;obtain⟨p0,p1,f0,f1⟩:=zaz (za R4);clear s4 g4 R2 F2 S2
  go_wp2_with fail
  go_region_held3 (fun w'=>w'.cell? ⟨w.heap.size+1,2,none⟩=some (.int .i64 (x2:Int))) (go_keep) (fail)
  go_wp2_with fail
  have q5:=heap_setCell_same W4 w.heap.size 0 _ 29 (.int .i64 0) (za R4);have q6:=heap_setCell_same _ w.heap.size 1 _ 29 (.int .i64 0) q5;obtain⟨z0,z1,_,_⟩:=zaz q6;have y0:((W4.setCell ⟨w.heap.size,0,none⟩ (.int .i64 0)).setCell ⟨w.heap.size,1,none⟩ (.int .i64 0)).drew.cell? ⟨w.heap.size,0,none⟩=_:=z0;have y1:((W4.setCell ⟨w.heap.size,0,none⟩ (.int .i64 0)).setCell ⟨w.heap.size,1,none⟩ (.int .i64 0)).drew.cell? ⟨w.heap.size,1,none⟩=_:=z1;refine bodyPost_ret (v:=.tuple #[.agg #[.int .i64 0,.int .i64 0],.int .i64 (x2:Int)]) (by simp[results,Tryz.results132,go_sem,y0,y1]) rfl ?_;exact⟨by rw[ze,za hH,za hE,if_neg (za hX)],(((za F4).setCell (p:=⟨w.heap.size,0,none⟩) (Nat.le_refl _) _).setCell (p:=⟨w.heap.size,1,none⟩) (Nat.le_refl _) _).drew⟩
theorem zpz {v x:Nat} (hx:x≠0):ziq v x=x:=by rw[ziq,if_neg (fun h=>hx h.1)]
theorem zw3 {v:Nat} (h:9<v):ziq v 0=4:=by rw[ziq,if_pos ⟨rfl,h⟩]
theorem zzc {v:Nat} (h:¬ 9<v):ziq v 0=0:=by rw[ziq,if_neg (fun h'=>h h'.2)]
theorem zj7 (a:Option Addr) (m c:Nat) (l:List Nat) (w:World) (hm:l.length=m) (hl:l.length≤140737488355328) (hb:BytesAt w a l) :
  Calls Tryz.prog 132 #[.slice a m c] w fun e w'=>e=.returned (zj4 (za6 l (zd9 l 0)))∧Below w.heap.size w w':=by
 have key:∀ (t k1 x1 v k2 x2:Nat),zfk l 0 0 0=(t,k1,x1)→zfk l 0 k1 x1=(v,k2,x2)→ze l t v k2 x2=zj4 (za6 l (zd9 l 0))→Calls Tryz.prog 132 #[.slice a m c] w fun e w'=>e=.returned (zj4 (za6 l (zd9 l 0)))∧Below w.heap.size w w':=by
  intro t k1 x1 v k2 x2 h1 h2 h3;rw[← h3];exact zk7 a m c l t k1 x1 v k2 x2 w hm hl hb h1 h2
 cases h1:zbh l 0 with
 |error y =>
  have hy:=zc h1;refine key 0 0 y 0 0 y (by simp only[zfk,h1];rfl) (by rw[zfk,if_pos hy]) ?_;rw[ze,zpz hy,zk hy,if_neg hy,zd9,h1];rfl
 |ok p =>
  obtain⟨t,k1⟩:=p;have e1:zfk l 0 0 0=(t,k1,0):=by simp only[zfk,h1];rfl
  cases h2:zbh l k1 with
  |error y =>
   have hy:=zc h2;refine key t k1 0 0 k1 y e1 (by simp only[zfk,h2];rfl) ?_;rw[ze,zpz hy,zk hy,if_neg hy,zd9,h1];simp only[h2];rfl
  |ok p =>
   obtain⟨v,k2⟩:=p;refine key t k1 0 v k2 0 e1 (by simp only[zfk,h2];rfl) ?_;rw[ze,zd9,h1];simp only[h2];by_cases h9:9<v
   ·rw[zw3 h9,if_pos h9,zk (by decide)];rfl
   ·rw[zzc h9,if_neg h9];by_cases hk:k2<l.length
    ·rw[zpp hk,za6];simp only[if_pos hk];rfl
    ·rw[zwr hk,za6];simp only[if_neg hk];rfl
theorem zh5 (t v:Nat) (w:World) (ht:t≤1099511627776) (hv:v≤9) :
  Calls Tryz.prog 73 #[.agg #[.int .i64 (t:Int),.int .i64 (v:Int)]] w fun e w'=>∃ sp n c,e=.returned (.tuple #[.slice sp n c,.int .i64 0])∧Hid ((za2 t++za2 v).length=n)∧OwnB w.heap.size w' sp c (za2 t++za2 v)∧Below w.heap.size w w':=by
 have h0:=zad w (.cells #[.int .i64 (t:Int),.int .i64 (v:Int)] 29);obtain⟨c0,c1,_,_⟩:=zaz h0;have bA:=zaa (show Below w.heap.size w (w.alloc (.cells #[.int .i64 (t:Int),.int .i64 (v:Int)] 29)) from(Below.refl _ _).alloc (Nat.le_refl _) _);have hsz:=zaa (size_alloc w (.cells #[.int .i64 (t:Int),.int .i64 (v:Int)] 29));have hl6:=zaa (zcd t ht);clear h0;go_enter Tryz.func73,Tryz.ntmps73
 go_wp2_with fail
 generalize w.alloc _=W at *;have hb0:=zaa (show Below (w.heap.size+1) W (W.alloc (.cells #[] 5)).drew from((Below.refl _ _).alloc (Nat.le_of_eq (za hsz).symm) _).drew);have o0:=zaa ((OwnB.empty W (w.heap.size+1) (Nat.le_of_eq (za hsz).symm)).drew)
 go_region_held3 (fun w'=>w'.cell? ⟨w.heap.size,0,none⟩=some (.int .i64 (t:Int))∧w'.cell? ⟨w.heap.size,1,none⟩=some (.int .i64 (v:Int)))
  (first
   |exact⟨((((za hb0).trans hb1).trans hb2).cell (p:=⟨w.heap.size,0,none⟩) (Nat.lt_succ_self _)).trans c0,((((za hb0).trans hb1).trans hb2).cell (p:=⟨w.heap.size,1,none⟩) (Nat.lt_succ_self _)).trans c1⟩
   |exact⟨(((za hb0).trans hb1).cell (p:=⟨w.heap.size,0,none⟩) (Nat.lt_succ_self _)).trans c0,(((za hb0).trans hb1).cell (p:=⟨w.heap.size,1,none⟩) (Nat.lt_succ_self _)).trans c1⟩
   |exact⟨c0,c1⟩
   |go_keep)
  (first
   |(go_at_call_of 108 (Value.slice (some ⟨W.heap.size,0,none⟩) 0 0);refine(zes (w.heap.size+1) (some ⟨W.heap.size,0,none⟩) 0 0 [] t _ rfl (by exact za o0) (by simp) ht (by exact Nat.le_trans (Nat.le_of_eq (za hsz).symm) (za hb0).size)).mono ?_;rintro e W1 ⟨sp1,n1,k1,rfl,hn1,ho1,hg1⟩;have hb1:=hg1.below (za o0) (by exact Nat.le_trans (Nat.le_of_eq (za hsz).symm) (za hb0).size))
   |(go_at_call_of 108 (Value.slice sp1 n1 k1);refine(zes (w.heap.size+1) sp1 n1 k1 ([]++za2 t) v _ (za hn1) ho1 (by have:=za hl6;simp only[List.nil_append];omega) (by omega) (by exact Nat.le_trans (Nat.le_of_eq (za hsz).symm) ((za hb0).trans hb1).size)).mono ?_;rintro e W2 ⟨sp2,n2,k2,rfl,hn2,ho2,hg2⟩;have hb2:=hg2.below ho1 (by exact Nat.le_trans (Nat.le_of_eq (za hsz).symm) ((za hb0).trans hb1).size)))
 rw[List.nil_append] at hn2 ho2;have HF:=zaa ((za bA).trans ((((za hb0).trans hb1).trans hb2).mono (Nat.le_succ _)));have HO:=zaa (ho2.mono (Nat.le_succ _));clear hb1 hb2 ho1 ho2 hn1 hg1 hg2
 go_wp2
 go_ret2
 exact⟨sp2,n2,k2,rfl,hn2,za HO,za HF⟩
theorem zoj (t v:Int) (w:World) (h:¬ (0≤t∧t≤1099511627776∧0≤v∧v≤9)) :
  Calls Tryz.prog 73 #[.agg #[.int .i64 t,.int .i64 v]] w fun e w'=>e=.returned (.tuple #[.slice none 0 0,.int .i64 2])∧Below w.heap.size w w':=by
 have h0:=zad w (.cells #[.int .i64 t,.int .i64 v] 29);obtain⟨c0,c1,_,_⟩:=zaz h0;have bA:=zaa (show Below w.heap.size w (w.alloc (.cells #[.int .i64 t,.int .i64 v] 29)) from(Below.refl _ _).alloc (Nat.le_refl _) _);have H:=zaa h;clear h0 h;go_enter Tryz.func73,Tryz.ntmps73
 by_cases h1:0≤t
 ·by_cases h2:t≤1099511627776
  ·by_cases h3:0≤v
   ·have h4:¬ v≤9:=fun h4=>za H ⟨h1,h2,h3,h4⟩
    go_wp2
    go_ret2
    exact⟨rfl,za bA⟩
   ·go_wp2
    go_ret2
    exact⟨rfl,za bA⟩
  ·go_wp2
   go_ret2
   exact⟨rfl,za bA⟩
 ·go_wp2
  go_ret2
  exact⟨rfl,za bA⟩
theorem zzv (k t i:Int) (a:Option Addr) (n c:Nat) (w:World) (h:¬ zrl k t i n) :
  Calls Tryz.prog 107 #[entV k t i a n c] w fun e w'=>e=.returned (.int .i64 2)∧Below w.heap.size w w':=by
 obtain⟨c0,c1,c2,c3⟩:=zar (zad w (entB k t i a n c));have bA:=zaa (show Below w.heap.size w (w.alloc (entB k t i a n c)) from(Below.refl _ _).alloc (Nat.le_refl _) _);have H:=zaa h;clear h;go_enter Tryz.func107,Tryz.ntmps107
 by_cases h1:1≤k
 rotate_left
 ·go_wp2
  go_ret
  exact⟨rfl,za bA⟩
 by_cases h2:k≤3
 rotate_left
 ·go_wp2
  go_ret
  exact⟨rfl,za bA⟩
 by_cases h3:1≤t
 rotate_left
 ·go_wp2
  go_ret
  exact⟨rfl,za bA⟩
 by_cases h4:t≤1099511627776
 rotate_left
 ·go_wp2
  go_ret
  exact⟨rfl,za bA⟩
 by_cases h5:1≤i
 rotate_left
 ·go_wp2
  go_ret
  exact⟨rfl,za bA⟩
 by_cases h6:i≤1099511627776
 rotate_left
 ·go_wp2
  go_ret
  exact⟨rfl,za bA⟩
 have hk:k=1:=Classical.byContradiction fun hk=>za H ⟨⟨h1,h2⟩,⟨h3,h4⟩,⟨h5,h6⟩,.inl hk⟩;have hn:¬ n=0:=fun hn=>za H ⟨⟨h1,h2⟩,⟨h3,h4⟩,⟨h5,h6⟩,.inr hn⟩;have hn0:0<n:=by omega
 subst hk
 go_wp2
 go_ret
 exact⟨rfl,za bA⟩
theorem zxv (k t i:Int) (a:Option Addr) (n c:Nat) (w:World) (h:zrl k t i n) (hn:n≤2048) :
  Calls Tryz.prog 107 #[entV k t i a n c] w fun e w'=>e=.returned (.int .i64 0)∧Below w.heap.size w w':=by
 obtain⟨⟨h1,h2⟩,⟨h3,h4⟩,⟨h5,h6⟩,h7⟩:=h;by_cases hk:k=1
 ·have hn0:n=0:=h7.resolve_left (fun h=>h hk);subst hk hn0;obtain⟨c0,c1,c2,c3⟩:=zar (zad w (entB 1 t i a 0 c));have bA:=zaa (show Below w.heap.size w (w.alloc (entB 1 t i a 0 c)) from(Below.refl _ _).alloc (Nat.le_refl _) _);go_enter Tryz.func107,Tryz.ntmps107
  go_wp2
  go_ret
  exact⟨rfl,za bA⟩
 ·obtain⟨c0,c1,c2,c3⟩:=zar (zad w (entB k t i a n c));have bA:=zaa (show Below w.heap.size w (w.alloc (entB k t i a n c)) from(Below.refl _ _).alloc (Nat.le_refl _) _);clear h7;go_enter Tryz.func107,Tryz.ntmps107
  go_wp2
  go_ret
  exact⟨rfl,za bA⟩
theorem zvl (k t i:Int) (a:Option Addr) (n c:Nat) (w:World) (h:zrl k t i n) (hn:2048<n) :
  Calls Tryz.prog 107 #[entV k t i a n c] w fun e w'=>e=.returned (.int .i64 6)∧Below w.heap.size w w':=by
 obtain⟨c0,c1,c2,c3⟩:=zar (zad w (entB k t i a n c));have bA:=zaa (show Below w.heap.size w (w.alloc (entB k t i a n c)) from(Below.refl _ _).alloc (Nat.le_refl _) _);obtain⟨⟨h1,h2⟩,⟨h3,h4⟩,⟨h5,h6⟩,h7⟩:=h;have h7:¬ k=1:=h7.resolve_right (by omega);go_enter Tryz.func107,Tryz.ntmps107
 go_wp2
 go_ret
 exact⟨rfl,za bA⟩
theorem zh4 (k t i:Int) (dp:Option Addr) (m dc:Nat) (x:Int) (w:World) (h:∀ w:World,Calls Tryz.prog 107 #[entV k t i dp m dc] w fun e w'=>e=.returned (.int .i64 x)∧Below w.heap.size w w') (hx:¬ x=0) :
  Calls Tryz.prog 68 #[entV k t i dp m dc] w fun e w'=>e=.returned (.tuple #[.slice none 0 0,.int .i64 x])∧Below w.heap.size w w':=by
 obtain⟨c0,c1,c2,c3⟩:=zar (zad w (entB k t i dp m dc));have bA:Below w.heap.size w (w.alloc (entB k t i dp m dc)):=(Below.refl _ _).alloc (Nat.le_refl _) _;have HA:=zaa bA;have H:=zaa h;clear bA h;go_enter Tryz.func68,Tryz.ntmps68
 go_wp2_with fail
 refine(za H _).mono ?_;rintro e W1 ⟨rfl,b1⟩;have HA1:=zaa ((za HA).trans (b1.mono (za HA).size))
 go_wp2
 go_ret2
 exact⟨rfl,za HA1⟩
theorem zha (k t i:Nat) (dp:Option Addr) (m dc:Nat) (d:List Nat) (w:World) (h:zrl k t i m) (hm:d.length=m) (hB:BytesAt w dp d) (hz:dp=none→dc=0) (hd:d.length≤2048) :
  Calls Tryz.prog 68 #[entV k t i dp m dc] w fun e w'=>∃ sp n c,e=.returned (.tuple #[.slice sp n c,.int .i64 0])∧Hid ((zct k t i d).length=n)∧BytesAt w' sp (zct k t i d)∧Below w.heap.size w w':=by
 have h0:=zad w (entB k t i dp m dc);obtain⟨c0,c1,c2,c3⟩:=zar h0;have bA:Below w.heap.size w (w.alloc (entB k t i dp m dc)):=(Below.refl _ _).alloc (Nat.le_refl _) _;have HA:=zaa bA;have HX:=zaa h0;have HB:=zaa (hB.later bA);have HM:=zaa hm;have HZ:=zaa hz;have H:=zaa h;have hm2:m≤2048:=by omega
 have ht:=zaa (show t≤1099511627776 by have:=h.2.1;omega);have hi:=zaa (show i≤1099511627776 by have:=h.2.2.1;omega);have hk:=show k<256 by have:=h.1;omega
 clear h0 bA hB hm hz h;go_enter Tryz.func68,Tryz.ntmps68
 go_wp2_with fail
 refine(zxv k t i dp m dc _ (za H) hm2).mono ?_;rintro e W1 ⟨rfl,b1⟩;have X1:=zaa ((b1.block _ (by rw[size_alloc];omega)).trans (za HX));have B1:=zaa ((za HB).later b1);have HA1:=zaa ((za HA).trans (b1.mono (za HA).size));obtain⟨d0,d1,d2,d3⟩:=zar (za X1);have hlt:=zaa (show w.heap.size<W1.heap.size from Nat.lt_of_lt_of_le (by rw[size_alloc];omega) b1.size);clear b1 c0 c1 c2 c3;have o2:OwnB W1.heap.size (W1.alloc (.cells #[.int .u8 (k:Int)] 5)) (some ⟨W1.heap.size,0,none⟩) 1 [k]:=OwnB.ofBlock (l:=[k]) (zad _ _) (Nat.le_refl _) (by intro c hc;simp only[List.mem_cons,List.not_mem_nil,or_false] at hc;omega) (by simp[maxLen]);have b2:Below W1.heap.size W1 (W1.alloc (.cells #[.int .u8 (k:Int)] 5)):=(Below.refl _ _).alloc (Nat.le_refl _) _;have X2:=zaa ((b2.block _ (za hlt)).trans (za X1));have O2:=zaa o2;have B2:=zaa b2;have D2:=zaa ((za B1).later b2);obtain⟨f0,f1,f2,f3⟩:=zar (za X2);clear o2 b2
 go_wp2_with fail
 generalize W1.alloc _=W2 at *;have hW:=zaa (show W1.heap.size≤W2.heap.size from(za B2).size)
 have key:=zaa (show ∀ W':World,Below W1.heap.size W2 W'→W'.cell? ⟨w.heap.size,1,none⟩=some (.int .i64 (t:Int))∧W'.cell? ⟨w.heap.size,2,none⟩=some (.int .i64 (i:Int))∧W'.cell? ⟨w.heap.size,3,none⟩=some (.slice dp m dc) from
  fun W' h=>⟨(h.cell (p:=⟨w.heap.size,1,none⟩) (za hlt)).trans f1,(h.cell (p:=⟨w.heap.size,2,none⟩) (za hlt)).trans f2,(h.cell (p:=⟨w.heap.size,3,none⟩) (za hlt)).trans f3⟩)
 go_region_held3 (fun w'=>w'.cell? ⟨w.heap.size,1,none⟩=some (.int .i64 (t:Int))∧w'.cell? ⟨w.heap.size,2,none⟩=some (.int .i64 (i:Int))∧w'.cell? ⟨w.heap.size,3,none⟩=some (.slice dp m dc))
  (first
   |exact za key _ ((Below.refl _ _).drew.trans ((hb3.trans hb4).trans hb5))
   |exact za key _ ((Below.refl _ _).drew.trans (hb3.trans hb4))
   |exact za key _ ((Below.refl _ _).drew.trans hb3)
   |exact⟨f1,f2,f3⟩)
  (first
   |(go_at_call_of 108 (Value.slice (some ⟨W1.heap.size,0,none⟩) 1 1);refine(zes W1.heap.size (some ⟨W1.heap.size,0,none⟩) 1 1 [k] t _ rfl (by exact(za O2).drew) (by simp) (za ht) (by exact za hW)).mono ?_;rintro e W3 ⟨sp3,n3,k3,rfl,hn3,ho3,hg3⟩;have hb3:=hg3.below (za O2).drew (by exact za hW))
   |(go_at_call_of 108 (Value.slice sp3 n3 k3);refine(zes W1.heap.size sp3 n3 k3 ([k]++za2 t) i _ (za hn3) ho3 (by have:=zcd t (za ht);simp only[List.length_append,List.length_cons,List.length_nil];omega) (za hi) (by exact Nat.le_trans (za hW) hb3.size)).mono ?_;rintro e W4 ⟨sp4,n4,k4,rfl,hn4,ho4,hg4⟩;have hb4:=hg4.below ho3 (by exact Nat.le_trans (za hW) hb3.size))
   |(go_at_call_of 108 (Value.slice sp4 n4 k4);refine(zes W1.heap.size sp4 n4 k4 ([k]++za2 t++za2 i) m _ (za hn4) ho4 (by have:=zcd t (za ht);have:=zcd i (za hi);simp only[List.length_append,List.length_cons,List.length_nil];omega) (by omega) (by exact Nat.le_trans (za hW) (hb3.trans hb4).size)).mono ?_;rintro e W5 ⟨sp5,n5,k5,rfl,hn5,ho5,hg5⟩;have hb5:=hg5.below ho4 (by exact Nat.le_trans (za hW) (hb3.trans hb4).size)))
 have HH:=za key _ ((Below.refl _ _).drew.trans ((hb3.trans hb4).trans hb5));obtain⟨g1,g2,g3⟩:=HH;have F5:=zaa (show Below W1.heap.size W2 W5 from(Below.refl _ _).drew.trans ((hb3.trans hb4).trans hb5));have O5:=zaa ho5
 have D5:=zaa (show BytesAt W5 dp d from by
  refine⟨(za D2).lt,fun j hj=>?_⟩;obtain⟨b,off,e1,e2⟩:=(za B1).cell j hj;refine⟨b,off,e1,?_⟩;have hlt1:=World.block_lt_of_cell? _ _ e2;rw[(za F5).cell (p:=⟨b,off+j,none⟩) hlt1,(za B2).cell (p:=⟨b,off+j,none⟩) hlt1]
  exact e2)
 have hl5:=zaa (show([k]++za2 t++za2 i++za2 m).length+m≤140737488355328 by have:=zcd t (za ht);have:=zcd i (za hi);have:=zcd m (by omega);simp only[List.length_append,List.length_cons,List.length_nil];omega);clear hb3 hb4 hb5 ho3 ho4 ho5 hg3 hg4 hg5 hn3 hn4 g1 g2 f1 f2 f3 d1 d2 d3
 go_wp2_with (at_builtin;refine zas rfl (.tmp 26) (.tmp 28) rfl W1.heap.size sp5 n5 k5 ([k]++za2 t++za2 i++za2 m) rfl (za hn5) (by exact za O5) dp m dc rfl d (za HM) (by exact za D5) (za HZ) (za hl5) (by exact Nat.le_trans (za hW) (za F5).size) ?_;intro sp6 n6 k6 W6 hn6 ho6 hg6 hb6)
 have hmm:=za HM;subst hmm;rw[show[k]++za2 t++za2 i++za2 d.length++d=zct k t i d by simp[zct,List.append_assoc]] at hn6 ho6
 go_ret2
 exact⟨sp6,n6,k6,rfl,hn6,ho6.bytes,(za HA1).trans ((((za B2).trans ((za F5))).trans hb6).mono (za HA1).size)⟩
theorem zi8 {w:World} {a:Option Addr} {l:List Nat} (h:BytesAt w a l) (h0:0<l.length) {c:Nat} : a=none→c=0:=fun e=>by
 obtain⟨b,off,e',_⟩:=h.cell 0 h0;rw[e] at e';cases e'
theorem zut (es:List EntN) (j:Nat) (hj:j<es.length):zft (es.take (j+1))=zft (es.take j)++zjw 3 (zct es[j].1 es[j].2.1 es[j].2.2.1 es[j].2.2.2):=by
 unfold zft;rw[List.take_succ_eq_append_getElem hj,List.flatMap_append];simp
theorem zpr {w:World} {sp:Option Addr} {es:List EntN} (h:EntsAt w sp (es.map toI)) (j:Nat) (hj:j<es.length):∃ g off dp dc,sp=some ⟨g,off,none⟩∧w.cell? ⟨g,off+j*4,none⟩=some (.int .i64 (es[j].1:Int))∧w.cell? ⟨g,off+j*4+1,none⟩=some (.int .i64 (es[j].2.1:Int))∧w.cell? ⟨g,off+j*4+2,none⟩=some (.int .i64 (es[j].2.2.1:Int))∧w.cell? ⟨g,off+j*4+3,none⟩=some (.slice dp es[j].2.2.2.length dc)∧BytesAt w dp es[j].2.2.2∧(dp=none→dc=0):=by
 obtain⟨b,off,dp,dc,h0,h1,h2,h3,h4,h5,h6⟩:=h.cell j (by rw[List.length_map];exact hj);rw[List.getElem_map] at h1 h2 h3 h4 h5;exact⟨b,off,dp,dc,h0,h1,h2,h3,h4,h5,h6⟩
theorem zla (c:Wc) (sp:Option Addr) (k:Nat) (w:World) (hE:EntsAt w sp (c.es.map toI)) (hk:WOk c) (hl:c.es.length≤1000000) :
  Calls Tryz.prog 113 #[.agg (zb1 c sp k)] w fun e w'=>∃ q n m,e=.returned (.slice q n m)∧Hid ((za7 c).length=n)∧OwnB w.heap.size w' q m (za7 c)∧Below w.heap.size w w':=by
 unfold zb1;have A1:=zaa (show Below w.heap.size w (w.alloc (.cells #[.int .i64 (c.bi:Int),.int .i64 (c.bt:Int),.int .i64 (c.ht:Int),.int .i64 (c.hv:Int),.slice sp c.es.length k] 51)) from(Below.refl _ _).alloc (Nat.le_refl _) _);have X1:=zaa (zad w (.cells #[.int .i64 (c.bi:Int),.int .i64 (c.bt:Int),.int .i64 (c.ht:Int),.int .i64 (c.hv:Int),.slice sp c.es.length k] 51));have HE:=zaa (fun V (u:Below w.heap.size w V)=>hE.later u);have N1:=zaa (fun W=>zgg c.bi W hk.bi);have N2:=zaa (fun W=>zgg c.bt W hk.bt);have H1:=zaa (fun W=>zh5 c.ht c.hv W hk.ht hk.hv);have HK:=zaa hk.es;have l1:=zbt c.bi hk.bi;have l2:=zbt c.bt hk.bt;have l3:=zbt c.ht hk.ht;have l4:=zbt c.hv (by have:=hk.hv;omega);have EL:=zaa (fun j=>zgx (c.es.take j) (fun e he=>hk.es e (List.mem_of_mem_take he)));have AB:=zaa (show za7 c=zf1 c.bi c.bt++zb2 c.ht c.hv++zft c.es from rfl);have x0:=zab (za X1) 0 _ rfl;clear hE hk;go_enter Tryz.func113,Tryz.ntmps113
 go_wp2_with fail
 clear x0;generalize w.alloc _=W1 at *;have LSX:=zaa (show ∀ V,Below w.heap.size w V→w.heap.size≤V.heap.size from fun V u=>u.size);generalize hD:w.heap.size=D at *;have HD:=zaa hD;clear hD;generalize hen:c.es.length=en at *;have HEN:=zaa hen;clear hen;go_at_call 140
 refine(za N1 _).mono ?_;rintro e V1 ⟨s1,n1,c1,rfl,hn1,o1,v1⟩;have Y1:=zaa o1.bytes;have Z1:=zaa o1.toBx.nil0;have B1:=zaa ((za A1).trans (v1.mono (za LSX _ (za A1))));have X2:=zaa (zac v1 (za X1));have x1:=zab (za X2) 1 _ rfl;clear o1 v1 N1
 go_wp2_with fail
 go_at_call 140
 refine(za N2 _).mono ?_;rintro e V2 ⟨s2,n2,c2,rfl,hn2,o2,v2⟩;have Y1:=zaa ((za Y1).later v2);have Y2:=zaa o2.bytes;have Z2:=zaa o2.toBx.nil0;have B2:=zaa ((za B1).trans (v2.mono (za LSX _ (za B1))));have X3:=zaa (zac v2 (za X2));have x2:=zab (za X3) 2 _ rfl;have x3:=zab (za X3) 3 _ rfl;clear o2 v2 N2 x1
 go_wp2_with fail
 go_at_call 73
 refine(za H1 _).mono ?_;rintro e V3 ⟨s3,n3,c3,rfl,hn3,o3,v3⟩;have Y1:=zaa ((za Y1).later v3);have Y2:=zaa ((za Y2).later v3);have Y3:=zaa o3.bytes;have Z3:=zaa o3.toBx.nil0;have B3:=zaa ((za B2).trans (v3.mono (za LSX _ (za B2))));have X4:=zaa (zac v3 (za X3));have A4:=zaa (show Below V3.heap.size V3 (V3.alloc (.cells #[] 5)) from(Below.refl _ _).alloc (Nat.le_refl _) _);have OE:=zaa (OwnB.empty V3 V3.heap.size (Nat.le_refl _));have hq1:n1≤6:=by rw[← za hn1];omega
 have hq2:n2≤6:=by rw[← za hn2];omega
 have hq3:n3≤12:=by rw[← za hn3,List.length_append];omega
 clear o3 v3 H1 x2 x3 X1 X2 X3 B1 B2
 go_wp2_with (at_builtin;refine za ?_)
 refine zaa ?_;refine zas rfl (.tmp 33) (.tmp 34) rfl V3.heap.size (some ⟨V3.heap.size,0,none⟩) 0 0 [] rfl rfl (by exact za OE) s1 n1 c1 rfl (za2 c.bi) (za hn1) (by exact(za Y1).later (za A4)) (za Z1) (by simp only[List.length_nil];omega) (by exact(za A4).size) ?_;intro s5 n5 c5 V5 hn5 ho5 hg5 hb5;rw[List.nil_append] at hn5 ho5;have A5:=zaa ((za A4).trans hb5);have O5:=zaa ho5;clear ho5 hg5 hb5 OE
 go_wp2_with (at_builtin;refine za ?_)
 refine zaa ?_;refine zas rfl (.tmp 35) (.tmp 36) rfl V3.heap.size s5 n5 c5 (za2 c.bi) rfl (za hn5) (by exact za O5) s2 n2 c2 rfl (za2 c.bt) (za hn2) (by exact(za Y2).later (za A5)) (za Z2) (by omega) (by exact(za A5).size) ?_;intro s6 n6 c6 V6 hn6 ho6 hg6 hb6;have A6:=zaa ((za A5).trans hb6);have hq6:n6≤12:=by rw[← za hn6,List.length_append];omega
 have R1:=zaa (zf4 1 s6 n6 c6 (za2 c.bi++za2 c.bt) V6 (by omega) (za hn6) (by exact ho6.bytes) ho6.toBx.nil0 (by omega));clear ho6 hg6 hb6 O5
 go_wp2_with fail
 go_at_call 69
 refine(za R1).mono ?_;rintro e V7 ⟨s7,n7,c7,rfl,hn7,o7,v7⟩;have A7:=zaa ((za A6).trans (v7.mono (za A6).size));have O7:=zaa (show OwnB V3.heap.size V7 s7 c7 (zf1 c.bi c.bt) from o7.mono (za A6).size);have R2:=zaa (zf4 2 s3 n3 c3 (za2 c.ht++za2 c.hv) V7 (by omega) (za hn3) (by exact(za Y3).later (za A7)) (za Z3) (by omega));have hq7:n7≤21:=by have:=zdc 1 (za2 c.bi++za2 c.bt);rw[za hn7,List.length_append] at this;omega
 have HN7:=zaa (show(zf1 c.bi c.bt).length=n7 from za hn7);clear o7 v7 R1
 go_wp2_with fail
 go_at_call 69
 refine(za R2).mono ?_;rintro e V8 ⟨s8,n8,c8,rfl,hn8,o8,v8⟩;have A8:=zaa ((za A7).trans (v8.mono (za A7).size));have O8:=zaa ((za O7).later v8);have hq8:n8≤21:=by have:=zdc 2 (za2 c.ht++za2 c.hv);rw[za hn8,List.length_append] at this;omega
 have Y8:=zaa (show BytesAt V8 s8 (zb2 c.ht c.hv) from o8.bytes);have Z8:=zaa o8.toBx.nil0;clear o8 v8 R2
 go_wp2_with (at_builtin;refine za ?_)
 refine zaa ?_;refine zas rfl (.tmp 39) (.tmp 41) rfl V3.heap.size s7 n7 c7 (zf1 c.bi c.bt) rfl (za HN7) (by exact za O8) s8 n8 c8 rfl (zb2 c.ht c.hv) (za hn8) (by exact za Y8) (za Z8) (by have:=za HN7;omega) (by exact(za A8).size) ?_;intro s9 n9 c9 V9 hn9 ho9 hg9 hb9;have A9:=zaa ((za A8).trans hb9);have O9:=zaa ho9;have HM:=zaa (show(zf1 c.bi c.bt++zb2 c.ht c.hv).length=n9 from za hn9);have B9:=zaa ((za B3).trans ((za A9).mono (za LSX _ (za B3))));have L3:=zaa (za LSX _ (za B3));have hq9:n9≤42:=by
  have h1:=za HM;have h2:=za HN7;have h3:(zb2 c.ht c.hv).length=n8:=za hn8;rw[List.length_append] at h1;omega
 have EL9:=zaa (show ∀ j,(zf1 c.bi c.bt++zb2 c.ht c.hv++zft (c.es.take j)).length≤42+1000000*2100 from fun j=>by
  have h1:=za HM;have h2:=za EL j;have h3:(c.es.take j).length≤1000000:=by rw[List.length_take,za HEN];omega
  rw[List.length_append,h1]
  omega)
 clear ho9 hg9 hb9 O7 O8 Y1 Y2 Y3 A4 A5 A6 A7 A8
 go_wp2_with fail
 go_loopw [9,10] (fun v i wr=>∃ (j:Nat) (q:Option Addr) (m z:Nat),j≤en∧i=.int .i64 (j:Int)∧v=.slice q m z∧Hid ((zf1 c.bi c.bt++zb2 c.ht c.hv++zft (c.es.take j)).length=m)∧Hid (OwnB V3.heap.size wr q z (zf1 c.bi c.bt++zb2 c.ht c.hv++zft (c.es.take j)))∧Hid (Below V3.heap.size V3 wr)) (fun _ i _=>en - (intOf i).toNat)
 case atStart=>exact⟨0,s9,n9,c9,by omega,rfl,rfl,(by rw[List.take_zero];show(_++zft []).length=_;rw[show zft []=[] from rfl,List.append_nil];exact za HM),(by rw[List.take_zero,show zft []=[] from rfl,List.append_nil];exact za O9),A9⟩
 case round =>
  obtain⟨j,q,m,z,hj,rfl,rfl,HL,HO,HA⟩:=hrel;have B4:=zaa ((za B3).trans ((za HA).mono (za L3)));have XR:=zaa (zac (za HA) (za X4));have x4:=zab (za XR) 4 _ rfl;have LR:=zaa (show V3.heap.size≤wr.heap.size from(za HA).size);by_cases hje:j<en
  ·as_aux_lemma =>
   have hjl:j<c.es.length:=by rw[za HEN];exact hje
   have y0:(0:Int)≤(j:Int):=by omega
   have y1:(j:Int)<(en:Int):=by omega
   obtain⟨g,off,dp,dc,hsp,p0,p1,p2,p3,pb,pz⟩:=zpr (za HE wr (za B4)) j hjl;subst hsp;have ET:=zaa (zut c.es j hjl);obtain⟨⟨a1,a2⟩,⟨b1,b2⟩,⟨e1,e2⟩,d1,d2⟩:=za HK _ (List.getElem_mem hjl);have EL1:=zaa (za EL9 (j+1));rw[za ET] at EL1;generalize c.es[j]=x at *;obtain⟨ek,et,ei,ed⟩:=x;dsimp only at *;have h6:=zhi ek et ei ed b2 e2 d2
   have PC:=zaa (zha ek et ei dp ed.length dc ed wr ⟨by omega,by omega,by omega,by
    by_cases hk1:ek=1
    ·right;rw[d1 hk1];rfl
    ·left;omega⟩ rfl pb pz d2)
   have EP:=zaa (show 0<(zct ek et ei ed).length by unfold zct;simp);generalize hdn:ed.length=dn at *;clear pb pz hdn
   go_wp2_with fail
   clear p0 p1 p2 p3 x4;go_at_call 68
   refine(za PC).mono ?_;rintro e V10 ⟨sx,nx,cx,rfl,hnx,bx,vx⟩;have RC:=zaa (zf4 3 sx nx cx (zct ek et ei ed) V10 (by omega) (za hnx) bx (zi8 bx (za EP)) (by have:=za hnx;omega));have UX:=zaa vx;clear bx vx PC
   go_wp2_with fail
   go_at_call 69
   refine(za RC).mono ?_;rintro e V11 ⟨sy,ny,cy,rfl,hny,oy,vy⟩;have UY:=zaa ((za UX).trans (vy.mono (za UX).size));have HO2:=zaa ((za HO).later (za UY));have YY:=zaa oy.bytes;have ZY:=zaa oy.toBx.nil0;have HA2:=zaa ((za HA).trans ((za UY).mono (za LR)))
   have LS2:=zaa (show(zf1 c.bi c.bt++zb2 c.ht c.hv++zft (c.es.take j)).length+ny≤140737488355328 by
    have h1:=za EL1;rw[← List.append_assoc,List.length_append,za hny] at h1
    omega)
   clear oy vy RC
   go_wp2_with (at_builtin;refine za ?_)
   refine zaa ?_;refine zas rfl (.tmp 59) (.tmp 61) rfl V3.heap.size q m z (zf1 c.bi c.bt++zb2 c.ht c.hv++zft (c.es.take j)) rfl (za HL) (by exact za HO2) sy ny cy rfl (zjw 3 (zct ek et ei ed)) (za hny) (by exact za YY) (za ZY) (za LS2) (by exact(za HA2).size) ?_;intro s12 n12 c12 V12 hn12 ho12 hg12 hb12;have O12:=zaa ho12;have HA3:=zaa ((za HA2).trans hb12);have HN12:=zaa (za hn12);rw[List.append_assoc,← za ET] at O12 HN12;clear ho12 hg12 hb12 hn12
   go_wp2_with fail
   exact⟨⟨j+1,s12,n12,c12,by omega,by go_num,rfl,HN12,O12,HA3⟩,by simp[intOf];omega⟩
  ·as_aux_lemma =>
   have y1:¬ (j:Int)<(en:Int):=by omega
   have TA:=zaa (show c.es.take j=c.es from List.take_of_length_le (by rw[za HEN];omega));rw[za TA,← za AB] at HL HO
   go_wp2_with fail
   go_ret
   exact⟨q,m,z,rfl,HL,(by rw[za HD];exact(za HO).mono (za L3)),by rw[za HD];exact za B4⟩
structure DatIn (P:Nat→Prop) (w:World) (h:Option Addr×Nat) (l:List Nat):Prop where
 by_:BytesAt w h.1 l
 z:h.1=none→h.2=0
 p:∀ g o,h.1=some ⟨g,o,none⟩→0<l.length→P g
structure RowE (P:Nat→Prop) (w0 w:World) (sp:Option Addr) (k:Nat) (es:List EntI):Prop where
 bel:Below w0.heap.size w0 w
 ex:∃ hs:List (Option Addr×Nat),hs.length=es.length∧w.ownsRow w0.heap.size 64 4 (.slice sp es.length k) es.length (zqs es hs)∧∀ i (hi:i<es.length) (hj:i<hs.length),DatIn P w0 hs[i] es[i].2.2.2
section
variable {P:Nat→Prop} {w0 w w':World} {sp:Option Addr} {k:Nat} {es:List EntI}
theorem RowE.empty (P:Nat→Prop) (w0:World):RowE P w0 (w0.alloc (.cells #[] 64)) (some ⟨w0.heap.size,0,none⟩) 0 [] :=
 ⟨(Below.refl _ _).alloc (Nat.le_refl _) _,[],rfl,⟨rfl,.inr ⟨w0.heap.size,0,#[],rfl,Nat.le_refl _,zad w0 _,Nat.le_refl _,by simp[maxLen],rfl,rfl⟩⟩,fun i hi=>by simp at hi⟩
theorem RowE.later (h:RowE P w0 w sp k es) (hb:Below w.heap.size w w'):RowE P w0 w' sp k es:=by
 obtain⟨hs,h1,h2,h3⟩:=h.ex;exact⟨h.bel.trans (hb.mono h.bel.size),hs,h1,ziv h2 hb,h3⟩
theorem RowE.ents (h:RowE P w0 w sp k es):EntsIn (fun g=>P g∨(w0.heap.size≤g∧g<w.heap.size)) w sp es:=by
 obtain⟨hs,hl,hrow,hdat⟩:=h.ex;have key:∀ i (hi:i<es.length),∃ g,sp=some ⟨g,0,none⟩∧w0.heap.size≤g∧g<w.heap.size∧∀ f v,f<4→(zbu es[i] (hs[i]'(by omega)))[f]? = some v→w.cell? ⟨g,i*4+f,none⟩=some v:=fun i hi=>by
  rcases hrow.2 with⟨hv,h0⟩|⟨g,cap,cur,hv,hbg,hh,hle,hmx,hsz,htk⟩
  ·omega
  ·simp only[Value.slice.injEq] at hv;obtain⟨rfl,_,_⟩:=hv;refine⟨g,rfl,hbg,(Array.getElem?_eq_some_iff.1 hh).1,fun f v hf hv=>?_⟩;rw[← zhb es hs i f hi (by omega) hf,← htk,List.getElem?_take] at hv;split at hv
   ·rw[cell_of_row w g (i*4+f) cur _ _ hh,← Array.getElem?_toList];exact hv
   ·cases hv
 refine⟨⟨fun i hi=>?_⟩,fun b off e h0=>?_,fun i hi b off dp dc n e hc g o e1 h0=>?_⟩
 ·obtain⟨g,rfl,_,_,hc⟩:=key i hi;have hd:=hdat i hi (by omega);exact⟨g,0,(hs[i]'(by omega)).1,(hs[i]'(by omega)).2,rfl,by rw[Nat.zero_add];exact hc 0 _ (by omega) rfl,by rw[Nat.zero_add];exact hc 1 _ (by omega) rfl,by rw[Nat.zero_add];exact hc 2 _ (by omega) rfl,by rw[Nat.zero_add];exact hc 3 _ (by omega) rfl,hd.by_.later h.bel,hd.z⟩
 ·obtain⟨g,e',h1,h2,_⟩:=key 0 h0;rw[e] at e';cases e'
  exact .inr ⟨h1,h2⟩
 ·obtain⟨g',e',_,_,hcc⟩:=key i hi;rw[e] at e';cases e'
  have h3:=hcc 3 _ (by omega) rfl;rw[Nat.zero_add] at hc;rw[hc] at h3;simp only[Option.some.injEq,Value.slice.injEq] at h3;exact .inl ((hdat i hi (by omega)).p g o (h3.1.symm.trans e1) h0)
theorem zqy (h:RowE P w0 w sp k es) (B:Nat) (e:EntI) (hd:Option Addr×Nat) (hB:w.heap[B]? = some (.cells (zbu e hd).toArray 64 (0,0))) (hdd:DatIn P w0 hd e.2.2.2) (hn:es.length≤1048576) (ty:TypeId) :
  ∃ sp' k' w',(Builtin.append_ #[27,27] ty #[.slice sp es.length k,.slice (some ⟨B,0,none⟩) 1 1]).run Tryz.prog w=.ok (.slice sp' (es.length+1) k') w'∧RowE P w0 w' sp' k' (es++[e])∧w.grownBy w' (blk sp):=by
 obtain⟨hs,hl,hrow,hdat⟩:=h.ex;obtain⟨i0,hi,hz0,hz1,hz2⟩:=info_parts zzf;obtain⟨v',w',hrun,h1,h2,_,_⟩:=run_append_own_at (P:=Tryz.prog) w w0.heap.size 27 ty 64 i0 _ 4 48 Tryz.underlying27 hi hz0 hz1 hz2 rfl (by omega) _ _ _ hrow ⟨B,0,none⟩ 1 1 (zbu e hd) rfl
  (fun j u hu=>by have:=World.news_of_block hB j u;simp only at this;exact this hu) (by intro u hu;simp only[zbu,List.mem_cons,List.not_mem_nil,or_false] at hu;rcases hu with rfl|rfl|rfl|rfl <;> rfl) (by simp only[maxLen];omega) (by omega) h.bel.size
 have hv:∃ sp' c',v'=.slice sp' (es.length+1) c':=by
  rcases h1.2 with⟨hv,h0⟩|⟨g,cap,cur,hv,_⟩
  ·omega
  ·exact⟨_,_,hv⟩
 obtain⟨sp',c',rfl⟩:=hv;have hb2:Below w0.heap.size w w':=(Below.refl _ w).grown h2 h.bel.size (fun j hj=>(hrow.lt j hj).1);rw[zal] at h2;refine⟨sp',c',w',hrun,⟨h.bel.trans hb2,hs++[hd],by simp[hl],?_,fun i hi hj=>?_⟩,h2⟩
 ·rw[zna es hs e hd hl,List.length_append];exact h1
 ·by_cases hi':i<es.length
  ·rw[List.getElem_append_left (by omega),List.getElem_append_left hi'];exact hdat i hi' (by omega)
  ·rw[List.length_append,List.length_singleton] at hi;obtain rfl:i=es.length:=by omega
   rw[List.getElem_append_right (by omega),List.getElem_append_right (Nat.le_refl _)]
   simpa [hl] using hdd
end
theorem ze9 {P:Nat→Prop} {w0 w:World} {ops:Array Oper} {rest:List Oper} {o:Oper} {a:Act} {Q:Exit→Act→World→Prop} (hgd:o.guard=none) (s x:Operand)
  (ho:o.op=.call { callee:=.builtin .append,args:=#[s,x],argTypes:=#[27,27] })
  (sp:Option Addr) (n k:Nat) (es:List EntI) (hsv:a.eval s=.slice sp n k) (hn:es.length=n) (hown:RowE P w0 w sp k es) (B:Nat) (e:EntI) (h:Option Addr×Nat) (hx:a.eval x=.slice (some ⟨B,0,none⟩) 1 1)
  (hB:w.heap[B]? = some (.cells (zbu e h).toArray 64 (0,0))) (hd:DatIn P w0 h e.2.2.2) (hlen:n≤1048576)
  (hk:∀ sp' k' w',RowE P w0 w' sp' k' (es++[e])→w.grownBy w' (blk sp)→wpList Tryz.prog ops Q rest (a.put o.dst (.slice sp' (n+1) k')) w') :
  wpList Tryz.prog ops Q (o::rest) a w:=by
 subst hn;refine wpList_plain hgd fun K hK=>?_;obtain⟨sp',c',w',hrun,h1,h2⟩:=zqy (w:=w) hown B e h hB hd hlen o.type;unfold Oper.wp;simp[execOp,ho,resolve,invoke,builtin,hsv,hx,hrun,Result.andThen];exact hK _ _ (hk sp' c' w' h1 h2)
end
end Go.Proofs.YtofllbpfajppeaaGreatDoor
