/- What a reading behind 'caught' leaves: all blocks but two; a new reader. -/
import Derived.Test.YtjcjleaicjhpeaaGreatDoorB02
import Derived.Test.YtjcjleaicjhpeaaGreatDoorB01
import Derived.Deep.RegionHeld3
set_option linter.unusedVariables false
set_option maxRecDepth 20000
set_option maxHeartbeats 16000000
namespace Go.Proofs.YtjcjleaicjhpeaaGreatDoor
section
open Go.ChangeShapes Go.WideShapes Go.ChangeAt Go.RowKit
structure Kept (R N:Nat) (w w':World):Prop where
 os:w'.os=w.os
 tape:w'.tape=w.tape
 output:w'.output=w.output
 size:w.heap.size≤w'.heap.size
 block:∀ j,j<w.heap.size→j≠R→j≠N→w'.heap[j]? = w.heap[j]?
theorem Kept.ofGrown {R N:Nat} {w w':World} (h:w.grownBy w' (some R)):Kept R N w w' :=
 ⟨h.os,h.tape,h.output,h.size,fun j hj hR _=>h.block j hj (fun e=>hR (Option.some.inj e))⟩
theorem Kept.ofGrown' {R N:Nat} {w w':World} (h:w.grownBy w' (some N)):Kept R N w w' :=
 ⟨h.os,h.tape,h.output,h.size,fun j hj _ hN=>h.block j hj (fun e=>hN (Option.some.inj e))⟩
theorem Kept.trans {R N:Nat} {a b c:World} (h:Kept R N a b) (k:Kept R N b c):Kept R N a c :=
 ⟨k.os.trans h.os,k.tape.trans h.tape,k.output.trans h.output,Nat.le_trans h.size k.size,fun j hj h1 h2=>(k.block j (Nat.lt_of_lt_of_le hj h.size) h1 h2).trans (h.block j hj h1 h2)⟩
theorem Kept.below {R N B:Nat} {w w':World} (h:Kept R N w w') (hB:B≤w.heap.size) (hR:B≤R) (hN:B≤N):Below B w w' :=
 ⟨h.os,h.tape,h.output,h.size,fun j hj=>h.block j (by omega) (by omega) (by omega)⟩
theorem zsu {w W:World} {a:Option Addr} {c:Nat} {l:List Nat} {k R:Nat} (hb:BytesAt w a l) (hW:Below w.heap.size w W) (hR:w.heap.size≤R) (hblk:W.heap[R]? = some (.cells #[.slice a l.length c,.int .i64 (k:Int)] 198 (0,0))) (hk:k≤l.length):RdAt R W a c l k :=
 ⟨hblk,hb.later hW,fun b off h0 e=>by have:=zry hb h0 b off e;omega,hk⟩
theorem zhs {w:World} {g:Nat} {x:Obj} (o:Obj) (h:w.heap[g]? = some x):(w.alloc o).heap[g]? = some x :=
 (Below.heap_alloc w o g (Array.getElem?_eq_some_iff.1 h).1).trans h
theorem zjq (c:Array Value) (w:World):(callFunc 155 c).run Tryz.prog w=.ok (.enter 155 c) w:=by
 simp[callFunc,go_sem,Tryz.func155];rw[if_neg (by decide +kernel),if_neg (fun h=>by cases h)]
theorem zsi (R N:Nat) (z:Int) (a:Option Addr) (c:Nat) (l:List Nat) (k n k2:Nat) (w:World) (h:RdAt R w a c l k) (hl:l.length≤maxLen) (hN:w.heap[N]? = some (.cells #[.int .i64 z] 3 (0,0))) (hne:N≠R) (ht:zck l k=(0,n,k2)) :
  Calls Tryz.prog 155 #[.pointer (some ⟨R,0,none⟩),.pointer (some ⟨N,0,none⟩)] w fun e w'=>e=.returned (.tuple #[])∧w'.heap[N]? = some (.cells #[.int .i64 (n:Int)] 3 (0,0))∧w'.heap[R]? = some (.cells #[.slice a l.length c,.int .i64 (k2:Int)] 198 (0,0))∧Kept R N w w':=by
 have HN:=zaa hN;have HR:=zaa h;clear hN h;go_enter Tryz.func155,Tryz.ntmps155
 go_wp2_with fail
 refine(zq1 R a c l k n k2 _ (za HR) hl ht).mono ?_;rintro e w1 ⟨rfl,hr1,hg1⟩;have hN1:w1.heap[N]? = some (.cells #[.int .i64 z] 3 (0,0)):=(hg1.block N (Array.getElem?_eq_some_iff.1 (za HN)).1 (fun e=>hne (Option.some.inj e))).trans (za HN);have hc:w1.cell? ⟨N,0,none⟩=some (.int .i64 z):=by rw[cell_of_row _ _ 0 _ _ _ hN1];rfl
 have hz:w1.frozen? ⟨N,0,none⟩=false:=by simp[World.frozen?,hN1]
 have hN2:=heap_setCell_same w1 N 0 _ 3 (.int .i64 (n:Int)) hN1;have H2:=zaa hN2;have HR1:=zaa hr1;have HG1:=zaa hg1;clear hN1 hN2 hr1 hg1
 go_wp2
 go_end0
 refine⟨rfl,za H2,?_,(Kept.ofGrown (za HG1)).trans (Kept.ofGrown' (zax _ _ _ _))⟩;rw[heap_setCell_other _ _ _ _ (fun e=>hne e.symm)];exact(za HR1).blk
theorem zrk (R N:Nat) (a:Option Addr) (c:Nat) (l:List Nat) (k x:Nat) (w:World) (h:RdAt R w a c l k) (hl:l.length≤maxLen) (ht:(zck l k).1=x) (hx:x≠0) :
  Calls Tryz.prog 155 #[.pointer (some ⟨R,0,none⟩),.pointer (some ⟨N,0,none⟩)] w fun e w'=>e=.panicked (given x)∧Kept R N w w':=by
 have HR:=zaa h;clear h;go_enter Tryz.func155,Tryz.ntmps155
 go_wp2_with fail
 refine(zpn R a c l k x _ (za HR) hl ht hx).mono ?_;rintro e w1 ⟨rfl,⟨k',hr1⟩,hg1⟩
 go_wp2
 exact⟨rfl,rfl,Kept.ofGrown hg1⟩
theorem ztw (a:Option Addr) (m c:Nat) (l:List Nat) (k n k2:Nat) (kk:Int) (w:World) (hm:l.length=m) (hkk:kk=(k:Int)) (hl:l.length≤maxLen) (hk:k≤l.length) (hb:BytesAt w a l) (ht:zck l k=(0,n,k2)) :
  Calls Tryz.prog 98 #[.slice a m c,.int .i64 kk] w fun e w'=>e=.returned (.tuple #[.int .i64 (n:Int),.int .i64 (k2:Int),.int .i64 0])∧Below w.heap.size w w':=by
 subst hm hkk;have HB:=zaa hb;have HT:=zaa ht;have HL:=zaa hl;clear hb ht hl;have hmf:∀ (fn:Fn) (first cap:Array Value) (w:World),(Instr.makeFunc fn first cap).run Tryz.prog w=.ok (.func fn first cap) w:=fun _ _ _ _=>rfl;go_enter Tryz.func98,Tryz.ntmps98
 go_wp2_with fail
 refine(zhb k 0 l.length _ ⟨by omega,by omega⟩).mono ?_;rintro e w' ⟨rfl,rfl⟩
 go_wp2_with fail
 have hN0:=zad w' (.cells #[.int .i64 0] 3);have hR0:=zad (w'.alloc (.cells #[.int .i64 0] 3)) (.cells #[.slice a l.length c,.int .i64 (k:Int)] 198);have hN1:=zhs (.cells #[.slice a l.length c,.int .i64 (k:Int)] 198) hN0;rw[zba] at hR0;have hbl:Below w'.heap.size w' ((w'.alloc (.cells #[.int .i64 0] 3)).alloc (.cells #[.slice a l.length c,.int .i64 (k:Int)] 198)):=((Below.refl _ _).alloc (Nat.le_refl _) _).alloc (by rw[zba];omega) _;have hsz:((w'.alloc (.cells #[.int .i64 0] 3)).alloc (.cells #[.slice a l.length c,.int .i64 (k:Int)] 198)).heap.size=w'.heap.size+2:=by rw[zba,zba]
 generalize (w'.alloc (.cells #[.int .i64 0] 3)).alloc (.cells #[.slice a l.length c,.int .i64 (k:Int)] 198)=W at *;have hbl2:Below w'.heap.size w' (W.alloc (.cells #[.int .i64 0] 35)):=hbl.alloc hbl.size _;have hE:=zad W (.cells #[.int .i64 0] 35);have hr:=zsu (za HB) hbl2 (Nat.le_succ _) (zhs _ hR0) hk;have hN2:=zhs (.cells #[.int .i64 0] 35) hN1;refine(zhd 155 _ W zjq _ (zsi (w'.heap.size+1) w'.heap.size 0 a c l k n k2 _ hr (za HL) hN2 (by omega) (za HT)) ?_ ?_).mono ?_
 ·rintro e w1 ⟨_,_,_,hk1⟩;exact(hk1.block _ (by rw[zba];omega) (by omega) (by omega)).trans hE
 ·rintro e w1 ⟨rfl,_⟩;exact .inl rfl
 ·rintro e w2 ⟨e1,w1,⟨rfl,h1,h2,hk1⟩,hg,⟨_,rfl⟩|⟨x,hx,_⟩⟩
  ·have h1':w2.heap[w'.heap.size]? = _:=(hg.block _ (Array.getElem?_eq_some_iff.1 h1).1 (fun e=>by have:=Option.some.inj e;omega)).trans h1;have h2':w2.heap[w'.heap.size+1]? = _:=(hg.block _ (Array.getElem?_eq_some_iff.1 h2).1 (fun e=>by have:=Option.some.inj e;omega)).trans h2;have c1:w2.cell? ⟨w'.heap.size,0,none⟩=some (.int .i64 (n:Int)):=by rw[cell_of_row _ _ 0 _ _ _ h1'];rfl
   have c2:w2.cell? ⟨w'.heap.size+1,1,none⟩=some (.int .i64 (k2:Int)):=by rw[cell_of_row _ _ 1 _ _ _ h2'];rfl
   have HF:=zaa ((hbl2.trans (hk1.below (by rw[zba];omega) (by omega) (Nat.le_refl _))).trans ((Below.refl w'.heap.size w1).grown hg (by have:=hk1.size;rw[zba] at this;omega) (fun j e=>by have:=Option.some.inj e;omega)));clear h1 h2 h1' h2' hk1 hg hE hr hN2 hN1 hN0 hR0 hbl hbl2
   go_wp2_with fail
   go_quiet (fail)
   go_wp2
   go_ret3
   exact⟨rfl,(za HF).trans ⟨rfl,rfl,rfl,Nat.le_refl _,fun _ _=>rfl⟩⟩
  ·cases hx
theorem zsk (a:Option Addr) (m c:Nat) (l:List Nat) (k x:Nat) (kk:Int) (w:World) (hm:l.length=m) (hkk:kk=(k:Int)) (hl:l.length≤maxLen) (hk:k≤l.length) (hb:BytesAt w a l) (ht:(zck l k).1=x) (hx:x≠0) :
  Calls Tryz.prog 98 #[.slice a m c,.int .i64 kk] w fun e w'=>e=.returned (.tuple #[.int .i64 0,.int .i64 0,.int .i64 (x:Int)])∧Below w.heap.size w w':=by
 subst hm hkk;have HB:=zaa hb;have HT:=zaa ht;have HL:=zaa hl;clear hb ht hl;have hmf:∀ (fn:Fn) (first cap:Array Value) (w:World),(Instr.makeFunc fn first cap).run Tryz.prog w=.ok (.func fn first cap) w:=fun _ _ _ _=>rfl;go_enter Tryz.func98,Tryz.ntmps98
 go_wp2_with fail
 refine(zhb k 0 l.length _ ⟨by omega,by omega⟩).mono ?_;rintro e w' ⟨rfl,rfl⟩
 go_wp2_with fail
 have hR0:=zad (w'.alloc (.cells #[.int .i64 0] 3)) (.cells #[.slice a l.length c,.int .i64 (k:Int)] 198);rw[zba] at hR0;have hbl:Below w'.heap.size w' ((w'.alloc (.cells #[.int .i64 0] 3)).alloc (.cells #[.slice a l.length c,.int .i64 (k:Int)] 198)):=((Below.refl _ _).alloc (Nat.le_refl _) _).alloc (by rw[zba];omega) _;have hsz:((w'.alloc (.cells #[.int .i64 0] 3)).alloc (.cells #[.slice a l.length c,.int .i64 (k:Int)] 198)).heap.size=w'.heap.size+2:=by rw[zba,zba]
 generalize (w'.alloc (.cells #[.int .i64 0] 3)).alloc (.cells #[.slice a l.length c,.int .i64 (k:Int)] 198)=W at *;have hbl2:Below w'.heap.size w' (W.alloc (.cells #[.int .i64 0] 35)):=hbl.alloc hbl.size _;have hE:=zad W (.cells #[.int .i64 0] 35);have hr:=zsu (za HB) hbl2 (Nat.le_succ _) (zhs _ hR0) hk;refine(zhd 155 _ W zjq _ (zrk (w'.heap.size+1) w'.heap.size a c l k x _ hr (za HL) (za HT) hx) ?_ ?_).mono ?_
 ·rintro e w1 ⟨_,hk1⟩;exact(hk1.block _ (by rw[zba];omega) (by omega) (by omega)).trans hE
 ·rintro e w1 ⟨rfl,_⟩;exact .inr ⟨x,rfl⟩
 ·rintro e w2 ⟨e1,w1,⟨rfl,hk1⟩,hg,⟨hx,_⟩|⟨y,hy,rfl⟩⟩
  ·cases hx
  ·have hxy:y=x:=by
    simp only[given,Ending.panicked.injEq,List.cons.injEq,PanicEntry.mk.injEq,Value.iface.injEq,Value.agg.injEq,and_true,true_and] at hy;have:=congrArg (fun z:Array Value=>z[0]?) hy;simp at this;omega
   subst hxy;have HF:=zaa ((hbl2.trans (hk1.below (by rw[zba];omega) (by omega) (Nat.le_refl _))).trans ((Below.refl w'.heap.size w1).grown hg (by have:=hk1.size;rw[zba] at this;omega) (fun j e=>by have:=Option.some.inj e;omega)));clear hk1 hg hE hr hR0 hbl hbl2;have hx0:¬ (y:Int)=0:=by omega
   go_wp2
   go_ret3
   exact⟨rfl,za HF⟩
end
section
theorem zq9 (q m s:Nat):m+q % 128*128 ^ s+q / 128*128 ^ (s+1)=m+q*128 ^ s:=by
 have h:=Nat.div_add_mod q 128;have e:q*128 ^ s=(128*(q / 128)+q % 128)*128 ^ s:=by rw[h]
 have e2:q / 128*128 ^ (s+1)=128*(q / 128)*128 ^ s:=by rw[Nat.pow_succ,Nat.mul_comm (128 ^ s) 128,← Nat.mul_assoc,Nat.mul_comm (q / 128) 128]
 rw[e,e2,Nat.add_mul];omega
theorem zpv (l:List Nat) (hl:∀ c∈l,c<256):∀ (f s m k n k2:Nat),zd1 l f s m k=(0,n,k2) →
  ∃ q,n=m+q*128 ^ s∧k2=k+(zal q).length∧k2≤l.length∧(∀ i,i<(zal q).length→l.getD (k+i) 0=(zal q).getD i 0)∧(0<s→0<q)∧n≤1099511627776:=by
 intro f;induction f with
 |zero=>intro s m k n k2 h;simp[zd1] at h
 |succ f ih =>
  intro s m k n k2 h;rw[zd1] at h;split at h
  ·simp at h
  ·next hk =>
   have hx256:l.getD k 0<256:=by
    rw[List.getD_eq_getElem?_getD,List.getElem?_eq_getElem (by omega)];exact hl _ (List.getElem_mem _)
   generalize hx:l.getD k 0=x at *;split at h
   ·next h128 =>
    split at h
    ·simp at h
    ·obtain⟨q,h1,h2,h3,h4,h5,h6⟩:=ih _ _ _ _ _ h;have hq:=h5 (by omega);refine⟨128*q+x % 128,?_,?_,h3,?_,fun _=>by omega,h6⟩
     ·rw[h1,← zq9 (128*q+x % 128) m s];have e1:(128*q+x % 128) % 128=x % 128:=by omega
      have e2:(128*q+x % 128) / 128=q:=by omega
      rw[e1,e2]
     ·rw[zc8 (by omega),List.length_cons,h2];have e2:(128*q+x % 128) / 128=q:=by omega
      rw[e2];omega
     ·intro i hi;have e1:(128*q+x % 128) % 128+128=x:=by omega
      have e2:(128*q+x % 128) / 128=q:=by omega
      have hn:zal (128*q+x % 128)=x::zal q:=by rw[zc8 (by omega),e1,e2]
      rw[hn] at hi ⊢;cases i with
      |zero=>simpa using hx
      |succ i =>
       rw[List.length_cons] at hi;rw[show k+(i+1)=k+1+i by omega,h4 i (by omega)];simp
   ·next h128 =>
    split at h
    ·simp at h
    ·next h0 =>
     split at h
     ·simp at h
     ·next hb =>
      simp only[Prod.mk.injEq,true_and] at h;obtain⟨rfl,rfl⟩:=h;refine⟨x,rfl,by rw[zcn (by omega)];simp,by omega,?_,fun hs=>by omega,by omega⟩;intro i hi;rw[zcn (by omega)] at hi ⊢;simp only[List.length_cons,List.length_nil] at hi;obtain rfl:i=0:=by omega
      simpa using hx
end
section
theorem zk1 (l:List Nat):∀ (m:List Nat) (k:Nat),k+m.length≤l.length→(∀ i,i<m.length→l.getD (k+i) 0=m.getD i 0)→l.drop k=m++l.drop (k+m.length):=by
 intro m;induction m with
 |nil=>intro k _ _;simp
 |cons x r ih =>
  intro k hk hg;have hlt:k<l.length:=by simp only[List.length_cons] at hk;omega
  have h0:=hg 0 (by simp)
  rw[List.drop_eq_getElem_cons hlt,ih (k+1) (by simp only[List.length_cons] at hk;omega) (fun i hi=>by
   have:=hg (i+1) (by simp only[List.length_cons];omega)
   rw[show k+1+i=k+(i+1) by omega,this];simp)]
  have e:l[k]=x:=by
   rw[Nat.add_zero,List.getD_eq_getElem?_getD,List.getElem?_eq_getElem hlt] at h0
   simpa using h0
  rw[e,List.cons_append,List.length_cons,show k+1+r.length=k+(r.length+1) by omega]
theorem zh {l:List Nat} (hl:∀ c∈l,c<256) {k n k2:Nat} (h:zcz l k=.ok (n,k2)):l.drop k=zal n++l.drop k2∧k2=k+(zal n).length∧k2≤l.length∧n≤1099511627776:=by
 have h0:zck l k=(0,n,k2):=by
  unfold zcz at h;split at h
  ·next h1 =>
   simp only[Except.ok.injEq,Prod.mk.injEq] at h;rw[← h.1,← h.2,← h1]
  ·cases h
 obtain⟨q,h1,h2,h3,h4,_,h6⟩:=zpv l hl 6 0 0 k n k2 h0;obtain rfl:n=q:=by simpa using h1
 refine⟨?_,h2,h3,h6⟩;rw[zk1 l (zal n) k (by omega) h4,h2]
end
section
open Go.ChangeShapes Go.WideShapes Go.ChangeAt Go.RowKit
theorem zgp {l:List Nat} {k n k2:Nat} (h:zcz l k=.ok (n,k2)) (hl:∀ c∈l,c<256):k2≤l.length∧n≤1099511627776:=by
 obtain⟨_,_,h3,h4⟩:=zh hl h;exact⟨h3,h4⟩
theorem zpw (a:Option Addr) (m c:Nat) (l:List Nat) (k n k2:Nat) (w:World) (hm:l.length=m) (hl:m≤maxLen) (hk:k≤l.length) (hb:BytesAt w a l) (ht:zcz l k=.ok (n,k2)) :
  Calls Tryz.prog 98 #[.slice a m c,.int .i64 (k:Int)] w fun e w'=>e=.returned (.tuple #[.int .i64 (n:Int),.int .i64 (k2:Int),.int .i64 0])∧Below w.heap.size w w':=by
 unfold zcz at ht;split at ht
 ·rename_i h0
  simp only[Except.ok.injEq,Prod.mk.injEq] at ht;refine ztw a m c l k n k2 (k:Int) w hm rfl (by omega) hk hb ?_;rw[← ht.1,← ht.2,← h0]
 ·cases ht
theorem zn4 (a:Option Addr) (m c:Nat) (l:List Nat) (k x:Nat) (w:World) (hm:l.length=m) (hl:m≤maxLen) (hk:k≤l.length) (hb:BytesAt w a l) (ht:zcz l k=.error x) :
  Calls Tryz.prog 98 #[.slice a m c,.int .i64 (k:Int)] w fun e w'=>e=.returned (.tuple #[.int .i64 0,.int .i64 0,.int .i64 (x:Int)])∧Below w.heap.size w w':=by
 have hx:=zfa ht;unfold zcz at ht;split at ht
 ·cases ht
 ·simp only[Except.error.injEq] at ht;exact zsk a m c l k x (k:Int) w hm rfl (by omega) hk hb ht hx
def zcx (e x:Nat):Nat:=if e=0 then x else e
def zcd (h:List Nat) (k e:Nat):Nat×Nat×Nat:=if e≠0 then (0,k,e) else match zcz h k with
 |.ok (n,k2)=>(n,k2,0)
 |.error x=>(0,k,x)
def zpy (h:List Nat) (k e n:Nat):Nat:=if h.length - k<n then zcx e 3 else e
def zd7 (h:List Nat) (k e n:Nat):List Nat×Nat×Nat:=if zpy h k e n≠0 then ([],k,zpy h k e n) else ((h.drop k).take n,k+n,0)
def zk (h:List Nat) (k e:Nat):Nat:=if k<h.length then zcx e 4 else e
def zbo (h:List Nat) (k e m:Nat):Nat×Nat×Nat :=
 let a:=zcd h k e
 if m<a.1 then (0,a.2.1,zcx a.2.2 6) else a
def zbp (h:List Nat) (k e:Nat):List Nat×Nat×Nat :=
 let a:=zbo h k e 128
 zd7 h a.2.1 a.2.2 a.1
def zco (b:List Nat):Nat:=b.foldl (fun x c=>x*256+c) 0
def wtK (h:List Nat) (k e:Nat):Nat×Nat×Nat :=
 let a:=zd7 h k e 8
 (zco a.1,a.2.1,a.2.2)
def tgK (h:List Nat) (k e:Nat):Tgt×Nat×Nat :=
 let a:=zbp h k e
 let b:=wtK h a.2.1 a.2.2
 ((zaj a.1,b.1),b.2.1,b.2.2)
def zgq (h:List Nat):Nat→Nat→Nat→List Tgt×Nat×Nat
 |0,k,e=>([],k,e)
 |n+1,k,e =>
  let a:=tgK h k e
  let r:=zgq h n a.2.1 a.2.2
  (a.1::r.1,r.2.1,r.2.2)
def zjf (h:List Nat) (k e:Nat):List Tgt×Nat×Nat :=
 let a:=zbo h k e 16
 zgq h a.1 a.2.1 a.2.2
theorem zq0 {h:List Nat} {k n k2:Nat} (ht:zcz h k=.ok (n,k2)):zcd h k 0=(n,k2,0):=by simp[zcd,ht]
theorem zoe {h:List Nat} {k x:Nat} (ht:zcz h k=.error x):zcd h k 0=(0,k,x):=by simp[zcd,ht]
theorem zfg {h:List Nat} {k e:Nat} (he:e≠0):zcd h k e=(0,k,e):=by simp[zcd,he]
theorem zic {e x:Nat} (he:e≠0):zcx e x=e:=by simp[zcx,he]
theorem zdo {h:List Nat} {k e n:Nat} (he:e≠0):zd7 h k e n=([],k,e):=by
 have:zpy h k e n=e:=by unfold zpy;rw[zic he];simp
 simp[zd7,this,he]
theorem ziq {h:List Nat} (hb:∀ c∈h,c<256) (k e:Nat):(zcd h k e).1≤1099511627776:=by
 unfold zcd;split
 ·simp
 ·cases ht:zcz h k with
  |ok q=>obtain⟨n,k2⟩:=q;exact(zgp ht hb).2
  |error x=>simp
theorem zdx (h:List Nat) (k e m:Nat):(zbo h k e m).1≤m:=by
 unfold zbo;dsimp only;split
 ·simp
 ·omega
theorem zpm (b:List Nat) (c:Nat):zco (b++[c])=zco b*256+c:=by simp[zco]
theorem zof:∀ (b:List Nat) (x:Nat),(∀ c∈b,c<256)→b.foldl (fun x c=>x*256+c) x<(x+1)*256 ^ b.length
 |[],x,_=>by simp
 |c::b,x,hb=>by
  have h1:=zof b (x*256+c) (fun y hy=>hb y (by simp[hy]));have h2:=hb c (by simp);have h3:(x*256+c+1)*256 ^ b.length≤((x+1)*256)*256 ^ b.length:=Nat.mul_le_mul_right _ (by omega);have h4:((x+1)*256)*256 ^ b.length=(x+1)*256 ^ (b.length+1):=by rw[Nat.pow_succ,Nat.mul_assoc,Nat.mul_comm 256]
  simp only[List.foldl_cons,List.length_cons];omega
theorem zog (b:List Nat) (hb:∀ c∈b,c<256):zco b<256 ^ b.length:=by
 have:=zof b 0 hb
 simpa [zco] using this
theorem zln (b:List Nat) (hb:∀ c∈b,c<256) (h:b.length≤8):zco b<18446744073709551616 :=
 Nat.lt_of_lt_of_le (zog b hb) (Nat.le_trans (Nat.pow_le_pow_right (by decide) h) (by decide))
theorem zlm (b:List Nat) (hb:∀ c∈b,c<256) (h:b.length≤7):zco b<72057594037927936 :=
 Nat.lt_of_lt_of_le (zog b hb) (Nat.le_trans (Nat.pow_le_pow_right (by decide) h) (by decide))
theorem zjv (b:List Nat) (j:Nat) (h:j<b.length):zco (b.take (j+1))=zco (b.take j)*256+b[j]:=by
 rw[List.take_succ_eq_append_getElem h,zpm]
end
section
open Go.RowKit
section
variable {P:Program} {md:Region.Mode} {ops:Array Oper} {Q:Exit→Act→World→Prop} {S:World→Prop}
theorem zqn (i:Nat) {oi:Oper} {v:Value} {fuel:Nat} {listed:Array Bool} {a:Act} {w:World} (hr:(Region.ready md ops listed).contains i=true) (hi:ops[i]? = some oi)
  (hw:Region.wanted oi (yielded ops a.tmps)=true) (hs:Region.noSelect ops=true) (hf:Region.free md ops listed i=true)
  (hQ:∀ c a w,Q (.panic c) (a.put oi.dst v) w→Q (.panic c) a w) (hy:∀ w,S w→(execOp a.eval oi).run P w=.ok (.value v) w) (hS:S w)
  (h:wpAnyH P md ops Q S fuel (listed.setIfInBounds i true) (a.put oi.dst v) w):wpAnyH P md ops Q S (fuel+1) listed a w :=
 wpAnyH_take hi hs hf hr hQ (Or.inl ⟨hw,hy⟩) hS h
theorem zqm (i:Nat) {oi:Oper} {fuel:Nat} {listed:Array Bool} {a:Act} {w:World} (hr:(Region.ready md ops listed).contains i=true) (hi:ops[i]? = some oi)
  (hw:Region.wanted oi (yielded ops a.tmps)=false) (hs:Region.noSelect ops=true) (hf:Region.free md ops listed i=true)
  (hQ:∀ c a w,Q (.panic c) (a.put oi.dst undef) w→Q (.panic c) a w) (hS:S w)
  (h:wpAnyH P md ops Q S fuel (listed.setIfInBounds i true) (a.put oi.dst undef) w):wpAnyH P md ops Q S (fuel+1) listed a w :=
 wpAnyH_take hi hs hf hr hQ (Or.inr ⟨hw,rfl⟩) hS h
theorem zn9 (i:Nat) {oi:Oper} {fuel:Nat} {listed:Array Bool} {a:Act} {w:World} (hr:Region.ready md ops listed=[i]) (hi:ops[i]? = some oi)
  (h:∀ K':Act→World→Prop,Shut (∀ a w,S w→(S w→wpAnyH P md ops Q S fuel (listed.setIfInBounds i true) a w)→K' a w)→if Region.wanted oi (yielded ops a.tmps)=true then Oper.wp P oi a w K' Q else K' (a.put oi.dst undef) w) :
  wpAnyH P md ops Q S (fuel+1) listed a w :=
 wpAnyH_ready hr (by simp) (AllReadyH.cons hi h AllReadyH.nil)
theorem zbr (i:Nat) {oi:Oper} {fuel:Nat} {listed:Array Bool} {a:Act} {w:World} (hr:Region.ready md ops listed=[i]) (hi:ops[i]? = some oi)
  (hw:Region.wanted oi (yielded ops a.tmps)=false) (hS:S w)
  (h:wpAnyH P md ops Q S fuel (listed.setIfInBounds i true) (a.put oi.dst undef) w):wpAnyH P md ops Q S (fuel+1) listed a w :=
 zn9 i hr hi (fun K' hK=>by rw[hw];exact hK.out _ _ hS (fun _=>h))
theorem hT (i:Nat) {oi:Oper} {v:Value} {fuel:Nat} {listed:Array Bool} {a a':Act} {w:World} (h:wpAnyH P md ops Q S fuel (listed.setIfInBounds i true) a' w) (hr:(Region.ready md ops listed).contains i=true:=by kernel_rfl) (hi:ops[i]? = some oi:=by rfl)
  (hw:Region.wanted oi (yielded ops a.tmps)=true:=by rfl) (hs:Region.noSelect ops=true:=by kernel_rfl) (hf:Region.free md ops listed i=true:=by kernel_rfl)
  (hy:∀ w,S w→(execOp a.eval oi).run P w=.ok (.value v) w:=by(intro w hSw;(try dsimp only at hSw);go_simp;try with_reducible rfl))
  (hp:a.put oi.dst v=a':=by first|(simp only[Act.put,List.getElem_toArray,List.getElem_cons_succ,List.getElem_cons_zero,List.setIfInBounds_toArray,List.set_cons_zero,List.set_cons_succ];done)|(simp only[Act.put,List.getElem_toArray,List.getElem_cons_succ,List.getElem_cons_zero,List.setIfInBounds_toArray,List.set_cons_zero,List.set_cons_succ];rfl)|rfl)
  (hQ:∀ c a w,Q (.panic c) (a.put oi.dst v) w→Q (.panic c) a w:=by exact fun _ _ _ h=>h) (hS:S w:=by assumption):wpAnyH P md ops Q S (fuel+1) listed a w:=by
 subst hp;exact zqn i hr hi hw hs hf hQ hy hS h
theorem hN (i:Nat) {oi:Oper} {fuel:Nat} {listed:Array Bool} {a a':Act} {w:World} (h:wpAnyH P md ops Q S fuel (listed.setIfInBounds i true) a' w) (hr:(Region.ready md ops listed).contains i=true:=by kernel_rfl) (hi:ops[i]? = some oi:=by rfl)
  (hw:Region.wanted oi (yielded ops a.tmps)=false:=by rfl) (hs:Region.noSelect ops=true:=by kernel_rfl) (hf:Region.free md ops listed i=true:=by kernel_rfl)
  (hp:a.put oi.dst undef=a':=by first|(simp only[Act.put,List.getElem_toArray,List.getElem_cons_succ,List.getElem_cons_zero,List.setIfInBounds_toArray,List.set_cons_zero,List.set_cons_succ];done)|(simp only[Act.put,List.getElem_toArray,List.getElem_cons_succ,List.getElem_cons_zero,List.setIfInBounds_toArray,List.set_cons_zero,List.set_cons_succ];rfl)|rfl)
  (hQ:∀ c a w,Q (.panic c) (a.put oi.dst undef) w→Q (.panic c) a w:=by exact fun _ _ _ h=>h) (hS:S w:=by assumption):wpAnyH P md ops Q S (fuel+1) listed a w:=by
 subst hp;exact zqm i hr hi hw hs hf hQ hS h
theorem hO (i:Nat) {oi:Oper} {fuel:Nat} {listed:Array Bool} {a:Act} {w:World}
  (h:∀ K':Act→World→Prop,Shut (∀ a w,S w→(S w→wpAnyH P md ops Q S fuel (listed.setIfInBounds i true) a w)→K' a w)→if Region.wanted oi (yielded ops a.tmps)=true then Oper.wp P oi a w K' Q else K' (a.put oi.dst undef) w) (hr:Region.ready md ops listed=[i]:=by kernel_rfl) (hi:ops[i]? = some oi:=by rfl) :
  wpAnyH P md ops Q S (fuel+1) listed a w:=zn9 i hr hi h
theorem hP {fuel:Nat} {listed:Array Bool} {a a':Act} {w:World} (h:wpAnyH P md ops Q S fuel listed a' w)
  (hp:a=a':=by first|(simp only[Act.put,List.getElem_toArray,List.getElem_cons_succ,List.getElem_cons_zero,List.setIfInBounds_toArray,List.set_cons_zero,List.set_cons_succ];done)|(simp only[Act.put,List.getElem_toArray,List.getElem_cons_succ,List.getElem_cons_zero,List.setIfInBounds_toArray,List.set_cons_zero,List.set_cons_succ];rfl)|rfl):wpAnyH P md ops Q S fuel listed a w:=by
 subst hp;exact h
end
end
section
open Go.ChangeShapes Go.WideShapes Go.ChangeAt Go.RowKit
theorem BytesAt.far0 {w w':World} {a:Option Addr} {l:List Nat} {j:Nat} (hb:BytesAt w a l) (hg:w.grownBy w' (some j)) (hne:0<l.length→∀ b off,a=some ⟨b,off,none⟩→b≠j):BytesAt w' a l:=by
 rcases Nat.eq_zero_or_pos l.length with h|h
 ·exact⟨hb.lt,fun i hi=>by omega⟩
 ·exact hb.far hg (hne h)
structure KR (R:Nat) (w:World) (p:Option Addr) (c:Nat) (h:List Nat) (k e:Nat):Prop where
 row:w.heap[R]? = some (.cells #[.slice p h.length c,.int .i64 (k:Int),.int .i64 (e:Int)] 104 (0,0))
 by_:BytesAt w p h
 ne:0<h.length→∀ ad,p=some ad→ad.block≠R
 kl:k≤h.length
 hl:h.length≤maxLen
 hc:h.length≤c
 hm:c≤maxLen
 hz:p=none→c=0
section
variable {R:Nat} {w w':World} {p:Option Addr} {c:Nat} {h:List Nat} {k e:Nat}
theorem KR.later (z:KR R w p c h k e) (u:Below w.heap.size w w'):KR R w' p c h k e:=⟨zac u z.row,z.by_.later u,z.ne,z.kl,z.hl,z.hc,z.hm,z.hz⟩
theorem zao (u:Below w.heap.size w w') (o:Option Nat):w.grownBy w' o:=⟨u.os,u.tape,u.output,u.size,fun g hg _=>u.block g hg⟩
theorem KR.setE (z:KR R w p c h k e) (x:Nat):KR R (w.setCell ⟨R,2,none⟩ (.int .i64 (x:Int))) p c h k x :=
 ⟨heap_setCell_same w R 2 _ _ _ z.row,z.by_.far0 (zax w R 2 _) (fun h0 b off e=>z.ne h0 _ e),z.ne,z.kl,z.hl,z.hc,z.hm,z.hz⟩
theorem KR.setK (z:KR R w p c h k e) (x:Nat) (hx:x≤h.length):KR R (w.setCell ⟨R,1,none⟩ (.int .i64 (x:Int))) p c h x e :=
 ⟨heap_setCell_same w R 1 _ _ _ z.row,z.by_.far0 (zax w R 1 _) (fun h0 b off e=>z.ne h0 _ e),z.ne,hx,z.hl,z.hc,z.hm,z.hz⟩
theorem KR.froz (z:KR R w p c h k e) (i:Nat):w.frozen? ⟨R,i,none⟩=false:=by simp[World.frozen?,z.row]
theorem KR.c0 (z:KR R w p c h k e):w.cell? ⟨R,0,none⟩=some (.slice p h.length c):=zae z.row 0 _ rfl
theorem KR.c1 (z:KR R w p c h k e):w.cell? ⟨R,1,none⟩=some (.int .i64 (k:Int)):=zae z.row 1 _ rfl
theorem KR.c2 (z:KR R w p c h k e):w.cell? ⟨R,2,none⟩=some (.int .i64 (e:Int)):=zae z.row 2 _ rfl
theorem zeh (z:KR R w p c h k e) (x:Nat) :
  Calls Tryz.prog 99 #[.pointer (some ⟨R,0,none⟩),.int .i64 (x:Int)] w fun en w'=>en=.returned (.tuple #[])∧KR R w' p c h k (zcx e x)∧w.grownBy w' (some R):=by
 by_cases he:e=0
 ·subst he;have c2:w.cell? ⟨R,2,none⟩=some (.int .i64 0):=z.c2;have f2:=z.froz 2;have FE:=zaa (show KR R (w.setCell ⟨R,2,none⟩ (.int .i64 (x:Int))) p c h k (zcx 0 x)∧w.grownBy (w.setCell ⟨R,2,none⟩ (.int .i64 (x:Int))) (some R) from⟨z.setE x,zax w R 2 _⟩);clear z;go_enter Tryz.func99,Tryz.ntmps99
  go_wp2
  go_end0
  exact⟨rfl,za FE⟩
 ·have c2:=z.c2;have e1:¬ (e:Int)=0:=by omega
  have e2:((e:Int)==0)=false:=by simp[he]
  have FE:=zaa (show KR R w p c h k (zcx e x)∧w.grownBy w (some R) from⟨by rw[zic he];exact z,zao (Below.refl _ _) _⟩);clear z he;generalize (e:Int)=ei at *;go_enter Tryz.func99,Tryz.ntmps99
  go_wp2
  go_end0
  exact⟨rfl,za FE⟩
def zep (R:Nat) (w:World) (p:Option Addr) (c:Nat) (h:List Nat) (r:Nat×Nat×Nat) (en:Ending) (w':World):Prop:=en=.returned (.int .i64 (r.1:Int))∧KR R w' p c h r.2.1 r.2.2∧w.grownBy w' (some R)
theorem zby (z:KR R w p c h k e):Calls Tryz.prog 54 #[.pointer (some ⟨R,0,none⟩)] w (zep R w p c h (zcd h k e)):=by
 by_cases he:e=0
 ·subst he;have Z:=zaa z;have d0:w.drew.cell? ⟨R,0,none⟩=some (.slice p h.length c):=z.c0;have d1:w.drew.cell? ⟨R,1,none⟩=some (.int .i64 (k:Int)):=z.c1;have c2:w.cell? ⟨R,2,none⟩=some (.int .i64 0):=z.c2;cases ht:zcz h k with
  |ok q =>
   obtain⟨n,k2⟩:=q;have TC:=zaa (zpw p h.length c h k n k2 w.drew rfl (z.hl) z.kl (z.by_.later ((Below.refl _ _).drew)) ht);have hk2:=(zgp ht z.by_.lt).1
   have FE:=zaa (show ∀ W,Below w.heap.size w W→zep R w p c h (zcd h k 0) (.returned (.int .i64 (n:Int))) (W.setCell ⟨R,1,none⟩ (.int .i64 (k2:Int))) from fun W u=>by
    rw[zq0 ht]
    exact⟨rfl,(z.later u).setK k2 hk2,zaf (zao u _) (zax W R 1 _)⟩)
   have FZ:=zaa (show ∀ W,Below w.heap.size w W→W.frozen? ⟨R,1,none⟩=false∧W.cell? ⟨R,1,none⟩=some (.int .i64 (k:Int)) from fun W u=>⟨(z.later u).froz 1,(z.later u).c1⟩);clear z ht;go_enter Tryz.func54,Tryz.ntmps54
   go_wp2_with fail
   refine wp_region_held_drew (S:=fun w'=>w'.cell? ⟨R,0,none⟩=some (.slice p h.length c)∧w'.cell? ⟨R,1,none⟩=some (.int .i64 (k:Int))) (by kernel_rfl) ?_ (fun hHeld=>?_)
   ·try dsimp only
    first|exact⟨d0,d1⟩|exact⟨e0,e1⟩
   refine hT 0 ?_;refine hT 1 ?_;refine hT 2 ?_;refine hT 3 ?_;refine hT 4 ?_;refine hT 5 ?_;refine hT 6 ?_;refine hT 7 ?_;refine hO 8 (fun K hK=>?_);go_simp
   first
    |(go_at_call 98
      refine(za TC).mono ?_;rintro e V1 ⟨rfl,v1⟩;have e0:=cell_later v1 d0;have e1:=cell_later v1 d1;have U1:=zaa (show Below w.heap.size w V1 from⟨v1.os,v1.tape,v1.output,v1.size,v1.block⟩)
      clear v1)
   go_wp2_with fail
   refine hK.out _ _ ?_ (fun hHeld=>?_)
   ·try dsimp only
    first|exact⟨d0,d1⟩|exact⟨e0,e1⟩
   clear hK K;refine hP ?_;refine hT 9 ?_;refine hT 10 ?_;refine hT 11 ?_;refine hT 12 ?_;refine hT 13 ?_;refine hT 14 ?_;refine hT 15 ?_;refine wpAnyH_done (by kernel_rfl) ?_ _;obtain⟨f1,g1⟩:=za FZ V1 (za U1);have FF:=zaa (za FE V1 (za U1));clear FE FZ
   go_wp2
   go_ret
   exact za FF
  |error x =>
   have hx:=zfa ht;have TC:=zaa (zn4 p h.length c h k x w.drew rfl (z.hl) z.kl (z.by_.later ((Below.refl _ _).drew)) ht);have FC:=zaa (fun W (u:Below w.heap.size w W)=>zeh (z.later u) x)
   have FE:=zaa (show ∀ W W',Below w.heap.size w W→KR R W' p c h k (zcx 0 x)→W.grownBy W' (some R)→zep R w p c h (zcd h k 0) (.returned (.int .i64 0)) W' from fun W W' u z' g=>by
    rw[zoe ht]
    exact⟨rfl,z',zaf (zao u _) g⟩)
   have x1:¬ (x:Int)=0:=by omega
   have x2:((x:Int)==0)=false:=by simp[hx]
   clear z ht hx;go_enter Tryz.func54,Tryz.ntmps54
   go_wp2_with fail
   generalize hxi:(x:Int)=xi at *;refine wp_region_held_drew (S:=fun w'=>w'.cell? ⟨R,0,none⟩=some (.slice p h.length c)∧w'.cell? ⟨R,1,none⟩=some (.int .i64 (k:Int))) (by kernel_rfl) ?_ (fun hHeld=>?_)
   ·try dsimp only
    first|exact⟨d0,d1⟩|exact⟨e0,e1⟩
   refine hT 0 ?_;refine hT 1 ?_;refine hT 2 ?_;refine hT 3 ?_;refine hT 4 ?_;refine hT 5 ?_;refine hT 6 ?_;refine hT 7 ?_;refine hO 8 (fun K hK=>?_);go_simp
   first
    |(go_at_call 98
      refine(za TC).mono ?_;rintro e V1 ⟨rfl,v1⟩;have e0:=cell_later v1 d0;have e1:=cell_later v1 d1;have U1:=zaa (show Below w.heap.size w V1 from⟨v1.os,v1.tape,v1.output,v1.size,v1.block⟩)
      clear v1)
   go_wp2_with fail
   refine hK.out _ _ ?_ (fun hHeld=>?_)
   ·try dsimp only
    first|exact⟨d0,d1⟩|exact⟨e0,e1⟩
   clear hK K;refine hP ?_;refine hT 9 ?_;refine hT 10 ?_;refine hT 11 ?_;refine hT 12 ?_;refine hT 13 ?_;refine hT 14 ?_;refine hT 15 ?_;refine wpAnyH_done (by kernel_rfl) ?_ _;have FD:=zaa (za FC V1 (za U1))
   go_wp2_with fail
   go_at_call 99
   refine(za FD).mono ?_;rintro e V2 ⟨rfl,z2,g2⟩;have FF:=zaa (za FE V1 V2 (za U1) z2 g2);clear z2 g2 FE FC FD
   go_wp2
   go_ret
   exact za FF
 ·have c2:=z.c2;have e1:¬ (e:Int)=0:=by omega
  have e2:((e:Int)==0)=false:=by simp[he]
  have FE:=zaa (show zep R w p c h (zcd h k e) (.returned (.int .i64 0)) w from by
   rw[zfg he]
   exact⟨rfl,z,zao (Below.refl _ _) _⟩)
  clear z he;generalize (e:Int)=ei at *;go_enter Tryz.func54,Tryz.ntmps54
  go_wp2
  go_ret
  exact za FE
end
end
end Go.Proofs.YtjcjleaicjhpeaaGreatDoor
