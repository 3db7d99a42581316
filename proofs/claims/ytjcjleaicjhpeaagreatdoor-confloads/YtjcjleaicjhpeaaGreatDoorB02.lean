/- Targets and routes in memory. -/
import Derived.Test.YtjcjleaicjhpeaaGreatDoorB01
import Derived.Laws.BitsAllLaws
import Derived.Laws.Bits128
import Derived.Laws.Pointers
import Derived.WalkMore
import Derived.ScopeJumps
import Derived.Recover
import Derived.Deep.RegionHeld3
set_option linter.unusedVariables false
set_option maxRecDepth 20000
set_option maxHeartbeats 16000000
namespace Go.Proofs.YtjcjleaicjhpeaaGreatDoor
section
open Go.ChangeShapes Go.WideShapes Go.ChangeAt Go.RowKit
theorem zda (m:Mode) (a:Addr) (b:Nat) (w:World):(store a (.float .f64 b) m).run Tryz.prog w=stored Tryz.prog w a (.float .f64 b) m:=run_store Tryz.prog w a _ m rfl
abbrev Tg:=ByteArray×Nat
structure TgsAt (w:World) (a:Option Addr) (l:List Tg):Prop where
 lt:∀ t∈l,t.2<18446744073709551616
 cell:∀ i (hi:i<l.length),∃ b off,a=some ⟨b,off,none⟩∧w.cell? ⟨b,off+i*2,none⟩=some (.string l[i].1)∧w.cell? ⟨b,off+i*2+1,none⟩=some (.float .f64 l[i].2)
theorem TgsAt.later {w w':World} {a:Option Addr} {l:List Tg} (h:TgsAt w a l) (hb:Below w.heap.size w w'):TgsAt w' a l :=
 ⟨h.lt,fun i hi=>by obtain⟨b,off,e,h1,h2⟩:=h.cell i hi;exact⟨b,off,e,cell_later hb h1,cell_later hb h2⟩⟩
structure Rt where
 h:ByteArray
 p:ByteArray
 l:ByteArray
def zdi (r:Rt):Value:=.agg #[.string r.h,.string r.p,.string r.l]
def rt0:Rt:=⟨⟨#[]⟩,⟨#[]⟩,⟨#[]⟩⟩
structure RtsAt (w:World) (a:Option Addr) (l:List Rt):Prop where
 sz:∀ r∈l,r.h.size≤maxLen∧r.p.size≤maxLen∧r.l.size≤maxLen
 cell:∀ i (hi:i<l.length),∃ b off,a=some ⟨b,off,none⟩∧w.cell? ⟨b,off+i*3,none⟩=some (.string l[i].h)∧w.cell? ⟨b,off+i*3+1,none⟩=some (.string l[i].p)∧w.cell? ⟨b,off+i*3+2,none⟩=some (.string l[i].l)
theorem RtsAt.later {w w':World} {a:Option Addr} {l:List Rt} (h:RtsAt w a l) (hb:Below w.heap.size w w'):RtsAt w' a l :=
 ⟨h.sz,fun i hi=>by obtain⟨b,off,e,h1,h2,h3⟩:=h.cell i hi;exact⟨b,off,e,cell_later hb h1,cell_later hb h2,cell_later hb h3⟩⟩
theorem zab {w:World} {j:Nat} {cs:Array Value} {T:TypeId} (h:w.heap[j]? = some (.cells cs T (0,0))) (f:Nat) (v:Value) (hv:cs[f]? = some v):w.cell? ⟨j,f,none⟩=some v:=by
 rw[cell_of_row _ _ _ _ _ _ h,hv]
theorem zak (w:World) (j k:Nat) (v:Value):w.grownBy (w.setCell ⟨j,k,none⟩ v) (some j) :=
 ⟨rfl,rfl,rfl,by simp[World.setCell],fun i _ hne=>heap_setCell_other w ⟨j,k,none⟩ i v (fun e=>hne (by rw[e]))⟩
theorem zps {w:World} {g:Nat} {a b c x y z:Value} {T:TypeId} (h:w.heap[g]? = some (.cells #[a,b,c] T (0,0))):(((w.setCell ⟨g,0,none⟩ x).setCell ⟨g,1,none⟩ y).setCell ⟨g,2,none⟩ z).heap[g]? = some (.cells #[x,y,z] T (0,0))∧w.grownBy (((w.setCell ⟨g,0,none⟩ x).setCell ⟨g,1,none⟩ y).setCell ⟨g,2,none⟩ z) (some g):=by
 have h1:=heap_setCell_same w g 0 #[a,b,c] T x h;have h2:=heap_setCell_same _ g 1 _ T y h1;have h3:=heap_setCell_same _ g 2 _ T z h2;exact⟨h3,((zak w g 0 x).trans (zak _ g 1 y)).trans (zak _ g 2 z)⟩
end
section
def zlk:Nat→Nat→List Nat
 |0,n=>[n]
 |f+1,n=>if n<128 then [n] else (n % 128+128)::zlk f (n / 128)
theorem zpl:∀ (n f g:Nat),n≤f→n≤g→zlk f n=zlk g n:=by
 intro n;induction n using Nat.strongRecOn with
 |ind n ih =>
  intro f g hf hg;by_cases h:n<128
  ·cases f <;> cases g <;> simp only[zlk,if_pos h]
  ·match f,g,hf,hg with
   |0,_,hf,_=>omega
   |_+1,0,_,hg=>omega
   |f+1,g+1,hf,hg =>
    simp only[zlk,if_neg h];rw[ih (n / 128) (by omega) f g (by omega) (by omega)]
def zal (n:Nat):List Nat:=zlk n n
theorem zcn {n:Nat} (h:n<128):zal n=[n]:=by
 unfold zal;cases n with
 |zero=>rfl
 |succ k=>simp only[zlk,if_pos h]
theorem zc8 {n:Nat} (h:¬ n<128):zal n=(n % 128+128)::zal (n / 128):=by
 unfold zal;cases n with
 |zero=>omega
 |succ k =>
  simp only[zlk,if_neg h];rw[zpl ((k+1) / 128) k ((k+1) / 128) (by omega) (Nat.le_refl _)]
theorem zcm (n:Nat):1≤(zal n).length∧(zal n).length≤n+1:=by
 induction n using Nat.strongRecOn with
 |ind n ih =>
  by_cases h:n<128
  ·rw[zcn h];simp
  ·rw[zc8 h];have:=ih (n / 128) (by omega);simp only[List.length_cons];omega
end
section
open Go.ChangeShapes Go.WideShapes Go.ChangeAt Go.RowKit
theorem zhb (n a b:Int) (w:World) (h:a≤n∧n≤b):Calls Tryz.prog 150 #[.int .i64 n,.int .i64 a,.int .i64 b] w fun e w'=>e=.returned (.bool true)∧w'=w:=by
 obtain⟨h1,h2⟩:=h;go_enter Tryz.func150,Tryz.ntmps150
 go_wp2
 go_ret
 exact⟨by simp,rfl⟩
theorem zf4 (n:Int) (h₀:0≤n) (h₁:n<2 ^ 63):IntKind.i64.wrap n=n:=by rw[IntKind.wrap_i64];omega
theorem zr8 (m:Nat):bits .or .i64 (bits .and .i64 (m:Int) 127) 128 % 256=((m % 128+128:Nat):Int):=by
 rw[i64_and127];have h0:(0:Int)≤(m:Int) % 128:=by omega
 have h1:(m:Int) % 128<128:=by omega
 generalize hy:(m:Int) % 128=y at *;have hc:bits .or .i64 y 128=bits .or .i64 128 y:=by simp only[bits,BitVec.or_comm]
 rw[hc,bits_join .i64 63 (by decide) zf4 7 128 y (by decide) (by decide) (by decide) h0 h1 (by omega)];omega
theorem zjg (base:Nat) (sp:Option Addr) (n0 c:Nat) (l:List Nat) (n:Nat) (w:World) (hn0:l.length=n0) (hown:OwnB base w sp c l) (hl:l.length≤1099511627776) (hn:n≤1099511627776) (hbase:base≤w.heap.size) :
  Calls Tryz.prog 151 #[.slice sp n0 c,.int .i64 (n:Int)] w fun e w'=>∃ sp' n' c',e=.returned (.slice sp' n' c')∧Hid ((l++zal n).length=n')∧OwnB base w' sp' c' (l++zal n)∧Grew w sp w' sp':=by
 have HO:=zaa hown;have HN:=zaa hn0;have HLen:=zaa (show(l++zal n).length≤2199023255553 by rw[List.length_append];have:=(zcm n).2;omega);clear hown hn0;go_enter Tryz.func151,Tryz.ntmps151
 go_wp2
 go_loopw [0,1] (fun v i wr=>∃ (sp':Option Addr) (n' c':Nat) (l':List Nat) (m:Nat),m≤1099511627776∧v=.slice sp' n' c'∧i=.int .i64 (m:Int)∧Hid (l'.length=n')∧Hid (OwnB base wr sp' c' l')∧Hid (l'++zal m=l++zal n)∧Hid (Grew w sp wr sp')) (fun _ i _=>(intOf i).toNat)
 case atStart=>exact⟨sp,n0,c,l,n,hn,rfl,rfl,za HN,za HO,rfl,Grew.refl _ _⟩
 case round =>
  obtain⟨sp',n',c',l',m,hm,rfl,rfl,hl',ho',heq,hbw⟩:=hrel
  have hlen':=zaa (show l'.length+1≤140737488355328 by
   have h1:=za HLen;rw[← za heq,List.length_append] at h1;have:=(zcm m).1
   omega)
  have hbr:base≤wr.heap.size:=Nat.le_trans hbase (za hbw).grown.size;by_cases h128:m<128
  ·have hlit:=zaa (zbx (l:=[m]) (zad wr (.cells #[.int .u8 (m:Int)] 5)) (by intro c hc;simp only[List.mem_cons,List.not_mem_nil,or_false] at hc;omega));have bA:=zaa (show Below wr.heap.size wr (wr.alloc (.cells #[.int .u8 (m:Int)] 5)) from(Below.refl _ _).alloc (Nat.le_refl _) _);have heq':=zaa (show l'++[m]=l++zal n by rw[← za heq,zcn h128]);have hm0:(m:Int)<128:=by omega
   go_wp2_with (at_builtin;refine zbm rfl (.tmp 16) (.tmp 19) rfl base sp' n' c' l' rfl (za hl') (by exact(za ho').later (za bA)) (some ⟨wr.heap.size,0,none⟩) 1 1 rfl [m] rfl (by exact za hlit) (fun h=>by cases h) (za hlen') (Nat.le_trans hbr (za bA).size) ?_;intro sp2 n2 c2 W2 hn2 ho2 hg2 hb2)
   rw[za heq'] at hn2 ho2;go_ret
   exact⟨sp2,n2,c2,rfl,hn2,ho2,(za hbw).trans (Grew.aside (za bA) ⟨hg2,hb2⟩)⟩
  ·have hlit:=zaa (zbx (l:=[m % 128+128]) (zad wr (.cells #[.int .u8 ((m % 128+128:Nat):Int)] 5)) (by intro c hc;simp only[List.mem_cons,List.not_mem_nil,or_false] at hc;omega));have bA:=zaa (show Below wr.heap.size wr (wr.alloc (.cells #[.int .u8 ((m % 128+128:Nat):Int)] 5)) from(Below.refl _ _).alloc (Nat.le_refl _) _);have heq':=zaa (show l'++[m % 128+128]++zal (m / 128)=l++zal n by rw[← za heq,zc8 h128,List.append_assoc];rfl);have hm0:¬ (m:Int)<128:=by omega
   have hlow:=zr8 m;generalize hq:m % 128+128=q at *
   go_wp2_with (at_builtin;refine zbm rfl (.tmp 7) (.tmp 12) rfl base sp' n' c' l' rfl (za hl') (by exact(za ho').later (za bA)) (some ⟨wr.heap.size,0,none⟩) 1 1 rfl [q] rfl (by exact za hlit) (fun h=>by cases h) (za hlen') (Nat.le_trans hbr (za bA).size) ?_;intro sp2 n2 c2 W2 hn2 ho2 hg2 hb2)
   have hbn:=(za hbw).trans (Grew.aside (za bA) ⟨hg2,hb2⟩);exact⟨⟨sp2,n2,c2,l'++[q],m / 128,by omega,rfl,by go_num,hn2,ho2,za heq',hbn⟩,by simp[intOf];omega⟩
theorem zh0 (base:Nat) (sp:Option Addr) (n0 c:Nat) (l:List Nat) (n:Nat) (w:World) (hn0:l.length=n0) (hown:OwnB base w sp c l) (hl:l.length≤1099511627776) (hn:n≤1099511627776) (hbase:base≤w.heap.size) :
  Calls Tryz.prog 151 #[.slice sp n0 c,.int .i64 (n:Int)] w fun e w'=>∃ sp' n' c',e=.returned (.slice sp' n' c')∧Hid ((l++zal n).length=n')∧OwnB base w' sp' c' (l++zal n)∧Below base w w':=by
 refine(zjg base sp n0 c l n w hn0 hown hl hn hbase).mono ?_;rintro e w' ⟨sp',n',c',he,h1,h2,h3⟩;exact⟨sp',n',c',he,h1,h2,h3.below hown hbase⟩
abbrev given (e:Nat):List PanicEntry:=[{ v:=.iface 233 (.agg #[.int .i64 (e:Int)]),recovered:=false }]
theorem za4 (e:Nat) (w:World):Calls Tryz.prog 200 #[.int .i64 (e:Int)] w fun en w'=>en=.panicked (given e)∧w'=w:=by
 go_enter Tryz.func200,Tryz.ntmps200
 go_wp2
 exact⟨rfl,rfl,rfl⟩
structure RdAt (R:Nat) (w:World) (a:Option Addr) (c:Nat) (l:List Nat) (k:Nat):Prop where
 blk:w.heap[R]? = some (.cells #[.slice a l.length c,.int .i64 (k:Int)] 198 (0,0))
 bytes:BytesAt w a l
 low:∀ b off,0<l.length→a=some ⟨b,off,none⟩→b≠R
 le:k≤l.length
theorem RdAt.c0 {R:Nat} {w:World} {a:Option Addr} {c:Nat} {l:List Nat} {k:Nat} (h:RdAt R w a c l k):w.cell? ⟨R,0,none⟩=some (.slice a l.length c):=by
 rw[cell_of_row w R 0 _ _ _ h.blk];rfl
theorem RdAt.c1 {R:Nat} {w:World} {a:Option Addr} {c:Nat} {l:List Nat} {k:Nat} (h:RdAt R w a c l k):w.cell? ⟨R,1,none⟩=some (.int .i64 (k:Int)):=by
 rw[cell_of_row w R 1 _ _ _ h.blk];rfl
theorem RdAt.f1 {R:Nat} {w:World} {a:Option Addr} {c:Nat} {l:List Nat} {k:Nat} (h:RdAt R w a c l k):w.frozen? ⟨R,1,none⟩=false:=by
 simp[World.frozen?,h.blk]
theorem RdAt.moved {R:Nat} {w:World} {a:Option Addr} {c:Nat} {l:List Nat} {k:Nat} (h:RdAt R w a c l k) (k':Nat) (hk:k'≤l.length):RdAt R (w.setCell ⟨R,1,none⟩ (.int .i64 (k':Int))) a c l k':=by
 have hg:=zax w R 1 (.int .i64 (k':Int));refine⟨?_,?_,h.low,hk⟩
 ·have:=heap_setCell_same w R 1 _ 198 (.int .i64 (k':Int)) h.blk
  simpa using this
 ·refine⟨h.bytes.lt,fun i hi=>?_⟩;obtain⟨b,off,h1,h2⟩:=h.bytes.cell i hi;refine⟨b,off,h1,?_⟩;rw[hg.cell_far ⟨b,off+i,none⟩ (World.block_lt_of_cell? _ _ h2) (by simpa using h.low b off (by omega) h1)];exact h2
theorem RdAt.drewN {R:Nat} {w:World} {a:Option Addr} {c:Nat} {l:List Nat} {k:Nat} (h:RdAt R w a c l k) (n:Nat):RdAt R (w.drewN n) a c l k:=⟨h.blk,⟨h.bytes.lt,h.bytes.cell⟩,h.low,h.le⟩
theorem zie (w:World) (n:Nat) (row:Option Nat):w.grownBy (w.drewN n) row:=⟨rfl,rfl,rfl,Nat.le_refl _,fun _ _ _=>rfl⟩
theorem zq2 (R:Nat) (a:Option Addr) (c:Nat) (l:List Nat) (k:Nat) (w:World) (h:RdAt R w a c l k) (hk:k=l.length) :
  Calls Tryz.prog 199 #[.pointer (some ⟨R,0,none⟩)] w fun e w'=>e=.panicked (given 3)∧RdAt R w' a c l k∧w.grownBy w' (some R):=by
 have c0:=h.c0;have c1:=h.c1;subst hk;have H:=zaa h;clear h;go_enter Tryz.func199,Tryz.ntmps199
 go_wp2_with fail
 go_quiet (fail)
 go_wp2_with fail
 refine(za4 3 _).mono ?_;rintro e w' ⟨rfl,rfl⟩
 go_wp2
 exact⟨rfl,rfl,(za H).drewN _,zie _ _ _⟩
theorem zup (R:Nat) (a:Option Addr) (c:Nat) (l:List Nat) (k:Nat) (w:World) (h:RdAt R w a c l k) (hk:k<l.length) (hl:l.length≤maxLen) :
  Calls Tryz.prog 199 #[.pointer (some ⟨R,0,none⟩)] w fun e w'=>e=.returned (.int .u8 ((l.getD k 0:Nat):Int))∧RdAt R w' a c l (k+1)∧w.grownBy w' (some R):=by
 have c0:=h.c0;have c1:=h.c1;have f1:=h.f1;obtain⟨b,off,rfl,hc⟩:=h.bytes.cell k hk;have H:=zaa h;have H1:=zaa hk;unfold maxLen at hl;clear h;generalize l.getD k 0=x at *;have hne:¬ k=l.length:=by omega
 go_enter Tryz.func199,Tryz.ntmps199
 go_wp2_with fail
 go_quiet (fail)
 go_wp2_with fail
 go_quiet (fail)
 go_wp2
 go_ret
 exact⟨rfl,((za H).drewN _).moved (k+1) (za H1),zaf (zie _ _ _) (zax _ _ _ _)⟩
end
section
def zd1 (l:List Nat):Nat→Nat→Nat→Nat→Nat×Nat×Nat
 |0,_,_,k=>(6,0,k)
 |f+1,s,n,k =>
  if l.length≤k then (3,0,k)
  else if 128≤l.getD k 0 then (if f=0 then (6,0,k+1) else zd1 l f (s+1) (n+l.getD k 0 % 128*128 ^ s) (k+1))
  else if l.getD k 0=0∧0<s then (4,0,k+1)
  else if 1099511627776<n+l.getD k 0*128 ^ s then (6,0,k+1)
  else (0,n+l.getD k 0*128 ^ s,k+1)
def zck (l:List Nat) (k:Nat):Nat×Nat×Nat:=zd1 l 6 0 0 k
theorem zn3 {l:List Nat} {k:Nat} (f s m:Nat) (hk:¬ k<l.length):zd1 l (f+1) s m k=(3,0,k):=by
 rw[zd1,if_pos (by omega)]
theorem zbv {l:List Nat} {k x:Nat} (f s m:Nat) (hx:l.getD k 0=x) (hk:k<l.length) (h:128≤x) (hf:f≠0):zd1 l (f+1) s m k=zd1 l f (s+1) (m+x % 128*128 ^ s) (k+1):=by
 rw[zd1,if_neg (by omega),hx,if_pos h,if_neg hf]
theorem zj1 {l:List Nat} {k x:Nat} (s m:Nat) (hx:l.getD k 0=x) (hk:k<l.length) (h:128≤x):zd1 l (0+1) s m k=(6,0,k+1):=by
 rw[zd1,if_neg (by omega),hx,if_pos h,if_pos rfl]
theorem zbu {l:List Nat} {k x:Nat} (f s m:Nat) (hx:l.getD k 0=x) (hk:k<l.length) (h:x=0) (hs:0<s):zd1 l (f+1) s m k=(4,0,k+1):=by
 rw[zd1,if_neg (by omega),hx,if_neg (by omega),if_pos ⟨h,hs⟩]
theorem zdj {l:List Nat} {k x:Nat} (f s m:Nat) (hx:l.getD k 0=x) (hk:k<l.length) (h:¬ 128≤x) (h0:¬ (x=0∧0<s)) (hb:1099511627776<m+x*128 ^ s):zd1 l (f+1) s m k=(6,0,k+1):=by
 rw[zd1,if_neg (by omega),hx,if_neg h,if_neg h0,if_pos hb]
theorem zb8 {l:List Nat} {k x:Nat} (f s m:Nat) (hx:l.getD k 0=x) (hk:k<l.length) (h:¬ 128≤x) (h0:¬ (x=0∧0<s)) (hb:¬ 1099511627776<m+x*128 ^ s):zd1 l (f+1) s m k=(0,m+x*128 ^ s,k+1):=by
 rw[zd1,if_neg (by omega),hx,if_neg h,if_neg h0,if_neg hb]
def zcz (l:List Nat) (k:Nat):Except Nat (Nat×Nat):=if (zck l k).1=0 then .ok ((zck l k).2.1,(zck l k).2.2) else .error (zck l k).1
theorem zfa {l:List Nat} {k x:Nat} (h:zcz l k=.error x):x≠0:=by
 unfold zcz at h;split at h
 ·cases h
 ·cases h;assumption
end
section
open Go.ChangeShapes Go.WideShapes Go.ChangeAt Go.RowKit
theorem zks {P:Program} {Q:Exit→Act→World→Prop} {a:Act} {w:World} {x R:Code} (l:Nat) (J:Act→World→Prop) (μ:Act→World→Nat) (hx:findLabel x l=none)
  (first:∀ K:Exit→Act→World→Prop,(∀ a w,J a w→K .normal a w)→x.wp P K a w)
  (pass:∀ a w,J a w→R.wp P (Exit.jump l (fun a' w'=>J a' w'∧μ a' w'<μ a w) Q) a w):(Code.scope (x.seq ((Code.label l).seq R))).wp P Q a w:=by
 refine wp_scope_jumps (rest:=Code.seq .skip R) l J μ (by simp[findLabel,hx]) ?_ ?_
 ·refine wp_seq (first _ fun a w hJ=>?_);refine wp_seq (wp_label ?_);refine wp_mono (pass a w hJ) ?_;intro e a w h;cases e <;> first|exact h|exact⟨h.1,h.2.1⟩
 ·intro a w hJ;refine wp_seq (wp_skip ?_);exact pass a w hJ
theorem zp7 (x:Nat) (hx:x<256):bits .and .u8 (x:Int) 127=((x % 128:Nat):Int):=by
 have:=u8_and_nat x 127 hx (by decide);rw[show(127:Int)=((127:Nat):Int) from rfl,this,show(127:Nat)=2 ^ 7 - 1 from rfl,Nat.and_two_pow_sub_one_eq_mod]
theorem ztp (m y s:Nat) (hs:s≤5) (hm:m<128 ^ s) (hy:y<128):bits .or .i64 (m:Int) ((y*128 ^ s:Nat):Int)=((m+y*128 ^ s:Nat):Int):=by
 have hc:bits .or .i64 (m:Int) ((y*128 ^ s:Nat):Int)=bits .or .i64 ((y*128 ^ s:Nat):Int) (m:Int):=by simp only[bits,BitVec.or_comm]
 rw[hc];rcases(by omega:s=0∨s=1∨s=2∨s=3∨s=4∨s=5) with rfl|rfl|rfl|rfl|rfl|rfl <;> simp only[Nat.reducePow] at hm ⊢
 ·rw[bits_join .i64 63 (by decide) zf4 0 _ _ (by omega) (by omega) (by omega) (by omega) (by omega) (by omega)];omega
 ·rw[bits_join .i64 63 (by decide) zf4 7 _ _ (by omega) (by omega) (by omega) (by omega) (by omega) (by omega)];omega
 ·rw[bits_join .i64 63 (by decide) zf4 14 _ _ (by omega) (by omega) (by omega) (by omega) (by omega) (by omega)];omega
 ·rw[bits_join .i64 63 (by decide) zf4 21 _ _ (by omega) (by omega) (by omega) (by omega) (by omega) (by omega)];omega
 ·rw[bits_join .i64 63 (by decide) zf4 28 _ _ (by omega) (by omega) (by omega) (by omega) (by omega) (by omega)];omega
 ·rw[bits_join .i64 63 (by decide) zf4 35 _ _ (by omega) (by omega) (by omega) (by omega) (by omega) (by omega)];omega
def NumJ (R:Nat) (a:Option Addr) (c:Nat) (l:List Nat) (k:Nat) (w:World) (a':Act) (wr:World):Prop :=
 ∃ (m s k':Nat) (u5 u6 u7 u8 u9 u10 u11 u12 u13 u14 u15 u16 u17 u18 u19 u20 u21:Value),a' = { tmps:=#[.pointer (some ⟨R,0,none⟩),undef,.int .i64 0,.int .i64 (m:Int),.int .i64 (s:Int),u5,u6,u7,u8,u9,u10,u11,u12,u13,u14,u15,u16,u17,u18,u19,u20,u21,undef,undef,undef,undef,undef,undef,undef,undef,undef,undef,undef,undef],defers:=[] }∧s≤5∧m<128 ^ s∧Hid (zd1 l (6 - s) s m k'=zck l k)∧Hid (RdAt R wr a c l k')∧Hid (w.grownBy wr (some R))
def zt1 (a':Act) (_:World):Nat:=6 - (intOf (a'.tmps.getD 4 undef)).toNat
theorem zhg (R:Nat) (a:Option Addr) (c:Nat) (l:List Nat) (k:Nat) (w:World) (h:RdAt R w a c l k) (hl:l.length≤maxLen) :
  Calls Tryz.prog 156 #[.pointer (some ⟨R,0,none⟩)] w fun e w'=>w.grownBy w' (some R) ∧
   ((zck l k).1=0∧e=.returned (.int .i64 ((zck l k).2.1:Int))∧RdAt R w' a c l (zck l k).2.2 ∨
    (zck l k).1≠0∧e=.panicked (given (zck l k).1)∧∃ k',RdAt R w' a c l k'):=by
 have H:=zaa h;have HL:=zaa hl;clear h hl;go_enter Tryz.func156,Tryz.ntmps156
 go_wp2
 refine zks 0 (NumJ R a c l k w) zt1 rfl ?_ ?_
 ·intro K hK
  go_wp2
  exact⟨0,0,k,_,_,_,_,_,_,_,_,_,_,_,_,_,_,_,_,_,rfl,by omega,by decide,rfl,za H,zbk _ _⟩
 ·rintro a' wr ⟨m,s,k',u5,u6,u7,u8,u9,u10,u11,u12,u13,u14,u15,u16,u17,u18,u19,u20,u21,rfl,hs,hm,heq,hr,hg⟩;by_cases hk:k'<l.length
  ·have hx:=zm1 (za hr).bytes.lt k'
   go_wp2_with fail
   refine(zup R a c l k' wr (za hr) hk (za HL)).mono ?_;rintro e w1 ⟨rfl,hr1,hg1⟩;have Hr1:=zaa hr1;have Hg1:=zaa (zaf (za hg) hg1);generalize hxx:l.getD k' 0=x at *;have HX:=zaa hxx;have hA:=zp7 x hx;have hO:=ztp m (x % 128) s hs hm (Nat.mod_lt _ (by decide));have hy:x % 128<128:=Nat.mod_lt _ (by decide);generalize hyy:x % 128=y at *;have HY:=zaa hyy;clear hr1 hg1 hr hg hxx H hyy;rcases(by omega:s=0∨s=1∨s=2∨s=3∨s=4∨s=5) with rfl|rfl|rfl|rfl|rfl|rfl
   ·obtain⟨n,hn⟩:∃ n,n=m+y*128 ^ 0:=⟨_,rfl⟩
    have e:((y*128 ^ 0:Nat):Int)=(y:Int):=by simp only[Nat.reducePow];omega
    rw[e,← hn] at hO;have hlt:=zaa (show n<128 ^ 1 by rw[hn];simp only[Nat.reducePow] at hm ⊢;omega);have HN:=zaa hn;clear e hn hm hs;by_cases h128:128≤x
    ·have ht:=zaa ((zbv 5 0 m (za HX) hk h128 (by decide)).symm.trans (za heq))
     go_wp2_with fail
     go_step3
     refine⟨rfl,⟨n,1,k'+1,_,_,_,_,_,_,_,_,_,_,_,_,_,_,_,_,_,rfl,by omega,za hlt,?_,za Hr1,za Hg1⟩,by simp[zt1,intOf]⟩;rw[za HN,← za HY];exact za ht
    ·have hyx:y=x:=by have:=za HY;omega
     subst hyx;by_cases hb:1099511627776<n
     ·have ht:=zaa ((zdj 5 0 m (za HX) hk h128 (fun h=>absurd h.2 (by decide)) (by rw[← za HN];exact hb)).symm.trans (za heq))
      go_wp2_with fail
      all_goals (have:=za hlt;omega)
     ·have ht:=zaa ((zb8 5 0 m (za HX) hk h128 (fun h=>absurd h.2 (by decide)) (by rw[← za HN];exact hb)).symm.trans (za heq));rw[← za HN] at ht
      go_wp2_with fail
      all_goals (simp only[Exit.jump];go_ret;exact⟨za Hg1,.inl ⟨by rw[← za ht],by first|(rw[← za ht];done)|(rw[← za ht];rfl),by rw[← za ht];exact za Hr1⟩⟩)
   ·obtain⟨n,hn⟩:∃ n,n=m+y*128 ^ 1:=⟨_,rfl⟩
    have e:((y*128 ^ 1:Nat):Int)=((y:Int)*128):=by simp only[Nat.reducePow];omega
    rw[e,← hn] at hO;have hlt:=zaa (show n<128 ^ 2 by rw[hn];simp only[Nat.reducePow] at hm ⊢;omega);have HN:=zaa hn;clear e hn hm hs;by_cases h128:128≤x
    ·have ht:=zaa ((zbv 4 1 m (za HX) hk h128 (by decide)).symm.trans (za heq))
     go_wp2_with fail
     go_step3
     refine⟨rfl,⟨n,2,k'+1,_,_,_,_,_,_,_,_,_,_,_,_,_,_,_,_,_,rfl,by omega,za hlt,?_,za Hr1,za Hg1⟩,by simp[zt1,intOf]⟩;rw[za HN,← za HY];exact za ht
    ·have hyx:y=x:=by have:=za HY;omega
     subst hyx;by_cases h0:y=0
     ·have ht:=zaa ((zbu 4 1 m (za HX) hk h0 (by decide)).symm.trans (za heq))
      go_wp2_with fail
      refine(za4 4 _).mono ?_;rintro e w2 ⟨rfl,rfl⟩
      go_wp2
      simp only[Exit.jump];refine⟨rfl,za Hg1,.inr ⟨by rw[← za ht];simp,by first|(rw[← za ht];done)|(rw[← za ht];rfl),k'+1,za Hr1⟩⟩
     ·by_cases hb:1099511627776<n
      ·have ht:=zaa ((zdj 4 1 m (za HX) hk h128 (fun h=>h0 h.1) (by rw[← za HN];exact hb)).symm.trans (za heq))
       go_wp2_with fail
       refine(za4 6 _).mono ?_;rintro e w2 ⟨rfl,rfl⟩
       go_wp2
       simp only[Exit.jump];refine⟨rfl,za Hg1,.inr ⟨by rw[← za ht];simp,by first|(rw[← za ht];done)|(rw[← za ht];rfl),k'+1,za Hr1⟩⟩
      ·have ht:=zaa ((zb8 4 1 m (za HX) hk h128 (fun h=>h0 h.1) (by rw[← za HN];exact hb)).symm.trans (za heq));rw[← za HN] at ht
       go_wp2_with fail
       simp only[Exit.jump];go_ret
       refine⟨za Hg1,.inl ⟨by rw[← za ht],by first|(rw[← za ht];done)|(rw[← za ht];rfl),by rw[← za ht];exact za Hr1⟩⟩
   ·obtain⟨n,hn⟩:∃ n,n=m+y*128 ^ 2:=⟨_,rfl⟩
    have e:((y*128 ^ 2:Nat):Int)=((y:Int)*16384):=by simp only[Nat.reducePow];omega
    rw[e,← hn] at hO;have hlt:=zaa (show n<128 ^ 3 by rw[hn];simp only[Nat.reducePow] at hm ⊢;omega);have HN:=zaa hn;clear e hn hm hs;by_cases h128:128≤x
    ·have ht:=zaa ((zbv 3 2 m (za HX) hk h128 (by decide)).symm.trans (za heq))
     go_wp2_with fail
     go_step3
     refine⟨rfl,⟨n,3,k'+1,_,_,_,_,_,_,_,_,_,_,_,_,_,_,_,_,_,rfl,by omega,za hlt,?_,za Hr1,za Hg1⟩,by simp[zt1,intOf]⟩;rw[za HN,← za HY];exact za ht
    ·have hyx:y=x:=by have:=za HY;omega
     subst hyx;by_cases h0:y=0
     ·have ht:=zaa ((zbu 3 2 m (za HX) hk h0 (by decide)).symm.trans (za heq))
      go_wp2_with fail
      refine(za4 4 _).mono ?_;rintro e w2 ⟨rfl,rfl⟩
      go_wp2
      simp only[Exit.jump];refine⟨rfl,za Hg1,.inr ⟨by rw[← za ht];simp,by first|(rw[← za ht];done)|(rw[← za ht];rfl),k'+1,za Hr1⟩⟩
     ·by_cases hb:1099511627776<n
      ·have ht:=zaa ((zdj 3 2 m (za HX) hk h128 (fun h=>h0 h.1) (by rw[← za HN];exact hb)).symm.trans (za heq))
       go_wp2_with fail
       refine(za4 6 _).mono ?_;rintro e w2 ⟨rfl,rfl⟩
       go_wp2
       simp only[Exit.jump];refine⟨rfl,za Hg1,.inr ⟨by rw[← za ht];simp,by first|(rw[← za ht];done)|(rw[← za ht];rfl),k'+1,za Hr1⟩⟩
      ·have ht:=zaa ((zb8 3 2 m (za HX) hk h128 (fun h=>h0 h.1) (by rw[← za HN];exact hb)).symm.trans (za heq));rw[← za HN] at ht
       go_wp2_with fail
       simp only[Exit.jump];go_ret
       refine⟨za Hg1,.inl ⟨by rw[← za ht],by first|(rw[← za ht];done)|(rw[← za ht];rfl),by rw[← za ht];exact za Hr1⟩⟩
   ·obtain⟨n,hn⟩:∃ n,n=m+y*128 ^ 3:=⟨_,rfl⟩
    have e:((y*128 ^ 3:Nat):Int)=((y:Int)*2097152):=by simp only[Nat.reducePow];omega
    rw[e,← hn] at hO;have hlt:=zaa (show n<128 ^ 4 by rw[hn];simp only[Nat.reducePow] at hm ⊢;omega);have HN:=zaa hn;clear e hn hm hs;by_cases h128:128≤x
    ·have ht:=zaa ((zbv 2 3 m (za HX) hk h128 (by decide)).symm.trans (za heq))
     go_wp2_with fail
     go_step3
     refine⟨rfl,⟨n,4,k'+1,_,_,_,_,_,_,_,_,_,_,_,_,_,_,_,_,_,rfl,by omega,za hlt,?_,za Hr1,za Hg1⟩,by simp[zt1,intOf]⟩;rw[za HN,← za HY];exact za ht
    ·have hyx:y=x:=by have:=za HY;omega
     subst hyx;by_cases h0:y=0
     ·have ht:=zaa ((zbu 2 3 m (za HX) hk h0 (by decide)).symm.trans (za heq))
      go_wp2_with fail
      refine(za4 4 _).mono ?_;rintro e w2 ⟨rfl,rfl⟩
      go_wp2
      simp only[Exit.jump];refine⟨rfl,za Hg1,.inr ⟨by rw[← za ht];simp,by first|(rw[← za ht];done)|(rw[← za ht];rfl),k'+1,za Hr1⟩⟩
     ·by_cases hb:1099511627776<n
      ·have ht:=zaa ((zdj 2 3 m (za HX) hk h128 (fun h=>h0 h.1) (by rw[← za HN];exact hb)).symm.trans (za heq))
       go_wp2_with fail
       refine(za4 6 _).mono ?_;rintro e w2 ⟨rfl,rfl⟩
       go_wp2
       simp only[Exit.jump];refine⟨rfl,za Hg1,.inr ⟨by rw[← za ht];simp,by first|(rw[← za ht];done)|(rw[← za ht];rfl),k'+1,za Hr1⟩⟩
      ·have ht:=zaa ((zb8 2 3 m (za HX) hk h128 (fun h=>h0 h.1) (by rw[← za HN];exact hb)).symm.trans (za heq));rw[← za HN] at ht
       go_wp2_with fail
       simp only[Exit.jump];go_ret
       refine⟨za Hg1,.inl ⟨by rw[← za ht],by first|(rw[← za ht];done)|(rw[← za ht];rfl),by rw[← za ht];exact za Hr1⟩⟩
   ·obtain⟨n,hn⟩:∃ n,n=m+y*128 ^ 4:=⟨_,rfl⟩
    have e:((y*128 ^ 4:Nat):Int)=((y:Int)*268435456):=by simp only[Nat.reducePow];omega
    rw[e,← hn] at hO;have hlt:=zaa (show n<128 ^ 5 by rw[hn];simp only[Nat.reducePow] at hm ⊢;omega);have HN:=zaa hn;clear e hn hm hs;by_cases h128:128≤x
    ·have ht:=zaa ((zbv 1 4 m (za HX) hk h128 (by decide)).symm.trans (za heq))
     go_wp2_with fail
     go_step3
     refine⟨rfl,⟨n,5,k'+1,_,_,_,_,_,_,_,_,_,_,_,_,_,_,_,_,_,rfl,by omega,za hlt,?_,za Hr1,za Hg1⟩,by simp[zt1,intOf]⟩;rw[za HN,← za HY];exact za ht
    ·have hyx:y=x:=by have:=za HY;omega
     subst hyx;by_cases h0:y=0
     ·have ht:=zaa ((zbu 1 4 m (za HX) hk h0 (by decide)).symm.trans (za heq))
      go_wp2_with fail
      refine(za4 4 _).mono ?_;rintro e w2 ⟨rfl,rfl⟩
      go_wp2
      simp only[Exit.jump];refine⟨rfl,za Hg1,.inr ⟨by rw[← za ht];simp,by first|(rw[← za ht];done)|(rw[← za ht];rfl),k'+1,za Hr1⟩⟩
     ·by_cases hb:1099511627776<n
      ·have ht:=zaa ((zdj 1 4 m (za HX) hk h128 (fun h=>h0 h.1) (by rw[← za HN];exact hb)).symm.trans (za heq))
       go_wp2_with fail
       refine(za4 6 _).mono ?_;rintro e w2 ⟨rfl,rfl⟩
       go_wp2
       simp only[Exit.jump];refine⟨rfl,za Hg1,.inr ⟨by rw[← za ht];simp,by first|(rw[← za ht];done)|(rw[← za ht];rfl),k'+1,za Hr1⟩⟩
      ·have ht:=zaa ((zb8 1 4 m (za HX) hk h128 (fun h=>h0 h.1) (by rw[← za HN];exact hb)).symm.trans (za heq));rw[← za HN] at ht
       go_wp2_with fail
       simp only[Exit.jump];go_ret
       refine⟨za Hg1,.inl ⟨by rw[← za ht],by first|(rw[← za ht];done)|(rw[← za ht];rfl),by rw[← za ht];exact za Hr1⟩⟩
   ·obtain⟨n,hn⟩:∃ n,n=m+y*128 ^ 5:=⟨_,rfl⟩
    have e:((y*128 ^ 5:Nat):Int)=((y:Int)*34359738368):=by simp only[Nat.reducePow];omega
    rw[e,← hn] at hO;have hlt:=zaa (show n<128 ^ 6 by rw[hn];simp only[Nat.reducePow] at hm ⊢;omega);have HN:=zaa hn;clear e hn hm hs;by_cases h128:128≤x
    ·have ht:=zaa ((zj1 5 m (za HX) hk h128).symm.trans (za heq))
     go_wp2_with fail
     refine(za4 6 _).mono ?_;rintro e w2 ⟨rfl,rfl⟩
     go_wp2
     simp only[Exit.jump];refine⟨rfl,za Hg1,.inr ⟨by rw[← za ht];simp,by first|(rw[← za ht];done)|(rw[← za ht];rfl),k'+1,za Hr1⟩⟩
    ·have hyx:y=x:=by have:=za HY;omega
     subst hyx;by_cases h0:y=0
     ·have ht:=zaa ((zbu 0 5 m (za HX) hk h0 (by decide)).symm.trans (za heq))
      go_wp2_with fail
      refine(za4 4 _).mono ?_;rintro e w2 ⟨rfl,rfl⟩
      go_wp2
      simp only[Exit.jump];refine⟨rfl,za Hg1,.inr ⟨by rw[← za ht];simp,by first|(rw[← za ht];done)|(rw[← za ht];rfl),k'+1,za Hr1⟩⟩
     ·by_cases hb:1099511627776<n
      ·have ht:=zaa ((zdj 0 5 m (za HX) hk h128 (fun h=>h0 h.1) (by rw[← za HN];exact hb)).symm.trans (za heq))
       go_wp2_with fail
       refine(za4 6 _).mono ?_;rintro e w2 ⟨rfl,rfl⟩
       go_wp2
       simp only[Exit.jump];refine⟨rfl,za Hg1,.inr ⟨by rw[← za ht];simp,by first|(rw[← za ht];done)|(rw[← za ht];rfl),k'+1,za Hr1⟩⟩
      ·have ht:=zaa ((zb8 0 5 m (za HX) hk h128 (fun h=>h0 h.1) (by rw[← za HN];exact hb)).symm.trans (za heq));rw[← za HN] at ht
       go_wp2_with fail
       simp only[Exit.jump];go_ret
       refine⟨za Hg1,.inl ⟨by rw[← za ht],by first|(rw[← za ht];done)|(rw[← za ht];rfl),by rw[← za ht];exact za Hr1⟩⟩
  ·go_wp2_with fail
   have hkl:k'=l.length:=Nat.le_antisymm (za hr).le (by omega);refine(zq2 R a c l k' wr (za hr) hkl).mono ?_;rintro e w1 ⟨rfl,hr1,hg1⟩
   go_wp2
   have ht:(zck l k).1=3:=by
    rw[← za heq];obtain⟨f,hf⟩:∃ f,6 - s=f+1:=⟨5 - s,by omega⟩
    rw[hf,zd1,if_pos (by omega)]
   simp only[Exit.jump];refine⟨rfl,zaf (za hg) hg1,.inr ⟨by omega,by rw[ht],k',hr1⟩⟩
theorem zq1 (R:Nat) (a:Option Addr) (c:Nat) (l:List Nat) (k n k2:Nat) (w:World) (h:RdAt R w a c l k) (hl:l.length≤maxLen) (ht:zck l k=(0,n,k2)) :
  Calls Tryz.prog 156 #[.pointer (some ⟨R,0,none⟩)] w fun e w'=>e=.returned (.int .i64 (n:Int))∧RdAt R w' a c l k2∧w.grownBy w' (some R):=by
 refine(zhg R a c l k w h hl).mono ?_;rw[ht];rintro e w' ⟨hg,⟨_,rfl,hr⟩|⟨h0,_⟩⟩
 ·exact⟨rfl,hr,hg⟩
 ·exact absurd rfl h0
theorem zpn (R:Nat) (a:Option Addr) (c:Nat) (l:List Nat) (k x:Nat) (w:World) (h:RdAt R w a c l k) (hl:l.length≤maxLen) (ht:(zck l k).1=x) (hx:x≠0) :
  Calls Tryz.prog 156 #[.pointer (some ⟨R,0,none⟩)] w fun e w'=>e=.panicked (given x)∧(∃ k',RdAt R w' a c l k')∧w.grownBy w' (some R):=by
 refine(zhg R a c l k w h hl).mono ?_;rw[ht];rintro e w' ⟨hg,⟨h0,_⟩|⟨_,rfl,hr⟩⟩
 ·exact absurd h0 hx
 ·exact⟨rfl,hr,hg⟩
theorem zhp (v:Value) (w:World):(Instr.typeAssert (.iface 233 v) 20 233 true).run Tryz.prog w=.ok (.tuple #[v,.bool true]) w:=by
 simp[Instr.typeAssert,go_sem]
theorem zmp (B k:Nat) (w:World) (hb:w.heap[B]? = some (.cells #[.int .i64 0] 35 (0,0))) :
  CallsD Tryz.prog 198 #[.pointer (some ⟨B,0,none⟩)] (.panicking (given k)) w fun e u' w' =>
   e=.returned (.tuple #[])∧u'=.panicking [{ v:=.iface 233 (.agg #[.int .i64 (k:Int)]),recovered:=true }]∧w'=(w.alloc (.cells #[.int .i64 (k:Int)] 233)).setCell ⟨B,0,none⟩ (.int .i64 (k:Int)):=by
 have hlt:=(Array.getElem?_eq_some_iff.1 hb).1;have hb':(w.alloc (.cells #[.int .i64 (k:Int)] 233)).heap[B]? = some (.cells #[.int .i64 0] 35 (0,0)):=(Below.heap_alloc w _ B hlt).trans hb;have hc:(w.alloc (.cells #[.int .i64 (k:Int)] 233)).cell? ⟨B,0,none⟩=some (.int .i64 0):=by rw[cell_of_row _ B 0 _ _ _ hb'];rfl
 have hz:(w.alloc (.cells #[.int .i64 (k:Int)] 233)).frozen? ⟨B,0,none⟩=false:=by simp[World.frozen?,hb']
 clear hb hb' hlt;refine callsD_of_wpS Tryz.func198 rfl fun c₀ cs hu=>?_;apply wpS_seq
 apply wpS_region
 simp[wpOpsS,go_sem,recoverD,hu,Tryz.ntmps198,Exit.thenS];simp only[Array.replicate,List.replicate];have ha:=zhp;apply wpS_of_wp
 go_wp2
 simp[bodyPostS,results,Tryz.results198]
theorem zo1 (B:Nat) (w:World) :
  CallsD Tryz.prog 198 #[.pointer (some ⟨B,0,none⟩)] .returning w fun e u' w'=>e=.returned (.tuple #[])∧u'=.returning∧w'=w:=by
 refine callsD_of_wpS Tryz.func198 rfl fun c₀ cs hu=>?_;apply wpS_seq
 apply wpS_region
 simp[wpOpsS,go_sem,recoverD,hu,Tryz.ntmps198,Exit.thenS];apply wpS_of_wp
 go_wp2
 cases c₀
 simp_all [bodyPostS,results,Tryz.results198]
theorem zhd (K:Nat) (caps:Array Value) (w:World) (hK:∀ (c:Array Value) (w:World),(callFunc K c).run Tryz.prog w=.ok (.enter K c) w) (S:Ending→World→Prop) (hS:Calls Tryz.prog K caps (w.alloc (.cells #[.int .i64 0] 35)) S)
  (hb:∀ e w',S e w'→w'.heap[w.heap.size]? = some (.cells #[.int .i64 0] 35 (0,0))) (he:∀ e w',S e w'→e=.returned (.tuple #[])∨∃ k:Nat,e=.panicked (given k)) :
  Calls Tryz.prog 154 #[.func (.func K) #[] caps] w fun e w'=>∃ e1 w1,S e1 w1∧w1.grownBy w' (some w.heap.size)∧(e1=.returned (.tuple #[])∧e=.returned (.int .i64 0)∨∃ k:Nat,e1=.panicked (given k)∧e=.returned (.int .i64 (k:Int))):=by
 have hmf:∀ (fn:Fn) (first cap:Array Value) (w:World),(Instr.makeFunc fn first cap).run Tryz.prog w=.ok (.func fn first cap) w:=fun _ _ _ _=>rfl;have HS:=zaa hS;have HB:=zaa hb;have HE:=zaa he;clear hS hb he
 go_enter_defers Tryz.func154,Tryz.ntmps154
 go_wp2_with fail
 refine(za HS).mono ?_;intro e w1 hs;have hb1:=za HB _ _ hs;have hlt:=(Array.getElem?_eq_some_iff.1 hb1).1;have hc:w1.cell? ⟨w.heap.size,0,none⟩=some (.int .i64 0):=by rw[cell_of_row _ _ 0 _ _ _ hb1];rfl
 have hz:w1.frozen? ⟨w.heap.size,0,none⟩=false:=by simp[World.frozen?,hb1]
 rcases za HE _ _ hs with rfl|⟨k,rfl⟩
 ·have H1:=zaa hb1;have HS1:=zaa hs;clear hb1 hs;have hc2:(w1.setCell ⟨w.heap.size,0,none⟩ (.int .i64 0)).cell? ⟨w.heap.size,0,none⟩=some (.int .i64 0):=by
   have:=heap_setCell_same w1 w.heap.size 0 _ 35 (.int .i64 0) (za H1);rw[cell_of_row _ _ 0 _ _ _ this];rfl
  go_wp2_with fail
  refine leaves_cons (f:=198) (args:=#[.pointer (some ⟨w.heap.size,0,none⟩)]) (by simp) (by simp[go_sem]) ?_;refine(zo1 w.heap.size _).mono ?_;rintro e u' w'' ⟨rfl,rfl,rfl⟩;simp[Leaves,settle,results,Tryz.results154,go_sem,hc2];exact⟨_,w1,za HS1,zax _ _ _ _,.inl rfl⟩
 ·have H1:=zaa hb1;have HS1:=zaa hs;clear hb1 hs;have hb2:=(Below.heap_alloc w1 (.cells #[.int .i64 (k:Int)] 233) _ hlt).trans (za H1);have hc2:((w1.alloc (.cells #[.int .i64 (k:Int)] 233)).setCell ⟨w.heap.size,0,none⟩ (.int .i64 (k:Int))).cell? ⟨w.heap.size,0,none⟩=some (.int .i64 (k:Int)):=by
   have:=heap_setCell_same _ w.heap.size 0 _ 35 (.int .i64 (k:Int)) hb2;rw[cell_of_row _ _ 0 _ _ _ this];rfl
  clear hb2
  go_wp2_with fail
  refine leaves_cons (f:=198) (args:=#[.pointer (some ⟨w.heap.size,0,none⟩)]) (by simp) (by simp[go_sem]) ?_;refine(zmp w.heap.size k _ (za H1)).mono ?_;rintro e u' w'' ⟨rfl,rfl,rfl⟩;simp[Leaves,settle,results,Tryz.results154,go_sem,hc2];exact⟨_,w1,za HS1,zaf (zm2 _ ((Below.refl _ _).alloc (Nat.le_refl _) _)) (zax _ _ _ _),.inr ⟨k,rfl,rfl⟩⟩
theorem zpo (n:Nat) (w:World) (h:n≤1099511627776) :
  Calls Tryz.prog 94 #[.int .i64 (n:Int)] w fun e w'=>∃ sp n' c',e=.returned (.tuple #[.slice sp n' c',.int .i64 0])∧Hid ((zal n).length=n')∧OwnB w.heap.size w' sp c' (zal n)∧Below w.heap.size w w':=by
 go_enter Tryz.func94,Tryz.ntmps94
 go_wp2_with fail
 refine(zhb n 0 1099511627776 _ ⟨by omega,by omega⟩).mono ?_;rintro e w1 ⟨rfl,rfl⟩
 go_wp2_with fail
 refine(zh0 w1.heap.size none 0 0 [] n _ rfl (OwnB.ofNil _ _) (by simp) h (Nat.le_refl _)).mono ?_;rintro e w' ⟨sp,n',c',rfl,hn,ho,hb⟩;rw[List.nil_append] at hn ho
 go_wp2
 go_ret2
 exact⟨sp,n',c',rfl,hn,ho,hb⟩
theorem zba (w:World) (o:Obj):(w.alloc o).heap.size=w.heap.size+1:=by simp
end
end Go.Proofs.YtjcjleaicjhpeaaGreatDoor
