/- Conf: a map's names, sorted. -/
import Derived.Test.YtjcjleaicjhpeaaGreatDoorB04
import Derived.Laws.BitsAllLaws
import Derived.Test.YtjcjleaicjhpeaaGreatDoorB01
import Derived.Laws.Bits128
import Derived.Deep.RegionHeld3
import Derived.Test.YtjcjleaicjhpeaaGreatDoorB03
import Derived.Lib.Split
import Derived.Shelf.Small.Bits
import Derived.Shelf.Small.Wraps
import Derived.Shelf.Strconv.Itoa0
import Derived.Shelf.Strings.Search1
import Derived.Shelf.Strings.Search2
import Derived.Shelf.Strings.Search3
import Derived.Shelf.Strings.Count
import Derived.Shelf.LaysM
import Derived.Shelf.Strings.Shaped
import Derived.Shelf.Strings.Split
import Derived.Shelf.Strings.SplitShaped
import Derived.Shelf.Unicode.DecodeSlow
import Derived.Shelf.Unicode.DecodeAny
import Derived.Ground.SlgmProg
import Derived.Shelf.SortM.Plain
import Derived.Shelf.SortM.SortNone
import Derived.Test.YtjcjleaicjhpeaaGreatDoorProg
set_option linter.unusedVariables false
set_option maxRecDepth 20000
set_option maxHeartbeats 16000000
namespace Go.Proofs.YtjcjleaicjhpeaaGreatDoor
section
open Go.ChangeShapes Go.WideShapes Go.ChangeAt Go.RowKit Go.Maps Go.Shelf Go.Sort
theorem MapG.keysS {w:World} {B:Nat} {fs:List (ByteArray×Value)} (h:MapG kxS w B fs):∃ D:DataW Value,w.ownsMap Tryz.prog 9 zbz B fs.length D∧Maps.size D=fs.length∧∀ ss:List (List UInt8),ss.Perm (strKeys D)→ss.mergeSort (fun x y=>decide (x≤y))=fs.map (fun x=>x.1.data.toList):=by
 obtain⟨D,hD,hH,hA,hS⟩:=h.map;refine⟨D,hD,hS,fun ss hp=>?_⟩;obtain⟨es,rfl,hke⟩:=hD.keysOf;obtain⟨es',e',ht⟩:=hD.tidy kxS.law;obtain rfl:es=es':=by simpa using e'
 have hk2:∀ p∈es,∃ x,p.1=.string x:=fun p hp=>by
  obtain⟨key,hk⟩:=hke p hp;obtain⟨x,_,hx,_⟩:=Maps.keyOf_str Tryz.underlying9 hk;exact⟨x,hx⟩
 have hinj:∀ a b:ByteArray×Value,a.1.data.toList=b.1.data.toList→a.1=b.1:=fun a b e=>zdw e;have hnd:(fs.map (fun x=>x.1.data.toList)).Nodup:=by
  rw[List.Nodup,List.pairwise_map];refine List.Pairwise.imp ?_ (show fs.Pairwise (fun x y=>Kord.lt x.1 y.1) from h.rise);intro a b hab e;rw[hinj a b e] at hab;exact Kord.irr _ hab
 have hq:(fs.map (fun x=>x.1.data.toList)).Perm (strKeys (.map es)):=by
  refine perm_strKeys ht hk2 hnd (fun x=>?_);constructor
  ·intro hx;obtain⟨y,hy,rfl⟩:=List.mem_map.1 hx;exact(hH y.1 (h.okk y hy)).2 (List.mem_map.2 ⟨y,hy,rfl⟩)
  ·intro hx;have hex:∃ p∈es,p.1=.string x:=by
    rw[Maps.has_eq,List.any_eq_true] at hx;obtain⟨p,hp1,hp2⟩:=hx;obtain⟨a,ha⟩:=hk2 p hp1;rw[ha] at hp2;simp[Lit.sameKey] at hp2;exact⟨p,hp1,by rw[ha,hp2]⟩
   obtain⟨p,hp1,hp2⟩:=hex;obtain⟨key,hk⟩:=hke p hp1;obtain⟨s,hs,_,hl⟩:=kxS.inv hk;rw[hp2] at hl;have e:x=s.data.toList:=by simpa [kxS] using hl
   have h3:=(hH s hs).1 (by show Maps.has _ (.string s.data.toList)=true;rw[← e];exact hx);obtain⟨y,hy,hy2⟩:=List.mem_map.1 h3;exact List.mem_map.2 ⟨y,hy,by rw[hy2,e]⟩
 have h1:=mergeSort_of_perm (hp.trans hq.symm);refine h1.trans (List.mergeSort_of_pairwise ?_);refine List.pairwise_map.2 (List.Pairwise.imp (fun {a b} hab=>?_) (show fs.Pairwise (fun x y=>Kord.lt x.1 y.1) from h.rise));simp only[leB,decide_eq_true_eq];exact List.le_of_lt hab
def zmc (base:Nat) (w:World) (sp:Option Addr) (c:Nat) (l:List ByteArray):Prop:=w.ownsRow base 9 1 (.slice sp l.length c) l.length (l.map Value.string)
theorem zmc.cell {base:Nat} {w:World} {sp:Option Addr} {c:Nat} {l:List ByteArray} (h:zmc base w sp c l) (i:Nat) (hi:i<l.length):∃ g,sp=some ⟨g,0,none⟩∧base≤g∧g<w.heap.size∧∀ w':World,w'.heap[g]? = w.heap[g]?→w'.cell? ⟨g,i,none⟩=some (.string l[i]):=by
 rcases h.2 with⟨hv,h0⟩|⟨g,cap,cur,hv,hb,hg,hle,hmx,hsz,ht⟩
 ·omega
 ·simp only[Value.slice.injEq] at hv;refine⟨g,hv.1,hb,(Array.getElem?_eq_some_iff.1 hg).1,fun w' hw=>?_⟩;rw[cell_of_row w' g i cur _ _ (hw.trans hg)];have e:(l.map Value.string)[i]? = some (.string l[i]):=by rw[List.getElem?_map,List.getElem?_eq_getElem hi];rfl
  rw[← ht,List.getElem?_take,if_pos (by omega)] at e;rw[← Array.getElem?_toList,e]
theorem zjl (b:Nat) (w:World):Calls Tryz.prog 42 #[.map (some b)] w fun e w'=>e=.returned (.func (.func 84) #[] #[.pointer (some ⟨w.heap.size,0,none⟩)])∧w'=w.alloc (.cells #[.map (some b)] 75) :=
 callsIn_wide.1 (Tryz.maps_Keys_42 (some b) w)
theorem zia {w:World} {fs:List (ByteArray×Value)} {b:Nat} (h:MapG kxS w b fs) (hl:fs.length≤1000) :
  Calls Tryz.prog 41 #[.func (.func 84) #[] #[.pointer (some ⟨w.heap.size,0,none⟩)]] (w.alloc (.cells #[.map (some b)] 75)) fun e w'=>∃ sp c,e=.returned (.slice sp fs.length c)∧zmc w.heap.size w' sp c (fs.map (·.1))∧Below w.heap.size w w':=by
 obtain⟨D,hD,hS,hK⟩:=h.keysS;refine(callsIn_wide.1 (Tryz.slices_Sorted_keys_41_42 b _ D zbz w hD (by rw[hS];simp only[maxLen];omega) (by rw[hS];omega))).mono ?_;rintro e w' ⟨v,ss,rfl,hp,hrow,hnil,hb⟩;have hm:=hK ss hp;rw[hm] at hrow;have hlen:ss.length=fs.length:=by have:=congrArg List.length hm;rw[List.length_mergeSort,List.length_map] at this;exact this
 rw[hlen] at hrow;have e1:(fs.map (fun x=>x.1.data.toList)).map encStr=(fs.map (·.1)).map Value.string:=by
  rw[List.map_map,List.map_map];exact List.map_congr_left fun x _=>by simp[encStr]
 rw[e1] at hrow;have b1:Below w.heap.size w (w.alloc (.cells #[.map (some b)] 75)):=(Below.refl _ _).alloc (Nat.le_refl _) _;have hv:∃ sp c,v=.slice sp fs.length c:=by
  rcases hrow.2 with⟨hv,h0⟩|⟨g,cap,cur,hv,_⟩
  ·exact⟨none,0,by rw[hv,h0]⟩
  ·exact⟨_,_,hv⟩
 obtain⟨sp,c,rfl⟩:=hv;refine⟨sp,c,rfl,?_,b1.trans (hb.mono b1.size)⟩;unfold zmc;rw[List.length_map];exact⟨hrow.1,hrow.2.imp id (fun ⟨g,cap,cur,h1,h2,h3⟩=>⟨g,cap,cur,h1,Nat.le_trans b1.size h2,h3⟩)⟩
end
section
def zi0:Nat→Nat→List Nat
 |0,n=>[n]
 |f+1,n=>if n<128 then [n] else (n % 128+128)::zi0 f (n / 128)
theorem zkw:∀ (n f g:Nat),n≤f→n≤g→zi0 f n=zi0 g n:=by
 intro n;induction n using Nat.strongRecOn with
 |ind n ih =>
  intro f g hf hg;by_cases h:n<128
  ·cases f <;> cases g <;> simp only[zi0,if_pos h]
  ·match f,g,hf,hg with
   |0,_,hf,_=>omega
   |_+1,0,_,hg=>omega
   |f+1,g+1,hf,hg =>
    simp only[zi0,if_neg h];rw[ih (n / 128) (by omega) f g (by omega) (by omega)]
def zat (n:Nat):List Nat:=zi0 n n
theorem zdb {n:Nat} (h:n<128):zat n=[n]:=by
 unfold zat;cases n with
 |zero=>rfl
 |succ k=>simp only[zi0,if_pos h]
theorem zef {n:Nat} (h:¬ n<128):zat n=(n % 128+128)::zat (n / 128):=by
 unfold zat;cases n with
 |zero=>omega
 |succ k =>
  simp only[zi0,if_neg h];rw[zkw ((k+1) / 128) k ((k+1) / 128) (by omega) (Nat.le_refl _)]
theorem zbx (n:Nat):1≤(zat n).length∧(zat n).length≤n+1:=by
 induction n using Nat.strongRecOn with
 |ind n ih =>
  by_cases h:n<128
  ·rw[zdb h];simp
  ·rw[zef h];have:=ih (n / 128) (by omega);simp only[List.length_cons];omega
end
section
open Go.ChangeShapes Go.WideShapes Go.ChangeAt Go.RowKit
theorem zk8 (n a b:Int) (w:World) (h:a≤n∧n≤b):Calls Tryz.prog 150 #[.int .i64 n,.int .i64 a,.int .i64 b] w fun e w'=>e=.returned (.bool true)∧w'=w:=by
 obtain⟨h1,h2⟩:=h;go_enter Tryz.func150,Tryz.ntmps150
 go_wp2
 go_ret
 exact⟨by simp,rfl⟩
theorem zn1 (n:Int) (h₀:0≤n) (h₁:n<2 ^ 63):IntKind.i64.wrap n=n:=by rw[IntKind.wrap_i64];omega
theorem zmp (m:Nat):bits .or .i64 (bits .and .i64 (m:Int) 127) 128 % 256=((m % 128+128:Nat):Int):=by
 rw[i64_and127];have h0:(0:Int)≤(m:Int) % 128:=by omega
 have h1:(m:Int) % 128<128:=by omega
 generalize hy:(m:Int) % 128=y at *;have hc:bits .or .i64 y 128=bits .or .i64 128 y:=by simp only[bits,BitVec.or_comm]
 rw[hc,bits_join .i64 63 (by decide) zn1 7 128 y (by decide) (by decide) (by decide) h0 h1 (by omega)];omega
theorem zgz (base:Nat) (sp:Option Addr) (n0 c:Nat) (l:List Nat) (n:Nat) (w:World) (hn0:l.length=n0) (hown:OwnB base w sp c l) (hl:l.length≤1099511627776) (hn:n≤1099511627776) (hbase:base≤w.heap.size) :
  Calls Tryz.prog 151 #[.slice sp n0 c,.int .i64 (n:Int)] w fun e w'=>∃ sp' n' c',e=.returned (.slice sp' n' c')∧Hid ((l++zat n).length=n')∧OwnB base w' sp' c' (l++zat n)∧Grew w sp w' sp':=by
 have HO:=zaa hown;have HN:=zaa hn0;have HLen:=zaa (show(l++zat n).length≤2199023255553 by rw[List.length_append];have:=(zbx n).2;omega);clear hown hn0;go_enter Tryz.func151,Tryz.ntmps151
 go_wp2
 go_loopw [0,1] (fun v i wr=>∃ (sp':Option Addr) (n' c':Nat) (l':List Nat) (m:Nat),m≤1099511627776∧v=.slice sp' n' c'∧i=.int .i64 (m:Int)∧Hid (l'.length=n')∧Hid (OwnB base wr sp' c' l')∧Hid (l'++zat m=l++zat n)∧Hid (Grew w sp wr sp')) (fun _ i _=>(intOf i).toNat)
 case atStart=>exact⟨sp,n0,c,l,n,hn,rfl,rfl,za HN,za HO,rfl,Grew.refl _ _⟩
 case round =>
  obtain⟨sp',n',c',l',m,hm,rfl,rfl,hl',ho',heq,hbw⟩:=hrel
  have hlen':=zaa (show l'.length+1≤140737488355328 by
   have h1:=za HLen;rw[← za heq,List.length_append] at h1;have:=(zbx m).1
   omega)
  have hbr:base≤wr.heap.size:=Nat.le_trans hbase (za hbw).grown.size;by_cases h128:m<128
  ·have hlit:=zaa (zbq (l:=[m]) (zad wr (.cells #[.int .u8 (m:Int)] 5)) (by intro c hc;simp only[List.mem_cons,List.not_mem_nil,or_false] at hc;omega));have bA:=zaa (show Below wr.heap.size wr (wr.alloc (.cells #[.int .u8 (m:Int)] 5)) from(Below.refl _ _).alloc (Nat.le_refl _) _);have heq':=zaa (show l'++[m]=l++zat n by rw[← za heq,zdb h128]);have hm0:(m:Int)<128:=by omega
   go_wp2_with (at_builtin;refine zbh rfl (.tmp 16) (.tmp 19) rfl base sp' n' c' l' rfl (za hl') (by exact(za ho').later (za bA)) (some ⟨wr.heap.size,0,none⟩) 1 1 rfl [m] rfl (by exact za hlit) (fun h=>by cases h) (za hlen') (Nat.le_trans hbr (za bA).size) ?_;intro sp2 n2 c2 W2 hn2 ho2 hg2 hb2)
   rw[za heq'] at hn2 ho2;go_ret
   exact⟨sp2,n2,c2,rfl,hn2,ho2,(za hbw).trans (Grew.aside (za bA) ⟨hg2,hb2⟩)⟩
  ·have hlit:=zaa (zbq (l:=[m % 128+128]) (zad wr (.cells #[.int .u8 ((m % 128+128:Nat):Int)] 5)) (by intro c hc;simp only[List.mem_cons,List.not_mem_nil,or_false] at hc;omega));have bA:=zaa (show Below wr.heap.size wr (wr.alloc (.cells #[.int .u8 ((m % 128+128:Nat):Int)] 5)) from(Below.refl _ _).alloc (Nat.le_refl _) _);have heq':=zaa (show l'++[m % 128+128]++zat (m / 128)=l++zat n by rw[← za heq,zef h128,List.append_assoc];rfl);have hm0:¬ (m:Int)<128:=by omega
   have hlow:=zmp m;generalize hq:m % 128+128=q at *
   go_wp2_with (at_builtin;refine zbh rfl (.tmp 7) (.tmp 12) rfl base sp' n' c' l' rfl (za hl') (by exact(za ho').later (za bA)) (some ⟨wr.heap.size,0,none⟩) 1 1 rfl [q] rfl (by exact za hlit) (fun h=>by cases h) (za hlen') (Nat.le_trans hbr (za bA).size) ?_;intro sp2 n2 c2 W2 hn2 ho2 hg2 hb2)
   have hbn:=(za hbw).trans (Grew.aside (za bA) ⟨hg2,hb2⟩);exact⟨⟨sp2,n2,c2,l'++[q],m / 128,by omega,rfl,by go_num,hn2,ho2,za heq',hbn⟩,by simp[intOf];omega⟩
theorem zf9 (base:Nat) (sp:Option Addr) (n0 c:Nat) (l:List Nat) (n:Nat) (w:World) (hn0:l.length=n0) (hown:OwnB base w sp c l) (hl:l.length≤1099511627776) (hn:n≤1099511627776) (hbase:base≤w.heap.size) :
  Calls Tryz.prog 151 #[.slice sp n0 c,.int .i64 (n:Int)] w fun e w'=>∃ sp' n' c',e=.returned (.slice sp' n' c')∧Hid ((l++zat n).length=n')∧OwnB base w' sp' c' (l++zat n)∧Below base w w':=by
 refine(zgz base sp n0 c l n w hn0 hown hl hn hbase).mono ?_;rintro e w' ⟨sp',n',c',he,h1,h2,h3⟩;exact⟨sp',n',c',he,h1,h2,h3.below hown hbase⟩
theorem zkx (n:Nat) (w:World) (h:n≤1099511627776) :
  Calls Tryz.prog 94 #[.int .i64 (n:Int)] w fun e w'=>∃ sp n' c',e=.returned (.tuple #[.slice sp n' c',.int .i64 0])∧Hid ((zat n).length=n')∧OwnB w.heap.size w' sp c' (zat n)∧Below w.heap.size w w':=by
 go_enter Tryz.func94,Tryz.ntmps94
 go_wp2_with fail
 refine(zk8 n 0 1099511627776 _ ⟨by omega,by omega⟩).mono ?_;rintro e w1 ⟨rfl,rfl⟩
 go_wp2_with fail
 refine(zf9 w1.heap.size none 0 0 [] n _ rfl (OwnB.ofNil _ _) (by simp) h (Nat.le_refl _)).mono ?_;rintro e w' ⟨sp,n',c',rfl,hn,ho,hb⟩;rw[List.nil_append] at hn ho
 go_wp2
 go_ret2
 exact⟨sp,n',c',rfl,hn,ho,hb⟩
theorem zgq:∀ (f n:Nat),n<128 ^ (f+1)→(zat n).length≤f+1
 |0,n,h=>by
  rw[zdb (show n<128 from by omega)];simp
 |f+1,n,h=>by
  by_cases h1:n<128
  ·rw[zdb h1];simp
  ·rw[zef h1,List.length_cons];have:=zgq f (n / 128) (by rw[Nat.pow_succ] at h;omega);omega
theorem zau (n:Nat) (h:n≤1099511627776):(zat n).length≤6 :=
 zgq 5 n (by have:(128:Nat) ^ (5+1)=4398046511104:=rfl;omega)
def zgr (ns:List Nat):List Nat:=ns.flatMap zat
def txB (s:ByteArray):List Nat:=zat s.size++bsT s
def zn0 (ts:List ByteArray):List Nat:=ts.flatMap txB
theorem zb5 {α:Type} (f:α→List Nat) (l:List α) (j:Nat) (h:j<l.length):(l.take (j+1)).flatMap f=(l.take j).flatMap f++f l[j]:=by
 rw[List.take_succ_eq_append_getElem h,List.flatMap_append];simp
theorem zb4 {α:Type} (f:α→List Nat) (k:Nat):∀ (l:List α),(∀ x∈l,(f x).length≤k)→(l.flatMap f).length≤k*l.length
 |[],_=>by simp
 |x::r,h=>by
  rw[List.flatMap_cons,List.length_append,List.length_cons];have h1:=h x List.mem_cons_self;have h2:=zb4 f k r (fun y hy=>h y (List.mem_cons_of_mem _ hy));rw[Nat.mul_add,Nat.mul_one];omega
theorem zca (s:ByteArray) (h:s.size≤1099511627776):(txB s).length≤s.size+6:=by
 unfold txB;rw[List.length_append,zhp];have:=zau s.size h;omega
def zc (ns:List Nat):Array Value:=(ns.map (fun (n:Nat)=>Value.int .i64 (n:Int))).toArray
theorem zmq (ns:List Nat) (j:Nat) (h:j<ns.length):(zc ns)[j]? = some (.int .i64 (ns[j]:Int)):=by
 unfold zc;simp[h]
theorem OwnB.ne {base:Nat} {w:World} {sp:Option Addr} {c:Nat} {l:List Nat} (h:OwnB base w sp c l) {B:Nat} {cs:Array Value} {T:TypeId} {fr:Nat×Nat} (hB:w.heap[B]? = some (.cells cs T fr)) (hT:T≠5):blk sp≠some B:=by
 intro e;rcases h.owns.2 with⟨hv,h0⟩|⟨g,cap,cur,hv,_,hg,_⟩
 ·simp only[Value.slice.injEq] at hv;rw[hv.1] at e;cases e
 ·simp only[Value.slice.injEq] at hv;rw[hv.1] at e;simp only[blk,Option.map_some,Option.some.injEq] at e;rw[e,hB] at hg;simp only[Option.some.injEq,Obj.cells.injEq] at hg;exact hT hg.2.1
theorem OwnB.cap0 {base:Nat} {w:World} {sp:Option Addr} {c:Nat} {l:List Nat} (h:OwnB base w sp c l):sp=none→c=0:=by
 intro e;rcases h.owns.2 with⟨hv,h0⟩|⟨g,cap,cur,hv,_⟩
 ·simp only[Value.slice.injEq] at hv;exact hv.2.2
 ·simp only[Value.slice.injEq] at hv;rw[hv.1] at e;cases e
theorem OwnB.some_ {base:Nat} {w:World} {sp:Option Addr} {c:Nat} {l:List Nat} (h:OwnB base w sp c l) (hl:0<l.length):sp≠none:=by
 rcases h.owns.2 with⟨hv,h0⟩|⟨g,cap,cur,hv,_⟩
 ·omega
 ·simp only[Value.slice.injEq] at hv;rw[hv.1];simp
theorem tyne:(3:TypeId)≠5∧(9:TypeId)≠5:=by decide
theorem zaz (base:Nat) {w:World} {sp:Option Addr} {n0 c:Nat} {l:List Nat} (hn0:l.length=n0) (hown:OwnB base w sp c l) (B m mc:Nat) (ns:List Nat) (hm:ns.length=m) (hB:w.heap[B]? = some (.cells (zc ns) 3 (0,0)))
  (hns:∀ n∈ns,n≤1099511627776) (hsz:l.length+6*m≤140737488355328) (hm2:m≤1000) (hbase:base≤w.heap.size) :
  Calls Tryz.prog 49 #[.slice sp n0 c,.slice (some ⟨B,0,none⟩) m mc] w fun e w'=>∃ sp' n' c',e=.returned (.slice sp' n' c')∧Hid ((l++zgr ns).length=n')∧OwnB base w' sp' c' (l++zgr ns)∧Grew w sp w' sp':=by
 have HO:=zaa hown;have HN:=zaa hn0;have HM:=zaa hm;have HB:=zaa hB;have HNE:=zaa (hown.ne hB tyne.1);have HNS:=zaa hns
 have LE:=zaa (show ∀ j,((ns.take j).flatMap zat).length≤6*m from fun j=>by
  have h1:=zb4 zat 6 (ns.take j) (fun x hx=>zau x (hns x (List.mem_of_mem_take hx)));have h2:(ns.take j).length≤m:=by rw[← hm,List.length_take];omega
  omega)
 clear hown hn0 hm hB hns;go_enter Tryz.func49,Tryz.ntmps49
 go_wp2
 go_loopw [0,11] (fun v i wr=>∃ (j:Nat) (sp':Option Addr) (n' c':Nat),j≤m∧v=.slice sp' n' c'∧i=.int .i64 (j:Int)∧Hid ((l++(ns.take j).flatMap zat).length=n')∧Hid (OwnB base wr sp' c' (l++(ns.take j).flatMap zat))∧Hid (Grew w sp wr sp')) (fun _ i _=>m - (intOf i).toNat)
 case atStart=>exact⟨0,sp,n0,c,by omega,rfl,rfl,zaa (by simpa using za HN),zaa (by simpa using za HO),Grew.refl _ _⟩
 case round =>
  obtain⟨j,sp',n',c',hj,rfl,rfl,hl',ho',hg'⟩:=hrel;by_cases hjm:j<m
  ·have y0:(0:Int)≤(j:Int):=by omega
   have y1:(j:Int)<(m:Int):=by omega
   have hjl:j<ns.length:=by rw[za HM];exact hjm
   have hBr:=Grew.block (za hg') (za HB) (za HNE);have p0:=zag hBr j _ (zmq ns j hjl);have hx:=za HNS ns[j] (List.getElem_mem hjl);have FT:=zaa (zb5 zat ns j hjl);generalize ns[j]=x at *
   have hs1:=zaa (show(l++(ns.take j).flatMap zat).length+(zat x).length≤140737488355328 by
    have:=za LE (j+1);rw[za FT,List.length_append] at this
    rw[List.length_append];omega)
   have hbr:base≤wr.heap.size:=Nat.le_trans hbase (za hg').grown.size;clear hBr
   go_wp2_with fail
   refine(zkx x wr hx).mono ?_;rintro e V ⟨xp,xn,xc,rfl,hxn,hxo,hxb⟩;have ho2:=zaa ((za ho').later hxb);have HV:=zaa hxb;have XB:=zaa hxo.bytes;have X0:=zaa hxo.cap0;have hvs:base≤V.heap.size:=Nat.le_trans hbr hxb.size;have hs2:=zaa (show(l++(ns.take j).flatMap zat).length+xn≤140737488355328 by rw[← za hxn];exact za hs1);clear hxb hxo hx
   go_wp2_with (at_builtin;refine zbh rfl (.tmp 20) (.tmp 21) rfl base sp' n' c' _ rfl (za hl') (za ho2) xp xn xc rfl (zat x) (za hxn) (za XB) (za X0) (za hs2) hvs ?_;intro sp2 n2 c2 W2 hn2 ho3 hg2 hb2;rw[List.append_assoc,← za FT] at hn2 ho3;have HO3:=zaa ho3;clear ho3)
   have hbn:=zaa ((za hg').trans (Grew.aside (za HV) ⟨hg2,hb2⟩));exact⟨⟨j+1,sp2,n2,c2,by omega,rfl,by go_num,by first|exact hn2|exact zaa (by rw[List.length_append];exact za hn2),za HO3,za hbn⟩,by simp[intOf];omega⟩
  ·have hjj:¬ (j:Int)<(m:Int):=by omega
   have E:=zaa (show(ns.take j).flatMap zat=zgr ns by rw[List.take_of_length_le (by rw[za HM];omega)];rfl)
   go_wp2
   go_ret
   exact⟨sp',n',c',rfl,zaa (by rw[← za E];simpa using za hl'),by rw[← za E];exact za ho',za hg'⟩
def zek (c:UInt8):Bool:=(decide (97≤c.toNat)&&decide (c.toNat≤122))||((decide (48≤c.toNat)&&decide (c.toNat≤57))||decide (c.toNat=45))
def zcc (c:UInt8):Bool:=decide (33≤c.toNat)&&decide (c.toNat≤126)
def zjo (c:UInt8):Bool:=zcc c&&(!decide (c.toNat=63) && !decide (c.toNat=35))
def zd5 (s:ByteArray) (most:Nat) (f:UInt8→Bool):Bool:=decide (1≤s.size)&&decide (s.size≤most)&&s.data.toList.all f
def zcf (s:ByteArray):Bool:=zd5 s 64 zek
def zc4 (s:ByteArray):Bool:=zd5 s 64 zcc
def zb2 (s:ByteArray):Bool:=zd5 s 128 zjo&&(s.data.toList.head? == some 47)
def ze2:Bool→List UInt8→Bool
 |b,[]=>b
 |b,c::r=>if c=46 then b&&ze2 false r else zek c&&ze2 true r
def zba (s:ByteArray):Bool:=decide (s.size≤64)&&ze2 false s.data.toList
def wtB (n:Nat):Bool:=decide (n<9218868437227405312)
abbrev Tgt:=ByteArray×Nat
structure Cmd where
 act:Int
 cli:Int
 seq:Int
 exp:Int
 host:ByteArray
 pre:ByteArray
 pool:ByteArray
 ts:List Tgt
def za4 (c:Cmd):Bool:=decide (1≤c.act∧c.act≤4)&&decide (0≤c.cli∧c.cli≤32)&&(if c.cli=0 then decide (c.seq=0) else decide (1≤c.seq∧c.seq≤1099511627776))&&decide (-1≤c.exp∧c.exp≤1099511627775)
def za8 (a:Int):Bool:=decide (a=3)||decide (a=4)
def za7 (c:Cmd):Bool:=(za8 c.act||(decide (c.host.size=0)&&decide (c.pre.size=0)))&&(!decide (c.act=4)||decide (c.pool.size=0))&&(decide (c.act=1)||decide (c.ts.length=0))
def zbf (c:Cmd):Bool:=(!za8 c.act||(zba c.host&&zb2 c.pre))&&(decide (c.act=4)||zcf c.pool)&&c.ts.all (fun t=>zc4 t.1)
def zen (l:List Tgt):Bool:=l.all (fun t=>wtB t.2)
def zak (c:Cmd):Nat:=if za4 c&&za7 c then (if zbf c then (if zen c.ts then (if 16<c.ts.length then 6 else 0) else 15) else 14) else 2
theorem znx (s:ByteArray):s.size=0↔s.data.toList=[]:=by
 rw[← List.length_eq_zero_iff,Array.length_toList];rfl
theorem zio:∀ (l:List UInt8),(Lib.index l [46]=-1∧(46:UInt8) ∉ l)∨(∃ i:Nat,Lib.index l [46]=i∧i<l.length∧l=l.take i++46::l.drop (i+1)∧(46:UInt8) ∉ l.take i)
 |[]=>.inl ⟨rfl,by simp⟩
 |b::t=>by
  have hp:[46].isPrefixOf (b::t)=(b==46):=by
   rw[List.isPrefixOf,List.isPrefixOf,Bool.and_true,Bool.eq_iff_iff,beq_iff_eq,beq_iff_eq,eq_comm]
  by_cases hb:b=46
  ·subst hb;refine .inr ⟨0,?_,by simp,by simp,by simp⟩;unfold Lib.index;rw[hp,if_pos (by simp)];rfl
  ·have hb2:¬ (b==46)=true:=by simpa using hb
   rcases zio t with⟨h1,h2⟩|⟨i,h1,h2,h3,h4⟩
   ·refine .inl ⟨?_,?_⟩
    ·unfold Lib.index;rw[hp,if_neg hb2,h1];rfl
    ·intro hm;rcases List.mem_cons.1 hm with e|e
     ·exact hb e.symm
     ·exact h2 e
   ·refine .inr ⟨i+1,?_,by simp;omega,?_,?_⟩
    ·unfold Lib.index;rw[hp,if_neg hb2,if_neg (by rw[beq_iff_eq,h1];omega),h1];omega
    ·rw[List.take_succ_cons,List.drop_succ_cons,List.cons_append,← h3]
    ·rw[List.take_succ_cons];intro hm;rcases List.mem_cons.1 hm with e|e
     ·exact hb e.symm
     ·exact h4 e
theorem zit:∀ (a:List UInt8) (b:Bool),(46:UInt8) ∉ a→ze2 b a=(a.all zek&&(b || !a.isEmpty))
 |[],b,_=>by simp[ze2]
 |c::r,b,h=>by
  have hc:c≠46:=fun e=>h (e ▸ List.mem_cons_self);unfold ze2;rw[if_neg hc,zit r true (fun e=>h (List.mem_cons_of_mem _ e))];simp
theorem ziu:∀ (a:List UInt8) (b:Bool) (r:List UInt8),(46:UInt8) ∉ a→ze2 b (a++46::r)=((a.all zek&&(b || !a.isEmpty))&&ze2 false r)
 |[],b,r,_=>by simp[ze2]
 |c::t,b,r,h=>by
  have hc:c≠46:=fun e=>h (e ▸ List.mem_cons_self);rw[List.cons_append]
  conv=>lhs;unfold ze2
  rw[if_neg hc,ziu t true r (fun e=>h (List.mem_cons_of_mem _ e))];simp[Bool.and_assoc]
theorem zka (s:ByteArray) (h:s.size≤64):zcf s=(s.data.toList.all zek && !s.data.toList.isEmpty):=by
 unfold zcf zd5;rw[decide_eq_true h,Bool.and_true];have:decide (1≤s.size) = !s.data.toList.isEmpty:=by
  rw[Bool.eq_iff_iff,decide_eq_true_eq];simp only[Bool.not_eq_true',List.isEmpty_eq_false_iff];have:=znx s;constructor
  ·intro h1 h2;have:=this.2 h2;omega
  ·intro h1;have:s.size≠0:=fun e=>h1 (this.1 e);omega
 rw[this,Bool.and_comm]
def zfu:ByteArray:=⟨#[46]⟩
theorem zk6:∀ (n:Nat) (s:ByteArray),s.size=n→s.size≤64→(Lib.splitB zfu 0 (Lib.countB s zfu) s).all zcf=ze2 false s.data.toList:=by
 intro n;induction n using Nat.strongRecOn with
 |ind n ih =>
  intro s hn h64;rcases zio s.data.toList with⟨h1,h2⟩|⟨i,h1,h2,h3,h4⟩
  ·rw[Lib.splitB_miss _ _ _ _ h1,zit _ _ h2];simp[zka s h64]
  ·have hc:Lib.countB s zfu=1+Lib.countB (s.extract (i+1) s.size) zfu:=by
    have:=Lib.count_hit (s:=s.data.toList) (sub:=[46]) (by simp) h1;have e:(s.extract (i+1) s.size).data.toList=s.data.toList.drop (i+1):=Lib.extract_to_end s (i+1);show Lib.count _ _=1+Lib.count _ _
    rw[e];exact this
   have hi:i<s.size:=by simpa using h2
   have hs:(s.extract (i+1) s.size).size=s.size - (i+1):=by simp
   rw[hc,Nat.add_comm,Lib.splitB_hit zfu 0 _ s i h1,List.all_cons,show zfu.size=1 from rfl,ih (s.size - (i+1)) (by omega) _ hs (by omega)];have e0:(s.extract 0 (i+0)).data.toList=s.data.toList.take i:=Lib.extract_from_zero s i;have e1:(s.extract (i+1) s.size).data.toList=s.data.toList.drop (i+1):=Lib.extract_to_end s (i+1);rw[zka _ (by simp;omega),e0,e1]
   conv=>rhs;rw[h3,ziu _ _ _ h4]
   simp
theorem zm0 (k:Nat):∀ (s p:ByteArray),p∈Lib.splitB zfu 0 k s→p.size≤s.size:=by
 induction k with
 |zero=>intro s p hp;rw[Lib.splitB_zero] at hp;simp at hp;rw[hp];exact Nat.le_refl _
 |succ k ih =>
  intro s p hp;unfold Lib.splitB at hp;split at hp
  ·simp at hp;rw[hp];exact Nat.le_refl _
  ·rcases List.mem_cons.1 hp with rfl|hp
   ·simp;omega
   ·refine Nat.le_trans (ih _ _ hp) ?_;simp
end
end Go.Proofs.YtjcjleaicjhpeaaGreatDoor
section
namespace Go.Proofs
open Go.Shelf
def Tryz.laysM146_ren:Go.Shelf.Ren:=⟨fun|146=>132|221=>166|268=>201|138=>202|143=>203|195=>215|197=>216|218=>217|219=>218|260=>222|217=>223|225=>224|224=>225|267=>226|266=>227|314=>228|n=>n,fun|9=>9|31=>80|3=>3|4=>4|0=>0|105=>248|21=>21|5=>5|46=>191|119=>256|139=>259|138=>258|146=>260|51=>218|n=>n,fun|1=>1|3=>2|4=>3|n=>n⟩
theorem Tryz.laysM146:Go.Proofs.LaysM.n146 Tryz.prog Tryz.laysM146_ren:={
 mixed:=by kernel_rfl
 f138:=Tryz.func202.trans (congrArg some (by kernel_rfl))
 f143:=Tryz.func203.trans (congrArg some (by kernel_rfl))
 f146:=Tryz.func132.trans (congrArg some (by kernel_rfl))
 f195:=Tryz.func215.trans (congrArg some (by kernel_rfl))
 f197:=Tryz.func216.trans (congrArg some (by kernel_rfl))
 f217:=Tryz.func223.trans (congrArg some (by kernel_rfl))
 f218:=Tryz.func217.trans (congrArg some (by kernel_rfl))
 f219:=Tryz.func218.trans (congrArg some (by kernel_rfl))
 f221:=Tryz.func166.trans (congrArg some (by kernel_rfl))
 f224:=Tryz.func225.trans (congrArg some (by kernel_rfl))
 f225:=Tryz.func224.trans (congrArg some (by kernel_rfl))
 f260:=Tryz.func222.trans (congrArg some (by kernel_rfl))
 f266:=Tryz.func227.trans (congrArg some (by kernel_rfl))
 f267:=Tryz.func226.trans (congrArg some (by kernel_rfl))
 f268:=Tryz.func201.trans (congrArg some (by kernel_rfl))
 f314:=Tryz.func228.trans (congrArg some (by kernel_rfl))
 t0:=Tryz.underlying0
 a0:=Tryz.isAgg0
 z0:=Tryz.sizeOf0
 v0:=Tryz.zeroValue0
 t3:=Tryz.underlying3
 a3:=Tryz.isAgg3
 z3:=Tryz.sizeOf3
 v3:=Tryz.zeroValue3
 t4:=Tryz.underlying4
 a4:=Tryz.isAgg4
 z4:=Tryz.sizeOf4
 v4:=Tryz.zeroValue4
 t5:=Tryz.underlying5
 a5:=Tryz.isAgg5
 z5:=Tryz.sizeOf5
 v5:=Tryz.zeroValue5
 t9:=Tryz.underlying9
 a9:=Tryz.isAgg9
 z9:=Tryz.sizeOf9
 v9:=Tryz.zeroValue9
 t21:=Tryz.underlying21
 a21:=Tryz.isAgg21
 z21:=Tryz.sizeOf21
 v21:=Tryz.zeroValue21
 t31:=Tryz.underlying80
 a31:=Tryz.isAgg80
 z31:=Tryz.sizeOf80
 v31:=Tryz.zeroValue80
 t46:=Tryz.underlying191
 a46:=Tryz.isAgg191
 z46:=Tryz.sizeOf191
 v46:=Tryz.zeroValue191
 t51:=Tryz.underlying218
 a51:=Tryz.isAgg218
 z51:=Tryz.sizeOf218
 v51:=Tryz.zeroValue218
 t105:=Tryz.underlying248
 a105:=Tryz.isAgg248
 z105:=Tryz.sizeOf248
 v105:=Tryz.zeroValue248
 t119:=Tryz.underlying256
 a119:=Tryz.isAgg256
 z119:=Tryz.sizeOf256
 t138:=Tryz.underlying258
 a138:=Tryz.isAgg258
 z138:=Tryz.sizeOf258
 v138:=Tryz.zeroValue258
 t139:=Tryz.underlying259
 a139:=Tryz.isAgg259
 z139:=Tryz.sizeOf259
 v139:=Tryz.zeroValue259
 t146:=Tryz.underlying260
 a146:=Tryz.isAgg260
 z146:=Tryz.sizeOf260
 v146:=Tryz.zeroValue260
 g1:=by kernel_rfl
 g3:=by kernel_rfl
 g4:=by kernel_rfl
 i0:=by kernel_rfl
 i3:=by kernel_rfl
 i4:=by kernel_rfl
 i5:=by kernel_rfl
 i9:=by kernel_rfl
 i21:=by kernel_rfl
 i31:=by kernel_rfl
 i46:=by kernel_rfl
 i51:=by kernel_rfl
 i105:=by kernel_rfl
 i138:=by kernel_rfl
 i139:=by kernel_rfl
 i146:=by kernel_rfl
 m1:=by kernel_rfl
 s1_3:=fun w h=>Go.Proofs.cell_of_shapedOpen_int (zero:=#[.int .i64 0]) (t:=3) h (of_decide_eq_true (by kernel_rfl)) (by kernel_rfl) rfl (by kernel_rfl) (by kernel_rfl) Tryz.underlying3
 m3:=by kernel_rfl
 m4:=by kernel_rfl }
end Go.Proofs
end
