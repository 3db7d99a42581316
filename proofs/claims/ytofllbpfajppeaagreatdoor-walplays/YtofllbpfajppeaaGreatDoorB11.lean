/- The contracts of wire.entryMayBe, addData, addEntry, PutEntry. -/
import Derived.Test.YtofllbpfajppeaaGreatDoorB08
import Derived.Test.YtofllbpfajppeaaGreatDoorB10
set_option linter.unusedVariables false
set_option maxRecDepth 20000
set_option maxHeartbeats 16000000
namespace Go.Proofs.YtofllbpfajppeaaGreatDoor
section
open Go.ChangeShapes Go.WideShapes Go.ChangeAt Go.RowKit
abbrev entV (k t i:Int) (a:Option Addr) (n c:Nat):Value:=.agg #[.int .i64 k,.int .i64 t,.int .i64 i,.slice a n c]
abbrev entB (k t i:Int) (a:Option Addr) (n c:Nat):Obj:=.cells #[.int .i64 k,.int .i64 t,.int .i64 i,.slice a n c] 64
theorem zar {w:World} {B:Nat} {k t i:Int} {a:Option Addr} {n c:Nat} (h:w.heap[B]? = some (entB k t i a n c)) :
  w.cell? ⟨B,0,none⟩=some (.int .i64 k)∧w.cell? ⟨B,1,none⟩=some (.int .i64 t)∧w.cell? ⟨B,2,none⟩=some (.int .i64 i)∧w.cell? ⟨B,3,none⟩=some (.slice a n c):=by
 refine⟨?_,?_,?_,?_⟩ <;> rw[cell_of_row _ _ _ _ _ _ h] <;> rfl
def zrl (k t i:Int) (n:Nat):Prop:=(1≤k∧k≤3)∧(1≤t∧t≤1099511627776)∧(1≤i∧i≤1099511627776)∧(k≠1∨n=0)
theorem zp3 (k t i:Int) (a:Option Addr) (n c:Nat) (w:World) (h:zrl k t i n) :
  Calls Tryz.prog 134 #[entV k t i a n c] w fun e w'=>e=.returned (.bool true)∧Below w.heap.size w w':=by
 obtain⟨h1,h2,h3,h4⟩:=h;obtain⟨c0,c1,c2,c3⟩:=zar (zad w (entB k t i a n c));have bA:=zaa (show Below w.heap.size w (w.alloc (entB k t i a n c)) from(Below.refl _ _).alloc (Nat.le_refl _) _);have H2:=zaa h2;have H3:=zaa h3;clear h2 h3;go_enter Tryz.func134,Tryz.ntmps134
 go_wp2_with fail
 generalize w.alloc _=W at *;refine(zb6 k 1 3 _ h1).mono ?_;rintro e w1 ⟨rfl,rfl⟩
 go_wp2_with fail
 refine(zb6 t 1 1099511627776 _ (za H2)).mono ?_;rintro e w2 ⟨rfl,rfl⟩
 go_wp2_with fail
 refine(zb6 i 1 1099511627776 _ (za H3)).mono ?_;rintro e w3 ⟨rfl,rfl⟩;rcases h4 with h4|rfl
 ·go_wp2
  go_ret
  exact⟨rfl,za bA⟩
 ·go_wp2
  all_goals (go_ret;exact⟨rfl,za bA⟩)
theorem zzh (k t i:Int) (a:Option Addr) (n c:Nat) (w:World) (h:¬ zrl k t i n) :
  Calls Tryz.prog 134 #[entV k t i a n c] w fun e w'=>e=.returned (.bool false)∧Below w.heap.size w w':=by
 obtain⟨c0,c1,c2,c3⟩:=zar (zad w (entB k t i a n c));have bA:=zaa (show Below w.heap.size w (w.alloc (entB k t i a n c)) from(Below.refl _ _).alloc (Nat.le_refl _) _);have H:=zaa h;clear h;go_enter Tryz.func134,Tryz.ntmps134
 go_wp2_with fail
 generalize w.alloc _=W at *;by_cases h1:1≤k∧k≤3
 ·refine(zb6 k 1 3 _ h1).mono ?_;rintro e w1 ⟨rfl,rfl⟩
  go_wp2_with fail
  by_cases h2:1≤t∧t≤1099511627776
  ·refine(zb6 t 1 1099511627776 _ h2).mono ?_;rintro e w2 ⟨rfl,rfl⟩
   go_wp2_with fail
   by_cases h3:1≤i∧i≤1099511627776
   ·refine(zb6 i 1 1099511627776 _ h3).mono ?_;rintro e w3 ⟨rfl,rfl⟩;have hk:k=1:=Classical.byContradiction fun hk=>za H ⟨h1,h2,h3,.inl hk⟩;have hn:¬ n=0:=fun hn=>za H ⟨h1,h2,h3,.inr hn⟩;subst hk;have hn0:((n:Int)==0)=false:=by simpa using hn
    clear H h1 h2 h3
    go_wp2
    go_ret
    exact⟨rfl,za bA⟩
   ·have H3:=zaa h3;clear h3 h2 h1 H;refine(zf6 i 1 1099511627776 _ (za H3)).mono ?_;rintro e w3 ⟨rfl,rfl⟩
    go_wp2
    go_ret
    exact⟨rfl,za bA⟩
  ·have H2:=zaa h2;clear h2 h1 H;refine(zf6 t 1 1099511627776 _ (za H2)).mono ?_;rintro e w3 ⟨rfl,rfl⟩
   go_wp2
   go_ret
   exact⟨rfl,za bA⟩
 ·have H1:=zaa h1;clear h1 H;refine(zf6 k 1 3 _ (za H1)).mono ?_;rintro e w3 ⟨rfl,rfl⟩
  go_wp2
  go_ret
  exact⟨rfl,za bA⟩
theorem BytesAt.grew {w w':World} {a sp sp':Option Addr} {l:List Nat} (hb:BytesAt w a l) (hg:Grew w sp w' sp') (hne:∀ b off,0<l.length→a=some ⟨b,off,none⟩→blk sp≠some b):BytesAt w' a l:=by
 refine⟨hb.lt,fun i hi=>?_⟩;obtain⟨b,off,h1,h2⟩:=hb.cell i hi;refine⟨b,off,h1,?_⟩;rw[World.cell?_of_block (w:=w) (w':=w') (hg.grown.block b (World.block_lt_of_cell? _ _ h2) (fun e=>hne b off (by omega) h1 e.symm))];exact h2
theorem zpb (base:Nat) (sp:Option Addr) (n0 c:Nat) (l:List Nat) (dp:Option Addr) (m dc:Nat) (d:List Nat) (w:World) (hn0:l.length=n0) (hown:OwnB base w sp c l) (hl:l.length≤1099511627776) (hbase:base≤w.heap.size)
  (hm:d.length=m) (hB:BytesAt w dp d) (hz:dp=none→dc=0) (hne:∀ b off,0<d.length→dp=some ⟨b,off,none⟩→blk sp≠some b) (hd:d.length≤1099511627776) :
  Calls Tryz.prog 167 #[.slice sp n0 c,.slice dp m dc] w fun e w'=>∃ sp' n' c',e=.returned (.slice sp' n' c')∧Hid ((l++(za2 m++d)).length=n')∧OwnB base w' sp' c' (l++(za2 m++d))∧Grew w sp w' sp':=by
 have HB:=zaa hB;have HZ:=zaa hz;have HNE:=zaa hne;have HM:=zaa hm;have HO:=zaa hown;have HN:=zaa hn0;have HD:=zaa hd;clear hB hz hne hm hown hn0 hd;go_enter Tryz.func167,Tryz.ntmps167
 go_wp2_with fail
 refine(zej base sp n0 c l m _ (za HN) (za HO) hl (by have:=za HM;have:=za HD;omega) hbase).mono ?_;rintro e w1 ⟨sp1,n1,c1,rfl,hn1,ho1,hg1⟩;have hB1:=zaa ((za HB).grew hg1 (za HNE));have HG1:=zaa hg1;have HO1:=zaa ho1
 have hlen:=zaa (show(l++za2 m).length+m≤140737488355328 by
  have:=(zda m).2;have:=za HM;have:=za HD
  rw[List.length_append];omega)
 have hbw:=zaa (Nat.le_trans hbase hg1.grown.size);clear hg1 ho1
 go_wp2_with (at_builtin;refine zby rfl (.tmp 8) (.tmp 9) rfl base sp1 n1 c1 (l++za2 m) rfl (za hn1) (za HO1) dp m dc rfl d (za HM) (za hB1) (za HZ) (za hlen) (za hbw) ?_;intro sp2 n2 c2 W2 hn2 ho2 hg2 hl2)
 rw[List.append_assoc] at hn2 ho2;go_ret
 exact⟨sp2,n2,c2,rfl,hn2,ho2,(za HG1).trans ⟨hg2,hl2⟩⟩
theorem Grew.apart {W W':World} {sp sp':Option Addr} (hg:Grew W sp W' sp') {b:Nat} (hb:b<W.heap.size) (h:blk sp≠some b):blk sp'≠some b:=by
 intro e;rcases hg.lies b e with h1|h1
 ·exact h h1
 ·omega
def zct (k t i:Nat) (d:List Nat):List Nat:=k::(za2 t++(za2 i++(za2 d.length++d)))
theorem zpq (l:List Nat) (k t i:Nat) (d:List Nat):l++[k]++za2 t++za2 i++(za2 d.length++d)=l++zct k t i d:=by
 simp[zct,List.append_assoc]
theorem znt (base:Nat) (sp:Option Addr) (n0 c:Nat) (l:List Nat) (k t i:Nat) (dp:Option Addr) (m dc:Nat) (d:List Nat) (w:World) (hn0:l.length=n0) (hown:OwnB base w sp c l) (hl:l.length≤549755813888) (hbase:base≤w.heap.size)
  (hk:k<256) (ht:t≤1099511627776) (hi:i≤1099511627776)
  (hm:d.length=m) (hB:BytesAt w dp d) (hz:dp=none→dc=0) (hne:∀ b off,0<d.length→dp=some ⟨b,off,none⟩→blk sp≠some b) (hd:d.length≤549755813888) :
  Calls Tryz.prog 135 #[.slice sp n0 c,entV k t i dp m dc] w fun e w'=>∃ sp' n' c',e=.returned (.slice sp' n' c')∧Hid ((l++zct k t i d).length=n')∧OwnB base w' sp' c' (l++zct k t i d)∧Grew w sp w' sp':=by
 have h0:=zad w (entB k t i dp m dc);obtain⟨c0,c1,c2,c3⟩:=zar h0;have bA:Below w.heap.size w (w.alloc (entB k t i dp m dc)):=(Below.refl _ _).alloc (Nat.le_refl _) _;have HA:=zaa bA;have hlt:w.heap.size<(w.alloc (entB k t i dp m dc)).heap.size:=by rw[size_alloc];omega
 have hspB:blk sp≠some w.heap.size:=fun e=>by have:=(hown.blk_lt _ e).2;omega
 have HO:=zaa (hown.later bA);have HB:=zaa (hB.later bA);have HN:=zaa hn0;have HZ:=zaa hz;have HM:=zaa hm;have HD:=zaa hd;have Hb:=zaa (Nat.le_trans hbase bA.size);have HNE:=zaa (show ∀ b off,0<d.length→dp=some ⟨b,off,none⟩→b<(w.alloc (entB k t i dp m dc)).heap.size∧blk sp≠some b from fun b off h1 h2=>⟨Nat.lt_of_lt_of_le (zfe hB h1 b off h2) bA.size,hne b off h1 h2⟩);have HX:=zaa h0;have Hlt:=zaa hlt;have HspB:=zaa hspB;clear h0 bA hown hB hn0 hz hm hd hne hlt hspB hbase;go_enter Tryz.func135,Tryz.ntmps135
 have hlit:=zaa (zbx (l:=[k]) (zad (w.alloc (entB k t i dp m dc)) (.cells #[.int .u8 (k:Int)] 5)) (by intro c hc;simp only[List.mem_cons,List.not_mem_nil,or_false] at hc;omega));rw[size_alloc] at hlit;have bL:=zaa (show Below (w.alloc (entB k t i dp m dc)).heap.size (w.alloc (entB k t i dp m dc)) ((w.alloc (entB k t i dp m dc)).alloc (.cells #[.int .u8 (k:Int)] 5)) from(Below.refl _ _).alloc (Nat.le_refl _) _);clear c1 c2 c3
 go_wp2_with (at_builtin;refine zby rfl (.tmp 5) (.tmp 9) rfl base sp n0 c l rfl (za HN) (by exact(za HO).later (za bL)) (some ⟨w.heap.size+1,0,none⟩) 1 1 rfl [k] rfl (by exact za hlit) (fun h=>by cases h) (by omega) (by exact Nat.le_trans (za Hb) (za bL).size) ?_;intro sp1 n1 k1 W1 hn1 ho1 hg1 hl1;have G1:=zaa (Grew.aside (za bL) ⟨hg1,hl1⟩);obtain⟨_,d1,d2,d3⟩:=zar ((za G1).block (za HX) (za HspB));have O1:=zaa ho1;clear hg1 hl1 ho1)
 clear d2 d3;refine(zej base sp1 n1 k1 (l++[k]) t _ (za hn1) (za O1) (by rw[List.length_append];simp only[List.length_cons,List.length_nil];omega) ht (by exact Nat.le_trans (za Hb) (za G1).grown.size)).mono ?_;rintro e W2 ⟨sp2,n2,k2,rfl,hn2,ho2,hg2⟩;have G2:=zaa ((za G1).trans hg2);have O2:=zaa ho2;obtain⟨_,d1,d2,d3⟩:=zar ((za G2).block (za HX) (za HspB));clear hg2 ho2 d1 d3 O1 G1
 go_wp2_with fail
 refine(zej base sp2 n2 k2 (l++[k]++za2 t) i _ (za hn2) (za O2) (by have:=zcd t ht;rw[List.length_append,List.length_append];simp only[List.length_cons,List.length_nil];omega) hi (by exact Nat.le_trans (za Hb) (za G2).grown.size)).mono ?_;rintro e W3 ⟨sp3,n3,k3,rfl,hn3,ho3,hg3⟩;have G3:=zaa ((za G2).trans hg3);have O3:=zaa ho3;obtain⟨_,d1,d2,d3⟩:=zar ((za G3).block (za HX) (za HspB));have B3:=zaa ((za HB).grew (za G3) (fun b off h1 h2=>(za HNE b off h1 h2).2));have N3:=zaa (show ∀ b off,0<d.length→dp=some ⟨b,off,none⟩→blk sp3≠some b from fun b off h1 h2=>(za G3).apart (za HNE b off h1 h2).1 (za HNE b off h1 h2).2);clear hg3 ho3 d1 d2 O2 G2
 go_wp2_with fail
 refine(zpb base sp3 n3 k3 (l++[k]++za2 t++za2 i) dp m dc d _ (za hn3) (za O3) (by have:=zcd t ht;have:=zcd i hi;rw[List.length_append,List.length_append,List.length_append];simp only[List.length_cons,List.length_nil];omega) (by exact Nat.le_trans (za Hb) (za G3).grown.size) (za HM) (za B3) (za HZ) (za N3) (by have:=za HD;omega)).mono ?_;rintro e W4 ⟨sp4,n4,k4,rfl,hn4,ho4,hg4⟩;have G4:=zaa (Grew.aside (za HA) ((za G3).trans hg4));have hm:=za HM;subst hm;rw[zpq] at hn4 ho4;clear hg4
 go_wp2
 go_ret
 exact⟨sp4,n4,k4,rfl,hn4,ho4,za G4⟩
theorem zp9 (k t i:Nat) (dp:Option Addr) (m dc:Nat) (d:List Nat) (w:World) (h:zrl k t i m) (hm:d.length=m) (hB:BytesAt w dp d) (hz:dp=none→dc=0) (hd:d.length≤2048) :
  Calls Tryz.prog 103 #[entV k t i dp m dc] w fun e w'=>∃ sp n c,e=.returned (.tuple #[.slice sp n c,.int .i64 0])∧Hid ((zct k t i d).length=n)∧OwnB w.heap.size w' sp c (zct k t i d)∧Below w.heap.size w w':=by
 have h0:=zad w (entB k t i dp m dc);obtain⟨c0,c1,c2,c3⟩:=zar h0;have bA:Below w.heap.size w (w.alloc (entB k t i dp m dc)):=(Below.refl _ _).alloc (Nat.le_refl _) _;have HA:=zaa bA;have HX:=zaa h0;have HB:=zaa (hB.later bA);have HM:=zaa hm;have HZ:=zaa hz;have H:=zaa h;have hm2:m≤2048:=by omega
 clear h0 bA hB hm hz h;go_enter Tryz.func103,Tryz.ntmps103
 go_wp2_with fail
 refine(zp3 k t i dp m dc _ (za H)).mono ?_;rintro e W1 ⟨rfl,b1⟩;obtain⟨e0,e1,e2,e3⟩:=zar ((b1.block _ (by rw[size_alloc];omega)).trans (za HX));have B1:=zaa ((za HB).later b1);have HA1:=zaa ((za HA).trans (b1.mono (za HA).size));clear b1
 go_wp2_with fail
 refine(znt W1.heap.size none 0 0 [] k t i dp m dc d _ rfl (OwnB.ofNil _ _) (by simp) (Nat.le_refl _) (by have:=(za H).1;omega) (by have:=(za H).2.1;omega) (by have:=(za H).2.2.1;omega) (za HM) (za B1) (za HZ) (fun _ _ _ _ h=>by cases h) (by omega)).mono ?_;rintro e W2 ⟨sp,n,c,rfl,hn,ho,hg⟩;rw[List.nil_append] at hn ho;have HF:=zaa ((za HA1).trans ((hg.below (OwnB.ofNil _ W1.heap.size) (Nat.le_refl _)).mono (za HA1).size));have HO:=zaa (ho.mono (za HA1).size);clear hg ho
 go_wp2
 go_ret2
 exact⟨sp,n,c,rfl,hn,za HO,za HF⟩
theorem zsd (k t i:Int) (dp:Option Addr) (m dc:Nat) (w:World) (h:¬ zrl k t i m) :
  Calls Tryz.prog 103 #[entV k t i dp m dc] w fun e w'=>e=.returned (.tuple #[.slice none 0 0,.int .i64 2])∧Below w.heap.size w w':=by
 obtain⟨c0,c1,c2,c3⟩:=zar (zad w (entB k t i dp m dc));have bA:Below w.heap.size w (w.alloc (entB k t i dp m dc)):=(Below.refl _ _).alloc (Nat.le_refl _) _;have HA:=zaa bA;have H:=zaa h;clear bA h;go_enter Tryz.func103,Tryz.ntmps103
 go_wp2_with fail
 refine(zzh k t i dp m dc _ (za H)).mono ?_;rintro e W1 ⟨rfl,b1⟩;have HA1:=zaa ((za HA).trans (b1.mono (za HA).size))
 go_wp2
 go_ret2
 exact⟨rfl,za HA1⟩
theorem zoc (k t i:Int) (dp:Option Addr) (m dc:Nat) (w:World) (h:zrl k t i m) (hd:2048<m) :
  Calls Tryz.prog 103 #[entV k t i dp m dc] w fun e w'=>e=.returned (.tuple #[.slice none 0 0,.int .i64 6])∧Below w.heap.size w w':=by
 have h0:=zad w (entB k t i dp m dc);obtain⟨c0,c1,c2,c3⟩:=zar h0;have bA:Below w.heap.size w (w.alloc (entB k t i dp m dc)):=(Below.refl _ _).alloc (Nat.le_refl _) _;have HA:=zaa bA;have H:=zaa h;have HX:=zaa h0;clear bA h h0;go_enter Tryz.func103,Tryz.ntmps103
 go_wp2_with fail
 refine(zp3 k t i dp m dc _ (za H)).mono ?_;rintro e W1 ⟨rfl,b1⟩;obtain⟨e0,e1,e2,e3⟩:=zar ((b1.block _ (by rw[size_alloc];omega)).trans (za HX));have HA1:=zaa ((za HA).trans (b1.mono (za HA).size));clear b1
 go_wp2
 go_ret2
 exact⟨rfl,za HA1⟩
def zjw (k:Nat) (l:List Nat):List Nat:=zbl (k::l)
theorem zdc (k:Nat) (l:List Nat):(zjw k l).length=9+l.length:=by unfold zjw;rw[zcg,List.length_cons];omega
theorem zA1 {k:Nat} {l:List Nat} (hk:k<256) (hl:∀ c∈l,c<256) (h:l.length≤60000):∀ c∈zjw k l,c<256 :=
 zwz (l:=k::l) (fun c hc=>by
  rcases List.mem_cons.1 hc with rfl|hc
  ·exact hk
  ·exact hl c hc) (by rw[List.length_cons];omega)
theorem zgz (k:Nat) (a:Option Addr) (n c:Nat) (l:List Nat) (w:World) (hk:k<256) (hn:l.length=n) (hb:BytesAt w a l) (hz:a=none→c=0) (hl:n≤60000) :
  Calls Tryz.prog 104 #[.int .u8 (k:Int),.slice a n c] w fun e w'=>∃ g m,e=.returned (.slice (some ⟨g,0,none⟩) m m)∧Hid ((zjw k l).length=m)∧OwnB w.heap.size w' (some ⟨g,0,none⟩) m (zjw k l)∧Below w.heap.size w w':=by
 have b1:Below w.heap.size w (w.alloc (.cells #[.int .u8 (k:Int)] 5)):=(Below.refl _ _).alloc (Nat.le_refl _) _;have o1:=zaa (show OwnB w.heap.size (w.alloc (.cells #[.int .u8 (k:Int)] 5)) (some ⟨w.heap.size,0,none⟩) 1 [k] from OwnB.ofBlock (l:=[k]) (zad w _) (Nat.le_refl _) (by simpa using hk) (by simp[maxLen]));have HB:=zaa (hb.later b1);have B1:=zaa b1;have HN:=zaa hn;have HZ:=zaa hz;have HL:=zaa hb.lt;have HS:=zaa (show([k]:List Nat).length+n≤140737488355328 by simp;omega);clear hb b1 hn hz;go_enter Tryz.func104,Tryz.ntmps104
 go_wp2_with (at_builtin;refine zas rfl (.tmp 9) (.tmp 10) rfl w.heap.size (some ⟨w.heap.size,0,none⟩) 1 1 [k] rfl rfl (by exact za o1) a n c rfl l (za HN) (by exact za HB) (za HZ) (za HS) (by exact(za B1).size) ?_;intro sp2 n2 c2 W2 hn2 ho2 hg2 hb2)
 have O2:=zaa ho2;have B2:=zaa ((za B1).trans hb2);have FC:=zaa (zw0 sp2 n2 c2 (k::l) W2 (za hn2) (by exact ho2.bytes) (by have:=za HN;rw[List.length_cons];omega));have HM:=zaa (show(zjw k l).length=8+n2 by unfold zjw;rw[zcg,← za hn2];rfl);clear ho2 hg2 hb2
 go_wp2_with fail
 go_at_call 136
 refine(za FC).mono ?_;rintro e W3 ⟨g,rfl,b3,hg,hcs⟩
 have O3:=zaa (show OwnB w.heap.size W3 (some ⟨g,0,none⟩) (8+n2) (zjw k l) by
  have h0:=OwnB.ofBlock (base:=w.heap.size) hcs (Nat.le_trans (za B2).size hg) (zA1 hk (za HL) (by have:=za HN;omega)) (by rw[zcg,List.length_cons];have:=za HN;simp only[maxLen];omega);rw[show(zbl (k::l)).length=8+n2 from za HM] at h0
  exact h0)
 have B3:=zaa ((za B2).trans (b3.mono (za B2).size));generalize 8+n2=m at *;clear b3 hg hcs
 go_wp2
 go_ret
 exact⟨g,m,rfl,HM,za O3,za B3⟩
def zf1 (i t:Nat):List Nat:=zjw 1 (za2 i++za2 t)
def zb2 (t v:Nat):List Nat:=zjw 2 (za2 t++za2 v)
theorem zj5 (i t:Nat) (w:World) (hi:i≤1099511627776) (ht:t≤1099511627776) :
  Calls Tryz.prog 123 #[.agg #[.int .i64 (i:Int),.int .i64 (t:Int)]] w fun e w'=>∃ g m,e=.returned (.slice (some ⟨g,0,none⟩) m m)∧Hid ((zf1 i t).length=m)∧OwnB w.heap.size w' (some ⟨g,0,none⟩) m (zf1 i t)∧Below w.heap.size w w':=by
 have b1:Below w.heap.size w (w.alloc (.cells #[.int .i64 (i:Int),.int .i64 (t:Int)] 31)):=(Below.refl _ _).alloc (Nat.le_refl _) _;have X1:=zad w (.cells #[.int .i64 (i:Int),.int .i64 (t:Int)] 31);obtain⟨c0,c1,_,_⟩:=zaz X1;have B1:=zaa b1;have XX:=zaa X1;have hli:=zbt i hi;have hlt:=zbt t ht;have N1:=zaa (fun W=>zm7 i W hi);have N2:=zaa (fun W=>zm7 t W ht);clear b1 X1 hi ht;go_enter Tryz.func123,Tryz.ntmps123
 go_wp2_with fail
 clear c0 c1;generalize w.alloc _=W1 at *;go_at_call 155
 refine(za N1 _).mono ?_;rintro e W2 ⟨sp2,n2,k2,rfl,hn2,o2,b2⟩;have O2:=zaa (o2.mono (za B1).size);have B2:=zaa ((za B1).trans (b2.mono (za B1).size));have XX:=zaa (zac b2 (za XX));obtain⟨c0,c1,_,_⟩:=zaz (za XX);clear b2 o2
 go_wp2_with fail
 clear c0 c1;go_at_call 155
 refine(za N2 _).mono ?_;rintro e W3 ⟨sp3,n3,k3,rfl,hn3,o3,b3⟩;have O2:=zaa ((za O2).later b3);have Y3:=zaa o3.bytes;have Z3:=zaa (show sp3=none→k3=0 from(show Bx W2.heap.size W3 sp3 k3 (za2 t) from o3.toBx).nil0);have B3:=zaa ((za B2).trans (b3.mono (za B2).size));clear b3 o3;have HS:=zaa (show(za2 i).length+n3≤140737488355328 by rw[← za hn3];omega)
 go_wp2_with (at_builtin;refine zas rfl (.tmp 19) (.tmp 20) rfl w.heap.size sp2 n2 k2 (za2 i) rfl (za hn2) (by exact za O2) sp3 n3 k3 rfl (za2 t) (za hn3) (by exact za Y3) (za Z3) (za HS) (by exact(za B3).size) ?_;intro sp4 n4 c4 W4 hn4 ho4 hg4 hb4)
 have B4:=zaa ((za B3).trans hb4);have FC:=zaa (zgz 1 sp4 n4 c4 (za2 i++za2 t) W4 (by omega) (za hn4) (by exact ho4.bytes) (show sp4=none→c4=0 from(show Bx w.heap.size W4 sp4 c4 (za2 i++za2 t) from ho4.toBx).nil0) (by rw[← za hn4,List.length_append];omega));clear ho4 hg4 hb4
 go_wp2_with fail
 go_at_call 104
 refine(za FC).mono ?_;rintro e W5 ⟨g,m,rfl,hm,o5,b5⟩;have O5:=zaa (o5.mono (za B4).size);have B5:=zaa ((za B4).trans (b5.mono (za B4).size));clear o5 b5
 go_wp2
 go_ret
 exact⟨g,m,rfl,hm,za O5,za B5⟩
theorem zh0 (t v:Nat) (w:World) (ht:t≤1099511627776) (hv:v≤9) :
  Calls Tryz.prog 72 #[.agg #[.int .i64 (t:Int),.int .i64 (v:Int)]] w fun e w'=>∃ g m,e=.returned (.tuple #[.slice (some ⟨g,0,none⟩) m m,.int .i64 0])∧Hid ((zb2 t v).length=m)∧OwnB w.heap.size w' (some ⟨g,0,none⟩) m (zb2 t v)∧Below w.heap.size w w':=by
 have b1:Below w.heap.size w (w.alloc (.cells #[.int .i64 (t:Int),.int .i64 (v:Int)] 29)):=(Below.refl _ _).alloc (Nat.le_refl _) _;have X1:=zad w (.cells #[.int .i64 (t:Int),.int .i64 (v:Int)] 29);obtain⟨c0,c1,_,_⟩:=zaz X1;have B1:=zaa b1;have hlt:=zbt t ht;have hlv:=zbt v (by omega);have N1:=zaa (fun W=>zse t v W ht hv);clear b1 X1 ht hv;go_enter Tryz.func72,Tryz.ntmps72
 go_wp2_with fail
 clear c0 c1;generalize w.alloc _=W1 at *;go_at_call 111
 refine(za N1 _).mono ?_;rintro e W2 ⟨sp2,n2,k2,rfl,hn2,o2,b2⟩;have B2:=zaa ((za B1).trans (b2.mono (za B1).size));have FC:=zaa (zgz 2 sp2 n2 k2 (za2 t++za2 v) W2 (by omega) (za hn2) (by exact o2.bytes) (show sp2=none→k2=0 from(show Bx W1.heap.size W2 sp2 k2 (za2 t++za2 v) from o2.toBx).nil0) (by rw[← za hn2,List.length_append];omega));clear b2 o2
 go_wp2_with fail
 go_at_call 104
 refine(za FC).mono ?_;rintro e W5 ⟨g,m,rfl,hm,o5,b5⟩;have O5:=zaa (o5.mono (za B2).size);have B5:=zaa ((za B2).trans (b5.mono (za B2).size));clear o5 b5
 go_wp2
 go_ret2
 exact⟨g,m,rfl,hm,za O5,za B5⟩
theorem zn7 (t v:Int) (w:World) (h:¬ (0≤t∧t≤1099511627776∧0≤v∧v≤9)) :
  Calls Tryz.prog 72 #[.agg #[.int .i64 t,.int .i64 v]] w fun e w'=>e=.returned (.tuple #[.slice none 0 0,.int .i64 2])∧Below w.heap.size w w':=by
 have b1:Below w.heap.size w (w.alloc (.cells #[.int .i64 t,.int .i64 v] 29)):=(Below.refl _ _).alloc (Nat.le_refl _) _;have X1:=zad w (.cells #[.int .i64 t,.int .i64 v] 29);obtain⟨c0,c1,_,_⟩:=zaz X1;have B1:=zaa b1;have N1:=zaa (fun W=>zvd t v W h);clear b1 X1 h;go_enter Tryz.func72,Tryz.ntmps72
 go_wp2_with fail
 clear c0 c1;generalize w.alloc _=W1 at *;go_at_call 111
 refine(za N1 _).mono ?_;rintro e W2 ⟨rfl,b2⟩;have B2:=zaa ((za B1).trans (b2.mono (za B1).size));clear b2
 go_wp2
 go_ret2
 exact⟨rfl,za B2⟩
theorem zAb (R:Nat) (a:Option Addr) (c:Nat) (l:List Nat) (x y k:Nat) (w:World) (h:RdAt R w a c l k) (hl:l.length≤maxLen) :
  Calls Tryz.prog 227 #[.pointer (some ⟨R,0,none⟩),.int .i64 (x:Int),.int .i64 (y:Int)] w (zAn R a c l w (fun n _ v=>v=.int .i64 ((n:Nat):Int)) (zkc l x y k)):=by
 have HL:=zaa hl;have H:=zaa h;clear h hl;go_enter Tryz.func227,Tryz.ntmps227
 go_wp2_with fail
 by_cases hk:k<l.length
 ·have hx:=zcv (za H).bytes.lt k;refine(zAi R a c l k _ (za H) hk (za HL)).mono ?_;rintro e W1 ⟨rfl,hr1,hg1⟩;generalize hz:l.getD k 0=z at *;have HR:=zaa hr1;have HG:=zaa hg1;have HZ:=zaa hz;clear hr1 hg1 hz
  go_wp2_with fail
  by_cases hw:x≤z∧z≤y
  ·refine(zb6 z x y _ (by omega)).mono ?_;rintro e W2 ⟨rfl,rfl⟩;have HE:=zaa (show zkc l x y k=.ok (z,k+1) by rw[zkc,if_pos hk,za HZ,if_pos hw]);clear hw
   go_wp2
   go_ret
   rw[za HE];exact⟨za HG,⟨_,rfl,rfl⟩,za HR⟩
  ·refine(zf6 z x y _ (by omega)).mono ?_;rintro e W2 ⟨rfl,rfl⟩;have HE:=zaa (show zkc l x y k=.error 4 by rw[zkc,if_pos hk,za HZ,if_neg hw]);clear hw
   go_wp2_with fail
   refine(za0 4 _).mono ?_;rintro e W2 ⟨rfl,rfl⟩
   go_wp2
   rw[za HE];exact⟨rfl,za HG,rfl⟩
 ·refine(zp6 R a c l k _ (za H) (Nat.le_antisymm (za H).le (by omega))).mono ?_;rintro e W1 ⟨rfl,hr1,hg1⟩;have HE:=zaa (show zkc l x y k=.error 3 by rw[zkc,if_neg hk])
  go_wp2
  rw[za HE];exact⟨rfl,hg1,rfl⟩
theorem zm9 (R:Nat) (a:Option Addr) (c:Nat) (l:List Nat) (k:Nat) (w:World) (h:RdAt R w a c l k) (hl:l.length≤maxLen) :
  Calls Tryz.prog 228 #[.pointer (some ⟨R,0,none⟩)] w (zAn R a c l w (fun n _ v=>v=.int .i64 ((n:Nat):Int)) (zju l k)):=by
 have HL:=zaa hl;have H:=zaa h;clear h hl;go_enter Tryz.func228,Tryz.ntmps228
 go_wp2_with fail
 refine(zkb R a c l k _ (za H) (za HL)).mono ?_;rintro e W1 ⟨hg1,hm1⟩;cases ht:zbh l k with
 |error x =>
  rw[ht] at hm1;obtain rfl:=hm1;have HE:=zaa (show zju l k=.error x by rw[zju,ht])
  go_wp2
  rw[za HE];exact⟨rfl,hg1,rfl⟩
 |ok p =>
  obtain⟨n,k2⟩:=p;rw[ht] at hm1;obtain⟨⟨_,rfl,rfl⟩,hr1⟩:=hm1;by_cases h0:n=0
  ·have HE:=zaa (show zju l k=.error 4 by rw[zju,ht];simp only[if_pos h0])
   go_wp2_with fail
   refine(za0 4 _).mono ?_;rintro e W2 ⟨rfl,rfl⟩
   go_wp2
   rw[za HE];exact⟨rfl,hg1,rfl⟩
  ·have HE:=zaa (show zju l k=.ok (n,k2) by rw[zju,ht];simp only[if_neg h0])
   go_wp2
   go_ret
   rw[za HE];exact⟨hg1,⟨_,rfl,rfl⟩,hr1⟩
theorem zry (R:Nat) (a:Option Addr) (c:Nat) (l:List Nat) (kd k:Nat) (w:World) (h:RdAt R w a c l k) (hl:l.length≤maxLen) :
  Calls Tryz.prog 230 #[.pointer (some ⟨R,0,none⟩),.int .i64 (kd:Int)] w (zAn R a c l w (fun n _ v=>v=.int .i64 ((n:Nat):Int)) (zfu l kd k)):=by
 have HL:=zaa hl;have H:=zaa h;clear h hl;go_enter Tryz.func230,Tryz.ntmps230
 go_wp2_with fail
 refine(zkb R a c l k _ (za H) (za HL)).mono ?_;rintro e W1 ⟨hg1,hm1⟩;cases ht:zbh l k with
 |error x =>
  rw[ht] at hm1;obtain rfl:=hm1;have HE:=zaa (show zfu l kd k=.error x by rw[zfu,ht])
  go_wp2
  rw[za HE];exact⟨rfl,hg1,rfl⟩
 |ok p =>
  obtain⟨n,k2⟩:=p;rw[ht] at hm1;obtain⟨⟨_,rfl,rfl⟩,hr1⟩:=hm1;by_cases h0:kd=1∧0<n
  ·have HE:=zaa (show zfu l kd k=.error 4 by rw[zfu,ht];simp only[if_pos h0]);obtain⟨rfl,hn⟩:=h0
   go_wp2_with fail
   refine(za0 4 _).mono ?_;rintro e W2 ⟨rfl,rfl⟩
   go_wp2
   rw[za HE];exact⟨rfl,hg1,rfl⟩
  ·by_cases h1:2048<n
   ·have HE:=zaa (show zfu l kd k=.error 6 by rw[zfu,ht];simp only[if_neg h0,if_pos h1]);have hk:¬ kd=1:=fun e=>h0 ⟨e,by omega⟩;clear h0
    go_wp2_with fail
    refine(za0 6 _).mono ?_;rintro e W2 ⟨rfl,rfl⟩
    go_wp2
    rw[za HE];exact⟨rfl,hg1,rfl⟩
   ·have HE:=zaa (show zfu l kd k=.ok (n,k2) by rw[zfu,ht];simp only[if_neg h0,if_neg h1]);by_cases hk:kd=1
    ·have hn:n=0:=by omega
     subst hk hn;clear h0
     go_wp2
     go_ret
     rw[za HE];exact⟨hg1,⟨_,rfl,rfl⟩,hr1⟩
    ·clear h0
     go_wp2
     go_ret
     rw[za HE];exact⟨hg1,⟨_,rfl,rfl⟩,hr1⟩
theorem zBi (R:Nat) (a:Option Addr) (c:Nat) (l:List Nat) (n k:Nat) (w:World) (h:RdAt R w a c l k) (hl:l.length≤140737488355328) (hc:l.length≤c) (hz:a=none→c=0) :
  Calls Tryz.prog 229 #[.pointer (some ⟨R,0,none⟩),.int .i64 (n:Int)] w (zAn R a c l w (fun d w' v=>∃ sp m' c',v=.slice sp m' c'∧Hid ((d:List Nat).length=m')∧OwnB w.heap.size w' sp c' d) (zgp l n k)):=by
 have c0:=h.c0;have c1:=h.c1;have f1:=h.f1;have hk:=h.le;have H:=zaa h;clear h;go_enter Tryz.func229,Tryz.ntmps229
 by_cases hs:l.length - k<n
 ·have HE:=zaa (show zgp l n k=.error 3 by rw[zgp,if_pos hs])
  go_wp2_with fail
  go_quiet (fail)
  go_wp2_with fail
  refine(za0 3 _).mono ?_;rintro e W2 ⟨rfl,rfl⟩
  go_wp2
  rw[za HE];exact⟨rfl,za4 _ _ _,rfl⟩
 ·have HE:=zaa (show zgp l n k=.ok ((l.drop k).take n,k+n) by rw[zgp,if_neg hs]);have hsl:∀ u,(Instr.slice 62 (.slice a l.length c) (some (.int .i64 (k:Int))) (some (.int .i64 ((k:Int)+(n:Int)))) none).run Tryz.prog u=.ok (.slice (slp a k c) n (c - k)) u:=fun u=>by
   have:=zdi a l.length c k (k+n) (by omega) (by omega) u;rw[Nat.add_sub_cancel_left] at this;rw[← this,Int.natCast_add]
  have HB:=zaa ((((za H).bytes).drop k c hc).take n);have HLen:=zaa (show((l.drop k).take n).length=n by rw[List.length_take,List.length_drop];omega)
  have Hz:=zaa (show slp a k c=none→c - k=0 by
   intro e;unfold slp at e;split at e
   ·omega
   ·cases a with
    |none=>have:=hz rfl;omega
    |some x=>cases e)
  generalize slp a k c=p at *
  go_wp2_with fail
  go_quiet (fail)
  go_wp2_with fail
  have hadd:IntKind.i64.wrap ((k:Int)+(n:Int))=(k:Int)+(n:Int):=by rw[IntKind.wrap_i64];omega
  have HD:=zaa (show BytesAt (w.drewN nq).drew p ((l.drop k).take n) from⟨(za HB).lt,(za HB).cell⟩);have HD':=zaa (show BytesAt (w.drewN nq) p ((l.drop k).take n) from⟨(za HB).lt,(za HB).cell⟩)
  go_region_held3 (fun w'=>w'.cell? ⟨R,0,none⟩=some (.slice a l.length c)∧w'.cell? ⟨R,1,none⟩=some (.int .i64 (k:Int))∧(Instr.slice 62 (.slice a l.length c) (some (.int .i64 (k:Int))) (some (.int .i64 ((k:Int)+(n:Int)))) none).run Tryz.prog w'=.ok (.slice p n (c - k)) w')
   (first
    |exact⟨c0,c1,hsl _⟩
    |exact⟨(hg3.cell_far ⟨R,0,none⟩ (World.block_lt_of_cell? _ _ c0) (by intro e;cases e)).trans c0,(hg3.cell_far ⟨R,1,none⟩ (World.block_lt_of_cell? _ _ c1) (by intro e;cases e)).trans c1,hsl _⟩)
   (first
    |(refine zi1 rfl (.const (.slice none 0 0)) (.tmp 33) rfl w.heap.size none 0 0 [] rfl rfl (OwnB.ofNil _ _) p n (c - k) rfl ((l.drop k).take n) (za HLen) (by first|exact za HD|exact za HD') (za Hz) (by simp only[List.length_nil];omega) (Nat.le_refl _) ?_;intro sp3 n3 k3 W3 hn3 ho3 hg3 hl3))
  rw[List.nil_append] at hn3 ho3;have hb3:Below w.heap.size w W3:=⟨hg3.os,hg3.tape,hg3.output,hg3.size,fun j hj=>hg3.block j hj (fun e=>by cases e)⟩
  have hr3:=(za H).later hb3;have f3:=hr3.f1;have c3:=hr3.c1;have HR4:=zaa (hr3.moved (k+n) (by omega));have HG4:=zaa (zag (zb0 (some R) hb3) (zaf W3 R 1 (.int .i64 ((k+n:Nat):Int))));have HO4:=zaa (ho3.far (zaf W3 R 1 (.int .i64 ((k+n:Nat):Int))) (za H).lt);rw[show(((k+n:Nat):Int))=(k:Int)+(n:Int) from Int.natCast_add k n] at HR4 HG4 HO4;clear hb3 hr3 ho3 hg3 hl3
  go_wp2
  go_ret
  rw[za HE];exact⟨za HG4,⟨_,rfl,sp3,n3,k3,rfl,hn3,za HO4⟩,za HR4⟩
abbrev entVal (k t i:Int) (a:Option Addr) (n c:Nat):Value:=.agg #[.int .i64 k,.int .i64 t,.int .i64 i,.slice a n c]
def EntIs (base:Nat) (p:Nat×Nat×Nat×List Nat) (w:World) (v:Value):Prop :=
 ∃ sp m c,v=entVal p.1 p.2.1 p.2.2.1 sp m c∧Hid (p.2.2.2.length=m)∧OwnB base w sp c p.2.2.2
theorem zaq {w:World} {j:Nat} {x y z u:Value} {T:TypeId} (h:w.heap[j]? = some (.cells #[x,y,z,u] T (0,0))):(w.cell? ⟨j,0,none⟩=some x∧w.cell? ⟨j,1,none⟩=some y∧w.cell? ⟨j,2,none⟩=some z∧w.cell? ⟨j,3,none⟩=some u) ∧
  w.frozen? ⟨j,0,none⟩=false∧w.frozen? ⟨j,1,none⟩=false∧w.frozen? ⟨j,2,none⟩=false∧w.frozen? ⟨j,3,none⟩=false:=by
 refine⟨⟨?_,?_,?_,?_⟩,?_,?_,?_,?_⟩
 ·rw[cell_of_row _ _ _ _ _ _ h];rfl
 ·rw[cell_of_row _ _ _ _ _ _ h];rfl
 ·rw[cell_of_row _ _ _ _ _ _ h];rfl
 ·rw[cell_of_row _ _ _ _ _ _ h];rfl
 all_goals simp[World.frozen?,h]
theorem zcr {w:World} {j:Nat} {a b c d x y z u:Value} {T:TypeId} (h:w.heap[j]? = some (.cells #[a,b,c,d] T (0,0))) :
  ((((w.setCell ⟨j,0,none⟩ x).setCell ⟨j,1,none⟩ y).setCell ⟨j,2,none⟩ z).setCell ⟨j,3,none⟩ u).heap[j]? = some (.cells #[x,y,z,u] T (0,0)) ∧
  w.grownBy ((((w.setCell ⟨j,0,none⟩ x).setCell ⟨j,1,none⟩ y).setCell ⟨j,2,none⟩ z).setCell ⟨j,3,none⟩ u) (some j):=by
 have h1:=heap_setCell_same w j 0 _ T x h;have h2:=heap_setCell_same _ j 1 _ T y h1;have h3:=heap_setCell_same _ j 2 _ T z h2;have h4:=heap_setCell_same _ j 3 _ T u h3;refine⟨by simpa using h4,?_⟩;exact zag (zag (zag (zaf _ _ _ _) (zaf _ _ _ _)) (zaf _ _ _ _)) (zaf _ _ _ _)
theorem zAx (R:Nat) (a:Option Addr) (c:Nat) (l:List Nat) (k:Nat) (w:World) (h:RdAt R w a c l k) (hl:l.length≤140737488355328) (hc:l.length≤c) (hz:a=none→c=0) :
  Calls Tryz.prog 216 #[.pointer (some ⟨R,0,none⟩)] w (zAn R a c l w (EntIs w.heap.size) (za9 l k)):=by
 have HL:=zaa hl;have HM:=zaa (show l.length≤maxLen by simp only[maxLen];omega);have HC:=zaa hc;have HZ:=zaa hz;have b2:Below w.heap.size w ((w.alloc (.cells #[.int .i64 0,.int .i64 0,.int .i64 0,.slice none 0 0] 64)).alloc (.cells #[.int .i64 0,.int .i64 0,.int .i64 0,.slice none 0 0] 64)):=((Below.refl _ _).alloc (Nat.le_refl _) _).alloc (by rw[size_alloc];omega) _;have RR0:=zaa (h.later b2);have Hlt:=zaa h.lt;have HBlt:=zaa (fun b off h0 e=>zfe h.bytes h0 b off e);have G0:=zaa (zb0 (some R) b2);have h1:=zbp (.cells #[.int .i64 0,.int .i64 0,.int .i64 0,.slice none 0 0] 64) (zad w (.cells #[.int .i64 0,.int .i64 0,.int .i64 0,.slice none 0 0] 64));have h2:=zad (w.alloc (.cells #[.int .i64 0,.int .i64 0,.int .i64 0,.slice none 0 0] 64)) (.cells #[.int .i64 0,.int .i64 0,.int .i64 0,.slice none 0 0] 64);rw[size_alloc] at h2;have Q0:=zaa h1;have E0:=zaa h2;have S0:=zaa (show w.heap.size+2≤((w.alloc (.cells #[.int .i64 0,.int .i64 0,.int .i64 0,.slice none 0 0] 64)).alloc (.cells #[.int .i64 0,.int .i64 0,.int .i64 0,.slice none 0 0] 64)).heap.size by rw[size_alloc,size_alloc];omega);clear h hl hc hz b2 h1 h2;go_enter Tryz.func216,Tryz.ntmps216
 go_wp2_with fail
 generalize (w.alloc (.cells #[.int .i64 0,.int .i64 0,.int .i64 0,.slice none 0 0] 64)).alloc (.cells #[.int .i64 0,.int .i64 0,.int .i64 0,.slice none 0 0] 64)=W0 at *;refine(zAb R a c l 1 3 k _ (za RR0) (za HM)).mono ?_;rintro e V1 ⟨hg1,hm1⟩;have GV1:=zaa (zag (za G0) hg1);cases ht1:zkc l 1 3 k with
 |error x =>
  rw[ht1] at hm1;obtain rfl:=hm1;have HE:=zaa (show za9 l k=.error x by rw[za9];simp only[ht1])
  go_wp2
  rw[za HE];exact⟨rfl,za GV1,rfl⟩
 |ok p =>
  obtain⟨kd,k1⟩:=p;rw[ht1] at hm1;obtain⟨⟨_,rfl,rfl⟩,hr1⟩:=hm1;have q1:=zah hg1 (za Q0) (by have:=za Hlt;omega);have q2:=zah hg1 (za E0) (by have:=za Hlt;omega);obtain⟨⟨c0,c1,c2,c3⟩,f0,f1,f2,f3⟩:=zaq q2;have q3:=heap_setCell_same V1 (w.heap.size+1) 0 _ 64 (.int .i64 (kd:Int)) q2;have gs:=zaf V1 (w.heap.size+1) 0 (.int .i64 (kd:Int));have Q1:=zaa (zah gs q1 (by omega));have E1:Hid ((V1.setCell ⟨w.heap.size+1,0,none⟩ (.int .i64 (kd:Int))).heap[w.heap.size+1]? = some (.cells #[.int .i64 (kd:Int),.int .i64 0,.int .i64 0,.slice none 0 0] 64 (0,0))):=zaa (by simpa using q3);have G1:=zaa (zch (za GV1) gs (by omega));have RR1:=zaa (hr1.far gs (by have:=za Hlt;omega) (fun b off h0 e=>by have:=za HBlt b off h0 e;omega));have S1:=zaa (Nat.le_trans (Nat.le_trans (za S0) hg1.size) gs.size);clear q1 q2 q3 gs hg1 hr1 GV1 Q0 E0 G0 RR0 S0
  go_wp2_with fail
  generalize V1.setCell ⟨w.heap.size+1,0,none⟩ (.int .i64 (kd:Int))=W1 at *;clear c0 c1 c2 c3 f0 f1 f2 f3;refine(zm9 R a c l k1 _ (za RR1) (za HM)).mono ?_;rintro e V2 ⟨hg2,hm2⟩;have GV2:=zaa (zag (za G1) hg2);cases ht2:zju l k1 with
  |error x =>
   rw[ht2] at hm2;obtain rfl:=hm2;have HE:=zaa (show za9 l k=.error x by rw[za9];simp only[ht1,ht2])
   go_wp2
   rw[za HE];exact⟨rfl,za GV2,rfl⟩
  |ok p =>
   obtain⟨t,k2⟩:=p;rw[ht2] at hm2;obtain⟨⟨_,rfl,rfl⟩,hr2⟩:=hm2;have q1:=zah hg2 (za Q1) (by have:=za Hlt;omega);have q2:=zah hg2 (za E1) (by have:=za Hlt;omega);obtain⟨⟨c0,c1,c2,c3⟩,f0,f1,f2,f3⟩:=zaq q2;have q3:=heap_setCell_same V2 (w.heap.size+1) 1 _ 64 (.int .i64 (t:Int)) q2;have gs:=zaf V2 (w.heap.size+1) 1 (.int .i64 (t:Int));have Q2:=zaa (zah gs q1 (by omega));have E2:Hid ((V2.setCell ⟨w.heap.size+1,1,none⟩ (.int .i64 (t:Int))).heap[w.heap.size+1]? = some (.cells #[.int .i64 (kd:Int),.int .i64 (t:Int),.int .i64 0,.slice none 0 0] 64 (0,0))):=zaa (by simpa using q3);have G2:=zaa (zch (za GV2) gs (by omega));have RR2:=zaa (hr2.far gs (by have:=za Hlt;omega) (fun b off h0 e=>by have:=za HBlt b off h0 e;omega));have S2:=zaa (Nat.le_trans (Nat.le_trans (za S1) hg2.size) gs.size);clear q1 q2 q3 gs hg2 hr2 GV2 Q1 E1 G1 RR1 S1
   go_wp2_with fail
   generalize V2.setCell ⟨w.heap.size+1,1,none⟩ (.int .i64 (t:Int))=W2 at *;clear c0 c1 c2 c3 f0 f1 f2 f3;refine(zm9 R a c l k2 _ (za RR2) (za HM)).mono ?_;rintro e V3 ⟨hg3,hm3⟩;have GV3:=zaa (zag (za G2) hg3);cases ht3:zju l k2 with
   |error x =>
    rw[ht3] at hm3;obtain rfl:=hm3;have HE:=zaa (show za9 l k=.error x by rw[za9];simp only[ht1,ht2,ht3])
    go_wp2
    rw[za HE];exact⟨rfl,za GV3,rfl⟩
   |ok p =>
    obtain⟨i,k3⟩:=p;rw[ht3] at hm3;obtain⟨⟨_,rfl,rfl⟩,hr3⟩:=hm3;have q1:=zah hg3 (za Q2) (by have:=za Hlt;omega);have q2:=zah hg3 (za E2) (by have:=za Hlt;omega);obtain⟨⟨c0,c1,c2,c3⟩,f0,f1,f2,f3⟩:=zaq q2;have q3:=heap_setCell_same V3 (w.heap.size+1) 2 _ 64 (.int .i64 (i:Int)) q2;have gs:=zaf V3 (w.heap.size+1) 2 (.int .i64 (i:Int));have Q3:=zaa (zah gs q1 (by omega));have E3:Hid ((V3.setCell ⟨w.heap.size+1,2,none⟩ (.int .i64 (i:Int))).heap[w.heap.size+1]? = some (.cells #[.int .i64 (kd:Int),.int .i64 (t:Int),.int .i64 (i:Int),.slice none 0 0] 64 (0,0))):=zaa (by simpa using q3);have G3:=zaa (zch (za GV3) gs (by omega));have RR3:=zaa (hr3.far gs (by have:=za Hlt;omega) (fun b off h0 e=>by have:=za HBlt b off h0 e;omega));have S3:=zaa (Nat.le_trans (Nat.le_trans (za S2) hg3.size) gs.size);obtain⟨⟨d0,_,_,_⟩,_⟩:=zaq (za E3);clear q1 q2 q3 gs hg3 hr3 GV3 Q2 E2 G2 RR2 S2
    go_wp2_with fail
    generalize V3.setCell ⟨w.heap.size+1,2,none⟩ (.int .i64 (i:Int))=W3 at *;clear c0 c1 c2 c3 f0 f1 f2 f3;refine(zry R a c l kd k3 _ (za RR3) (za HM)).mono ?_;rintro e V4 ⟨hg4,hm4⟩;have GV4:=zaa (zag (za G3) hg4);cases ht4:zfu l kd k3 with
    |error x =>
     rw[ht4] at hm4;obtain rfl:=hm4;have HE:=zaa (show za9 l k=.error x by rw[za9];simp only[ht1,ht2,ht3,ht4])
     go_wp2
     rw[za HE];exact⟨rfl,za GV4,rfl⟩
    |ok p =>
     obtain⟨n,k4⟩:=p;rw[ht4] at hm4;obtain⟨⟨_,rfl,rfl⟩,hr4⟩:=hm4;have Q4:=zaa (zah hg4 (za Q3) (by have:=za Hlt;omega));have E4:=zaa (zah hg4 (za E3) (by have:=za Hlt;omega));have G4:=zaa (za GV4);have RR4:=zaa hr4;have S4:=zaa (Nat.le_trans (za S3) hg4.size);clear hg4 hr4 GV4 Q3 E3 G3 RR3 S3 d0
     go_wp2_with fail
     refine(zBi R a c l n k4 _ (za RR4) (za HL) (za HC) (za HZ)).mono ?_;rintro e V5 ⟨hg5,hm5⟩;have GV5:=zaa (zag (za G4) hg5);cases ht5:zgp l n k4 with
     |error x =>
      rw[ht5] at hm5;obtain rfl:=hm5;have HE:=zaa (show za9 l k=.error x by rw[za9];simp only[ht1,ht2,ht3,ht4,ht5])
      go_wp2
      rw[za HE];exact⟨rfl,za GV5,rfl⟩
     |ok p =>
      obtain⟨d,k5⟩:=p;rw[ht5] at hm5;obtain⟨⟨_,rfl,sp,m',cc,rfl,hlen,ho5⟩,hr5⟩:=hm5;have q1:=zah hg5 (za Q4) (by have:=za Hlt;omega);have q2:=zah hg5 (za E4) (by have:=za Hlt;omega);obtain⟨⟨c0,c1,c2,c3⟩,f0,f1,f2,f3⟩:=zaq q2;have q3:=heap_setCell_same V5 (w.heap.size+1) 3 _ 64 (.slice sp m' cc) q2;have gs:=zaf V5 (w.heap.size+1) 3 (.slice sp m' cc);have Q5:=zaa (zah gs q1 (by omega));have E5:Hid ((V5.setCell ⟨w.heap.size+1,3,none⟩ (.slice sp m' cc)).heap[w.heap.size+1]? = some (.cells #[.int .i64 (kd:Int),.int .i64 (t:Int),.int .i64 (i:Int),.slice sp m' cc] 64 (0,0))):=zaa (by simpa using q3);have G5:=zaa (zch (za GV5) gs (by omega));have RR5:=zaa (hr5.far gs (by have:=za Hlt;omega) (fun b off h0 e=>by have:=za HBlt b off h0 e;omega));have S5:=zaa (Nat.le_trans (Nat.le_trans (za S4) hg5.size) gs.size);have O5:=zaa (ho5.far gs (by have:=za S4;omega));obtain⟨⟨d0,d1,d2,d3⟩,_⟩:=zaq (za E5);obtain⟨⟨g0,g1,g2,g3⟩,e0,e1,e2,e3⟩:=zaq (za Q5);clear q1 q2 q3 gs hg5 hr5 GV5 Q4 E4 G4 RR4 ho5
      go_wp2_with fail
      generalize V5.setCell ⟨w.heap.size+1,3,none⟩ (.slice sp m' cc)=W5 at *;obtain⟨q6,s7⟩:=zcr (x:=.int .i64 (kd:Int)) (y:=.int .i64 (t:Int)) (z:=.int .i64 (i:Int)) (u:=.slice sp m' cc) (za Q5);obtain⟨⟨z0,z1,z2,z3⟩,_⟩:=zaq q6;refine bodyPost_ret (v:=entVal (kd:Int) (t:Int) (i:Int) sp m' cc) (by simp[results,Tryz.results216,go_sem,z0,z1,z2,z3]) rfl ?_;have HE:za9 l k=.ok ((kd,t,i,d),k5):=by rw[za9];simp only[ht1,ht2,ht3,ht4,ht5]
      rw[HE];exact⟨zch (za G5) s7 (Nat.le_refl _),⟨_,rfl,sp,m',cc,rfl,hlen,((za O5).far s7 (by have:=za S4;omega)).mono (by have:=za S4;omega)⟩,(za RR5).far s7 (by have:=za Hlt;omega) (fun b off h0 e=>by have:=za HBlt b off h0 e;omega)⟩
end
section
abbrev EntN:=Nat×Nat×Nat×List Nat
end
section
open Go.ChangeShapes Go.WideShapes Go.ChangeAt Go.RowKit
def zc8 (e:EntN) (h:Option Addr×Nat):List Value:=[.int .i64 (e.1:Int),.int .i64 (e.2.1:Int),.int .i64 (e.2.2.1:Int),.slice h.1 e.2.2.2.length h.2]
def zet (es:List EntN) (hs:List (Option Addr×Nat)):List Value:=(es.zip hs).flatMap fun p=>zc8 p.1 p.2
theorem zhc:∀ (es:List EntN) (hs:List (Option Addr×Nat)),hs.length=es.length→(zet es hs).length=es.length*4
 |[],[],_=>rfl
 |e::es,h::hs,hl=>by
  have:=zhc es hs (by simpa using hl);simp only[zet,List.zip_cons_cons,List.flatMap_cons,List.length_append,List.length_cons] at this ⊢;rw[this];simp only[zc8,List.length_cons,List.length_nil];omega
theorem zvo (es:List EntN) (hs:List (Option Addr×Nat)) (e:EntN) (h:Option Addr×Nat) (hl:hs.length=es.length):zet (es++[e]) (hs++[h])=zet es hs++zc8 e h:=by
 unfold zet;rw[List.zip_append hl.symm,List.flatMap_append];simp
theorem ziv {base:Nat} {w w':World} {e:TypeId} {size n:Nat} {v:Value} {xs:List Value} (h:w.ownsRow base e size v n xs) (hb:Below w.heap.size w w'):w'.ownsRow base e size v n xs:=by
 refine⟨h.1,?_⟩;rcases h.2 with hv|⟨g,cap,cur,hv,hbg,hgg,r⟩
 ·exact .inl hv
 ·exact .inr ⟨g,cap,cur,hv,hbg,(hb.block g (Array.getElem?_eq_some_iff.1 hgg).1).trans hgg,r⟩
theorem OwnB.notEnts {base base':Nat} {w:World} {sp sp':Option Addr} {c c' n:Nat} {l:List Nat} {xs:List Value} (h:OwnB base w sp c l) (h':w.ownsRow base' 64 4 (.slice sp' n c') n xs):∀ g,blk sp=some g→blk sp'≠some g:=by
 intro g hg hg';rcases h.owns.2 with⟨hv,_⟩|⟨g1,cap,cur,hv,_,hh,_⟩
 ·simp only[Value.slice.injEq] at hv;rw[hv.1] at hg;cases hg
 ·simp only[Value.slice.injEq] at hv;rw[hv.1] at hg;obtain rfl:g1=g:=by simpa [blk] using hg
  rcases h'.2 with⟨hv',_⟩|⟨g2,cap',cur',hv',_,hh',_⟩
  ·simp only[Value.slice.injEq] at hv';rw[hv'.1] at hg';cases hg'
  ·simp only[Value.slice.injEq] at hv';rw[hv'.1] at hg';obtain rfl:g2=g1:=by simpa [blk] using hg'
   rw[hh] at hh';simp at hh'
theorem OwnB.grownNe {base:Nat} {w w':World} {sp:Option Addr} {c:Nat} {l:List Nat} {o:Option Nat} (h:OwnB base w sp c l) (hg:w.grownBy w' o) (hne:∀ g,blk sp=some g→o≠some g):OwnB base w' sp c l:=by
 refine⟨⟨h.owns.1,?_⟩,h.lt⟩;rcases h.owns.2 with hv|⟨g,cap,cur,hv,hbg,hgg,r⟩
 ·exact .inl hv
 ·refine .inr ⟨g,cap,cur,hv,hbg,(hg.block g (Array.getElem?_eq_some_iff.1 hgg).1 (fun e=>?_)).trans hgg,r⟩;simp only[Value.slice.injEq] at hv;exact hne g (by rw[hv.1];rfl) e.symm
theorem zzf:(Tryz.prog.info? 64).map (fun i=>(i.zero,i.size,i.bytes))=some (some (.agg #[.int .i64 0,.int .i64 0,.int .i64 0,.slice none 0 0]),4,48):=by kernel_rfl
theorem zsu (l:List Nat):((zx5 l).toList==(zx5 l).toList)=true:=by simp
theorem ziz (k t i:Int) (a a':Option Addr) (n n' c c':Nat) (l:List Nat) (w:World) (hn:l.length=n) (hn':l.length=n') (hb:BytesAt w a l) (hb':BytesAt w a' l) :
  Calls Tryz.prog 50 #[entVal k t i a n c,entVal k t i a' n' c'] w fun e w'=>e=.returned (.bool true)∧Below w.heap.size w w':=by
 have x0:=zbp (entB k t i a' n' c') (zad w (entB k t i a n c));have x1:=zad (w.alloc (entB k t i a n c)) (entB k t i a' n' c');rw[size_alloc] at x1;obtain⟨c0,c1,c2,c3⟩:=zar x0;obtain⟨d0,d1,d2,d3⟩:=zar x1;have bA:Below w.heap.size w ((w.alloc (entB k t i a n c)).alloc (entB k t i a' n' c')):=((Below.refl _ _).alloc (Nat.le_refl _) _).alloc (by rw[size_alloc];omega) _;have s1:=zcy (c:=c) n hn (hb.later bA);have s2:=zcy (c:=c') n' hn' (hb'.later bA);have t1:=zsu l;have BA:=zaa bA;clear x0 x1 bA hb hb' hn hn';go_enter Tryz.func50,Tryz.ntmps50
 go_wp2
 go_ret
 exact⟨rfl,za BA⟩
end
end Go.Proofs.YtofllbpfajppeaaGreatDoor
