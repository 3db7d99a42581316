/- Conf: texts, weights, targets appended to bytes of one's own. -/
import Derived.Test.YtjcjleaicjhpeaaGreatDoorB06
import Derived.Test.YtjcjleaicjhpeaaGreatDoorB03
import Derived.Test.YtjcjleaicjhpeaaGreatDoorB01
import Derived.Test.YtjcjleaicjhpeaaGreatDoorRows
import Derived.ShutString
import Derived.ChangeOld
import Derived.SizedLaws
import Derived.Test.YtjcjleaicjhpeaaGreatDoorB02
import Derived.ChangeMaps5
import Derived.Deep.Slices
import Derived.Lib.SmallJoins
import Derived.Test.YtjcjleaicjhpeaaGreatDoorB04
import Derived.Deep.RegionHeld3
import Derived.Laws.OwnMore
set_option linter.unusedVariables false
set_option maxRecDepth 20000
set_option maxHeartbeats 16000000
namespace Go.Proofs.YtjcjleaicjhpeaaGreatDoor
section
open Go.ChangeShapes Go.WideShapes Go.ChangeAt Go.RowKit
def zeu (ts:List ByteArray):Array Value:=(ts.map Value.string).toArray
theorem zso (ts:List ByteArray) (j:Nat) (h:j<ts.length):(zeu ts)[j]? = some (.string ts[j]):=by
 unfold zeu;simp[h]
theorem zdv (base:Nat) {w:World} {sp:Option Addr} {n0 c:Nat} {l:List Nat} (hn0:l.length=n0) (hown:OwnB base w sp c l) (B m mc:Nat) (ts:List ByteArray) (hm:ts.length=m) (hB:w.heap[B]? = some (.cells (zeu ts) 9 (0,0)))
  (hts:∀ t∈ts,t.size≤1000000) (hsz:l.length+1000006*m≤140737488355328) (hm2:m≤1000) (hbase:base≤w.heap.size) :
  Calls Tryz.prog 149 #[.slice sp n0 c,.slice (some ⟨B,0,none⟩) m mc] w fun e w'=>∃ sp' n' c',e=.returned (.slice sp' n' c')∧Hid ((l++zt0 ts).length=n')∧OwnB base w' sp' c' (l++zt0 ts)∧Grew w sp w' sp':=by
 have HO:=zaa hown;have HN:=zaa hn0;have HM:=zaa hm;have HB:=zaa hB;have HNE:=zaa (hown.ne hB tyne.2);have HNS:=zaa hts
 have LE:=zaa (show ∀ j,((ts.take j).flatMap txB).length≤1000006*m from fun j=>by
  have h1:=zcg txB 1000006 (ts.take j) (fun x hx=>by
   have h2:=hts x (List.mem_of_mem_take hx);have:=zcs x (by omega)
   omega)
  have h2:(ts.take j).length≤m:=by rw[← hm,List.length_take];omega
  omega)
 clear hown hn0 hm hB hts;go_enter Tryz.func149,Tryz.ntmps149
 go_wp2
 go_loopw [0,9] (fun v i wr=>∃ (j:Nat) (sp':Option Addr) (n' c':Nat),j≤m∧v=.slice sp' n' c'∧i=.int .i64 (j:Int)∧Hid ((l++(ts.take j).flatMap txB).length=n')∧Hid (OwnB base wr sp' c' (l++(ts.take j).flatMap txB))∧Hid (Grew w sp wr sp')) (fun _ i _=>m - (intOf i).toNat)
 case atStart=>exact⟨0,sp,n0,c,by omega,rfl,rfl,zaa (by simpa using za HN),zaa (by simpa using za HO),Grew.refl _ _⟩
 case round =>
  obtain⟨j,sp',n',c',hj,rfl,rfl,hl',ho',hg'⟩:=hrel;by_cases hjm:j<m
  ·have y0:(0:Int)≤(j:Int):=by omega
   have y1:(j:Int)<(m:Int):=by omega
   have hjl:j<ts.length:=by rw[za HM];exact hjm
   have hBr:=Grew.block (za hg') (za HB) (za HNE);have p0:=zae hBr j _ (zso ts j hjl);have hx:=za HNS ts[j] (List.getElem_mem hjl);have FT:=zaa (zb5 txB ts j hjl);generalize ts[j]=x at *
   have LJ:=zaa (show(l++(ts.take j).flatMap txB).length+6+x.size≤140737488355328 by
    have h1:=za LE j;have h2:1000006*(j+1)≤1000006*m:=Nat.mul_le_mul_left _ (by omega);have h3:((ts.take j).flatMap txB).length≤1000006*j:=by
     have h1:=zcg txB 1000006 (ts.take j) (fun x hx=>by
      have h2:=za HNS x (List.mem_of_mem_take hx);have:=zcs x (by omega)
      omega)
     have h2:(ts.take j).length≤j:=by rw[List.length_take];omega
     omega
    rw[List.length_append];omega)
   have hbr:base≤wr.heap.size:=Nat.le_trans hbase (za hg').grown.size;have X1:=zaa (show(wr.alloc (.cells (zcl [x.size]) 3)).heap[wr.heap.size]? = some (.cells (zcl [x.size]) 3 (0,0)) from zad wr (.cells (zcl [x.size]) 3));have bA:=zaa (show Below wr.heap.size wr (wr.alloc (.cells (zcl [x.size]) 3)) from(Below.refl _ _).alloc (Nat.le_refl _) _);have CN:=zaa (zbb base (za hl') ((za ho').later (za bA)) wr.heap.size 1 1 [x.size] rfl (za X1) (by intro n hn;simp at hn;omega) (by have:=za LJ;omega) (by omega) (Nat.le_trans hbr (za bA).size));have hxs:x.size≤1000000:=hx;rw[show zcl [x.size]=#[.int .i64 (x.size:Int)] from rfl] at CN X1 bA;clear hBr hx
   go_wp2_with fail
   refine(za CN).mono ?_;rintro e V ⟨s1,m1,c1,rfl,hn1,ho1,hg1⟩;have hV:=zaa (Grew.aside (za bA) hg1);have hvs:base≤V.heap.size:=Nat.le_trans hbr (za hV).grown.size;have HO1:=zaa ho1;have hne1:=zaa (ho1.some_ (by rw[List.length_append];have:=(zcm x.size).1;simp[zis];omega))
   have hs2:=zaa (show m1+x.size≤140737488355328 by
    rw[← za hn1,List.length_append];have h1:=za LJ;have h2:=zap x.size (by omega);simp[zis];simp at h1
    omega)
   clear ho1 hg1 CN
   go_wp2_with (at_builtin;refine zfd rfl (.tmp 17) (.tmp 18) rfl s1 m1 c1 _ rfl (za hn1) (za HO1) (za hne1) x rfl (za hs2) hvs ?_;intro sp2 n2 c2 W2 hn2 ho3 hg2 hnn;rw[List.append_assoc,List.append_assoc,show zis [x.size]++bsT x=txB x by simp[zis,txB],← za FT] at hn2 ho3;have HO3:=zaa ho3;clear ho3)
   have hbn:=zaa ((za hg').trans ((za hV).trans hg2));exact⟨⟨j+1,sp2,n2,c2,by omega,rfl,by go_num,by first|exact hn2|exact zaa (by rw[List.length_append];exact za hn2),za HO3,za hbn⟩,by simp[intOf];omega⟩
  ·have hjj:¬ (j:Int)<(m:Int):=by omega
   have E:=zaa (show(ts.take j).flatMap txB=zt0 ts by rw[List.take_of_length_le (by rw[za HM];omega)];rfl)
   go_wp2
   go_ret
   exact⟨sp',n',c',rfl,zaa (by rw[← za E];simpa using za hl'),by rw[← za E];exact za ho',za hg'⟩
def IsRow (k:IntKind) (w:World) (a:Option Addr) (len cap:Nat) (zs:List Int):Prop :=
 (a=none∧len=0∧cap=0∧zs=[]) ∨
 ∃ x,a=some x∧len≤cap∧cap≤maxLen∧zs.length=cap∧(∀ i,i<zs.length→w.cell? (x.add i)=some (.int k (zs.getD i 0)))∧∀ n∈zs,(Lit.int k n).wf=true
theorem zih {w:World} {a:Option Addr} {len cap:Nat} {zs:List Int} (h:IsRow .u8 w a len cap zs):∃ l:List Nat,l.length=len∧len≤cap∧cap≤maxLen∧cap=zs.length∧BytesAt w a l:=by
 rcases h with⟨rfl,rfl,rfl,rfl⟩|⟨x,rfl,hl,hm,hz,hcell,hwz⟩
 ·exact⟨[],rfl,Nat.le_refl _,by simp[maxLen],rfl,⟨by simp,by simp⟩⟩
 ·have hbd:∀ n∈zs,0≤n∧n≤255:=fun n hn=>bounds_u8 (hwz n hn);refine⟨(zs.take len).map Int.toNat,by simp;omega,hl,hm,hz.symm,⟨?_,?_⟩⟩
  ·intro c hc;obtain⟨n,hn,rfl⟩:=List.mem_map.1 hc;have:=hbd n (List.mem_of_mem_take hn);omega
  ·intro i hi;simp only[List.length_map,List.length_take] at hi;have hiz:i<zs.length:=by omega
   have hc:=hcell i hiz;obtain⟨b,off,spot⟩:=x;have hspot:spot=none:=by simpa [Addr.add] using World.cell?_spot (hcell 0 (by omega))
   subst hspot;refine⟨b,off,rfl,?_⟩;rw[Addr.add_lit] at hc;rw[hc];have e1:zs.getD i 0=zs[i]:=by rw[List.getD_eq_getElem?_getD,List.getElem?_eq_getElem hiz];rfl
   have e2:((zs.take len).map Int.toNat).getD i 0=(zs[i]).toNat:=by
    rw[List.getD_eq_getElem?_getD,List.getElem?_map,List.getElem?_take,if_pos (by omega),List.getElem?_eq_getElem hiz];rfl
   have:=hbd zs[i] (List.getElem_mem hiz);rw[e1,e2,Int.toNat_of_nonneg this.1]
theorem row8 {H:Type} {enc:TypeId×Value→H} {W:World} {a:Option Addr} {len cap:Nat} {d:DataW H} {p:List MemPlace}
  (h:DataW.Trod enc Tryz.prog W 0 (fun _=>true) true 50 (.slice a len cap) d p) :
  ∃ l:List Nat,l.length=len∧len≤cap∧cap≤maxLen∧BytesAt W a l∧(a=none→cap=0)∧((d=.nil∧cap=0)∨∃ es sp,d=.slice es sp∧es.length+sp.length=cap):=by
 obtain⟨fuel,hf⟩:=h;rcases open_ints Tryz.underlying50 Tryz.underlying5 (by kernel_rfl) hf with⟨hcs,hx⟩|⟨x,l,c,zs,hcs,_,hl,hm,hz,hx,hcell,hwz⟩
 ·simp[Value.cells] at hcs;obtain⟨rfl,rfl,rfl⟩:=hcs;obtain⟨k,h1,h2,h3,h4,h5⟩:=zih (w:=W) (a:=none) (len:=0) (cap:=0) (zs:=[]) (.inl ⟨rfl,rfl,rfl,rfl⟩);exact⟨k,h1,h2,h3,h5,(fun _=>rfl),.inl ⟨(Prod.mk.inj hx).1,rfl⟩⟩
 ·simp[Value.cells] at hcs;obtain⟨rfl,rfl,rfl⟩:=hcs;have hz':zs.length=cap:=by simpa using hz
  obtain⟨k,h1,h2,h3,h4,h5⟩:=zih (w:=W) (a:=some x) (len:=len) (cap:=cap) (zs:=zs) (.inr ⟨_,rfl,hl,hm,hz',hcell,hwz⟩);exact⟨k,h1,h2,h3,h5,(fun h=>by cases h),.inr ⟨_,_,(Prod.mk.inj hx).1,by simp[lits];omega⟩⟩
theorem zt7:Tryz.prog.bytesOf 5=1:=by kernel_rfl
theorem zut {H:Type} {ts:List TypeId} {ds:List (DataW H)} (h:(DataW.weightsEach Tryz.prog ts ds).all (·≤reachBytes)=true) {j cap:Nat} {d:DataW H} (ht:ts[j]? = some 50) (hd:ds[j]? = some d)
  (hr:(d=.nil∧cap=0)∨∃ es sp,d=.slice es sp∧es.length+sp.length=cap):cap≤140737488355328:=by
 rcases hr with⟨_,rfl⟩|⟨es,sp,rfl,rfl⟩
 ·omega
 ·have:=sized_slice h ht hd Tryz.underlying50;rw[zt7] at this;have:=reachBytes_lt;omega
structure Po where
 nm:ByteArray
 ts:List Tg
instance:Inhabited Po:=⟨⟨⟨#[]⟩,[]⟩⟩
instance:Inhabited Rt:=⟨rt0⟩
structure PosAt (w:World) (a:Option Addr) (l:List Po):Prop where
 cell:∀ i (hi:i<l.length),∃ b off ta tc,a=some ⟨b,off,none⟩∧w.cell? ⟨b,off+i*2,none⟩=some (.string l[i].nm)∧w.cell? ⟨b,off+i*2+1,none⟩=some (.slice ta l[i].ts.length tc)∧TgsAt w ta l[i].ts∧(l[i].ts.length≤maxLen∧l[i].ts.length≤tc)∧(ta=none→tc=0)
theorem PosAt.later {w w':World} {a:Option Addr} {l:List Po} (h:PosAt w a l) (hb:Below w.heap.size w w'):PosAt w' a l :=
 ⟨fun i hi=>by obtain⟨b,off,ta,tc,e,h1,h2,h3,h4⟩:=h.cell i hi;exact⟨b,off,ta,tc,e,cell_later hb h1,cell_later hb h2,h3.later hb,h4⟩⟩
structure Cf where
 ver:Int
 rs:List Rt
 ps:List Po
structure CfH where
 ra:Option Addr
 rc:Nat
 pa:Option Addr
 pc:Nat
def zcw (e:Cf) (h:CfH):Value:=.agg #[.int .i64 e.ver,.slice h.ra e.rs.length h.rc,.slice h.pa e.ps.length h.pc]
structure CfAt (w:World) (e:Cf) (h:CfH):Prop where
 wv:-9223372036854775808≤e.ver∧e.ver≤9223372036854775807
 rts:RtsAt w h.ra e.rs
 pos:PosAt w h.pa e.ps
 rl:e.rs.length≤maxLen∧e.rs.length≤h.rc
 pl:e.ps.length≤maxLen∧e.ps.length≤h.pc
 rz:h.ra=none→h.rc=0
theorem CfAt.later {w w':World} {e:Cf} {h:CfH} (x:CfAt w e h) (hb:Below w.heap.size w w'):CfAt w' e h:=⟨x.wv,x.rts.later hb,x.pos.later hb,x.rl,x.pl,x.rz⟩
def zhc (x:Nat):List Nat:=(List.range 8).map (fun k=>x / 2 ^ (56 - 8*k) % 256)
theorem zgs (x:Nat):(zhc x).length=8:=by simp[zhc]
theorem zmi (x j:Nat) (h:j<8):(zhc x).take (j+1)=(zhc x).take j++[x / 2 ^ (56 - 8*j) % 256]:=by
 rw[List.take_succ_eq_append_getElem (by rw[zgs];exact h)];simp[zhc]
theorem zoo (x s:Nat):((x:Int) / 2 ^ s) % 256=((x / 2 ^ s % 256:Nat):Int):=by
 have:((x / 2 ^ s:Nat):Int)=(x:Int) / 2 ^ s:=by simp
 rw[← this];omega
theorem zew (base:Nat) {w:World} {sp:Option Addr} {n0 c:Nat} {l:List Nat} (hn0:l.length=n0) (hown:OwnB base w sp c l) (x:Nat) (hx:x<18446744073709551616) (hsz:l.length+8≤140737488355328) (hbase:base≤w.heap.size) :
  Calls Tryz.prog 188 #[.slice sp n0 c,.float .f64 x] w fun e w'=>∃ sp' n' c',e=.returned (.slice sp' n' c')∧Hid ((l++zhc x).length=n')∧OwnB base w' sp' c' (l++zhc x)∧Grew w sp w' sp':=by
 have HO:=zaa hown;have HN:=zaa hn0;have hbits:=zd4 x;have LE:=zaa (show ∀ j,((zhc x).take j).length≤8 from fun j=>by have:=zgs x;rw[List.length_take];omega);clear hown hn0;go_enter Tryz.func188,Tryz.ntmps188
 go_wp2_with fail
 go_loopw [0,6] (fun v i wr=>∃ (j:Nat) (sp':Option Addr) (n' c':Nat),j≤8∧v=.slice sp' n' c'∧i=.int .i64 (56 - 8*(j:Int))∧Hid ((l++(zhc x).take j).length=n')∧Hid (OwnB base wr sp' c' (l++(zhc x).take j))∧Hid (Grew w sp wr sp')) (fun _ i _=>(intOf i+8).toNat)
 case atStart=>exact⟨0,sp,n0,c,by omega,rfl,rfl,zaa (by simpa using za HN),zaa (by simpa using za HO),Grew.refl _ _⟩
 case round =>
  obtain⟨j,sp',n',c',hj,rfl,rfl,hl',ho',hg'⟩:=hrel;by_cases hjm:j<8
  ·obtain⟨s,hs⟩:∃ s:Nat,s=56 - 8*j:=⟨_,rfl⟩
   have hsi:56 - 8*(j:Int)=(s:Int):=by omega
   have hnx:=zaa (show(s:Int) - 8=56 - 8*((j+1:Nat):Int) by omega);have y0:(0:Int)≤(s:Int):=by omega
   have y1:(s:Int)≤56:=by omega
   have y2:s≤64:=by omega
   have hmin:min s 64=s:=by omega
   have hby:=zoo x s;have HB:=zaa hby;have FT:=zaa (zmi x j hjm);rw[← hs] at FT;have hw8:IntKind.u8.wrap ((x:Int) / 2 ^ s)=((x / 2 ^ s % 256:Nat):Int):=by rw[← hby,IntKind.wrap_u8]
   rw[hsi];have hq2:x / 2 ^ s % 256<256:=Nat.mod_lt _ (by decide);generalize hq:x / 2 ^ s % 256=q at *;have hlit:=zaa (zbx (l:=[q]) (zad wr (.cells #[.int .u8 (q:Int)] 5)) (by intro c hc;simp only[List.mem_cons,List.not_mem_nil,or_false] at hc;omega));have bA:=zaa (show Below wr.heap.size wr (wr.alloc (.cells #[.int .u8 (q:Int)] 5)) from(Below.refl _ _).alloc (Nat.le_refl _) _);have hbr:base≤wr.heap.size:=Nat.le_trans hbase (za hg').grown.size
   have hs2:=zaa (show(l++(zhc x).take j).length+1≤140737488355328 by
    rw[List.length_append];have:((zhc x).take j).length≤7:=by rw[List.length_take];omega
    omega)
   have hj1:j+1≤8:=by omega
   clear hs hsi hq hjm
   go_wp2_with (at_builtin;refine zbm rfl (.tmp 13) (.tmp 18) rfl base sp' n' c' _ rfl (za hl') (by exact(za ho').later (za bA)) (some ⟨wr.heap.size,0,none⟩) 1 1 rfl [q] rfl (by exact za hlit) (fun h=>by cases h) (za hs2) (Nat.le_trans hbr (za bA).size) ?_;intro sp2 n2 c2 W2 hn2 ho2 hg2 hb2;rw[List.append_assoc,← za FT] at hn2 ho2;have HO2:=zaa ho2;clear ho2)
   have hbn:=zaa ((za hg').trans (Grew.aside (za bA) ⟨hg2,hb2⟩));refine⟨⟨j+1,sp2,n2,c2,hj1,rfl,?_,by first|exact hn2|exact zaa (by rw[List.length_append];exact za hn2),za HO2,za hbn⟩,?_⟩
   ·first|(rw[za hnx])|(rw[← za hnx];go_num)
   ·have hh:=za hnx;simp[intOf];omega
  ·have hj8:j=8:=by omega
   have E:=zaa (show(zhc x).take j=zhc x from List.take_of_length_le (by rw[zgs];omega));have y0:¬ (0:Int)≤56 - 8*(j:Int):=by omega
   clear hj8
   go_wp2
   go_ret
   exact⟨sp',n',c',rfl,zaa (by rw[← za E];simpa using za hl'),by rw[← za E];exact za ho',za hg'⟩
def tgB (t:Tgt):List Nat:=txB t.1++zhc t.2
def zl8 (ts:List Tgt):List Nat:=zal ts.length++ts.flatMap tgB
def za7 (p:Po):List Nat:=txB p.nm++zl8 p.ts
def zaw (r:Rt):List Nat:=txB r.h++(txB r.p++txB r.l)
def zav (e:Cf):List Nat:=zal e.ps.length++(e.ps.flatMap za7++(zal e.rs.length++e.rs.flatMap zaw))
def zo0 (l:List Nat) (k:Nat) (r:List Nat):Prop:=k≤l.length∧l.drop k=r
section
variable {l r:List Nat} {k:Nat}
end
theorem zb (w:World) (j k:Nat) (v:Value):w.grownBy (w.setCell ⟨j,k,none⟩ v) (some j) :=
 ⟨rfl,rfl,rfl,by simp[World.setCell],fun i _ hne=>heap_setCell_other w ⟨j,k,none⟩ i v (fun e=>hne (by rw[e]))⟩
theorem zjx {w:World} (t ty e:TypeId) (i:TypeInfo) (z:Value) (size bytes:Nat) (ht:Tryz.prog.underlying t=some (.slice e)) (hi:Tryz.prog.info? e=some i) (hz:i.zero=some z) (hsize:i.size=size) (hby:i.bytes=bytes) (hzs:z.cells.size=size) (hsz:0<size)
  (E:Nat) (hE:w.heap[E]? = some (.cells #[] e (0,0))) (ad:Option Addr) (m c:Nat) (hn:ad=none→m=0∧c=0) (news:List Value) (hl:news.length=m*size)
  (hnews:∀ b,ad=some b→∀ j u,news[j]? = some u→w.cell? (b.add j)=some u) (h1:∀ u∈news,u.oneCell'=true) (hm:m≤1000) (hbytes:m*bytes≤140737488355328) :
  ∃ g c' w',(Builtin.append_ #[t,t] ty #[.slice (some ⟨E,0,none⟩) 0 0,.slice ad m c]).run Tryz.prog w=.ok (.slice (some ⟨g,0,none⟩) m c') w'∧w'.ownsRow E e size (.slice (some ⟨g,0,none⟩) m c') m news∧w.grownBy w' (some E)∧(g=E∨g=w.heap.size):=by
 have he:w.ownsRow E e size (.slice (some ⟨E,0,none⟩) 0 0) 0 []:=⟨by simp,.inr ⟨E,0,#[],rfl,Nat.le_refl _,hE,Nat.le_refl _,by simp[maxLen],by simp,by simp⟩⟩
 have hEl:E<w.heap.size:=(Array.getElem?_eq_some_iff.1 hE).1;cases ad with
 |none =>
  obtain⟨rfl,rfl⟩:=hn rfl;have hz:news=[]:=List.eq_nil_of_length_eq_zero (by simpa using hl);subst hz;have hrun:=run_append_owned_none (P:=Tryz.prog) (w:=w) E t ty e i size ht hi _ _ _ he;exact⟨E,0,w,hrun,he,zbk _ _,.inl rfl⟩
 |some b =>
  obtain⟨v',w',hrun,h2,h3,h4,h5⟩:=run_append_own_at (P:=Tryz.prog) w E t ty e i z size bytes ht hi hz hsize hby hzs hsz _ _ _ he b m c news hl (hnews b rfl) h1 (by simp only[maxLen];omega) (by rw[Nat.zero_add];exact hbytes) (by omega);rcases h2.2 with⟨hv,h0⟩|⟨g,cap,cur,hv,r⟩
  ·have:=(h4.1 hv).1;cases this
  ·subst hv;rw[Nat.zero_add,List.nil_append] at h2;exact⟨g,cap,w',by rw[hrun,Nat.zero_add],h2,h3,h5.imp (fun e=>Option.some.inj e) (fun e=>Option.some.inj e)⟩
theorem zbc {w:World} {ops:Array Oper} {o:Oper} {a:Act} {K:Act→World→Prop} {Q:Exit→Act→World→Prop} {E0:Prop} (hgd:o.guard=none) (s x:Operand) (t e:TypeId)
  (ho:o.op=.call { callee:=.builtin .append,args:=#[s,x],argTypes:=#[t,t] })
  (i:TypeInfo) (z:Value) (size bytes:Nat) (ht:Tryz.prog.underlying t=some (.slice e)) (hi:Tryz.prog.info? e=some i) (hz:i.zero=some z) (hsize:i.size=size) (hby:i.bytes=bytes) (hzs:z.cells.size=size) (hsz:0<size)
  (E:Nat) (hs:a.eval s=.slice (some ⟨E,0,none⟩) 0 0) (hE:w.heap[E]? = some (.cells #[] e (0,0))) (ad:Option Addr) (m c:Nat) (hx:a.eval x=.slice ad m c) (hn:ad=none→m=0∧c=0) (news:List Value) (hl:news.length=m*size)
  (hnews:∀ b,ad=some b→∀ j u,news[j]? = some u→w.cell? (b.add j)=some u) (h1:∀ u∈news,u.oneCell'=true) (hm:m≤1000) (hbytes:m*bytes≤140737488355328)
  (hk:∀ g c' w',w'.ownsRow E e size (.slice (some ⟨g,0,none⟩) m c') m news→w.grownBy w' (some E)→(g=E∨g=w.heap.size)→K (a.put o.dst (.slice (some ⟨g,0,none⟩) m c')) w') :
  if Region.wanted o (yielded ops a.tmps)=true then Oper.wp Tryz.prog o a w K Q else E0:=by
 have hw:Region.wanted o (yielded ops a.tmps)=true:=by simp[Region.wanted,hgd]
 rw[if_pos hw];obtain⟨g,c',w',hrun,h2,h3,h4⟩:=zjx t o.type e i z size bytes ht hi hz hsize hby hzs hsz E hE ad m c hn news hl hnews h1 hm hbytes;unfold Oper.wp;simp[execOp,ho,resolve,invoke,builtin,hs,hx,hrun,Result.andThen];exact hk g c' w' h2 h3 h4
theorem zl7 {w:World} {ops:Array Oper} {o:Oper} {a:Act} {K:Act→World→Prop} {Q:Exit→Act→World→Prop} {E0:Prop} (hgd:o.guard=none) (ho:o.op=.buildSlice 42 0 #[])
  (h:∀ E w',w.heap.size=E→w'.heap[E]? = some (.cells #[] 56 (0,0))→Below w.heap.size w w'→K (a.put o.dst (.slice (some ⟨E,0,none⟩) 0 0)) w') :
  if Region.wanted o (yielded ops a.tmps)=true then Oper.wp Tryz.prog o a w K Q else E0:=by
 have hw:Region.wanted o (yielded ops a.tmps)=true:=by simp[Region.wanted,hgd]
 rw[if_pos hw];have h1:=h w.heap.size (w.alloc (.cells #[] 56)) rfl (zad w _) ((Below.refl _ _).alloc (Nat.le_refl _) _);unfold Oper.wp;simp[execOp,ho,go_sem];exact h1
theorem zef {w:World} {ops:Array Oper} {o:Oper} {a:Act} {K:Act→World→Prop} {Q:Exit→Act→World→Prop} {E0:Prop} (hgd:o.guard=none) (ho:o.op=.buildSlice 31 0 #[])
  (h:∀ E w',w.heap.size=E→w'.heap[E]? = some (.cells #[] 70 (0,0))→Below w.heap.size w w'→K (a.put o.dst (.slice (some ⟨E,0,none⟩) 0 0)) w') :
  if Region.wanted o (yielded ops a.tmps)=true then Oper.wp Tryz.prog o a w K Q else E0:=by
 have hw:Region.wanted o (yielded ops a.tmps)=true:=by simp[Region.wanted,hgd]
 rw[if_pos hw];have h1:=h w.heap.size (w.alloc (.cells #[] 70)) rfl (zad w _) ((Below.refl _ _).alloc (Nat.le_refl _) _);unfold Oper.wp;simp[execOp,ho,go_sem];exact h1
theorem zi5 {w:World} {ops:Array Oper} {o:Oper} {a:Act} {K:Act→World→Prop} {Q:Exit→Act→World→Prop} {E0:Prop} (hgd:o.guard=none) (ho:o.op=.alloc 45)
  (h:∀ C w',w.heap.size=C→w'.heap[C]? = some (.cells #[.int .i64 0,.slice none 0 0,.slice none 0 0] 45 (0,0))→Below w.heap.size w w'→K (a.put o.dst (.pointer (some ⟨C,0,none⟩))) w') :
  if Region.wanted o (yielded ops a.tmps)=true then Oper.wp Tryz.prog o a w K Q else E0:=by
 have hw:Region.wanted o (yielded ops a.tmps)=true:=by simp[Region.wanted,hgd]
 rw[if_pos hw];have h1:=h w.heap.size (w.alloc (.cells #[.int .i64 0,.slice none 0 0,.slice none 0 0] 45)) rfl (zad w _) ((Below.refl _ _).alloc (Nat.le_refl _) _);unfold Oper.wp;simp[execOp,ho,go_sem];exact h1
theorem za6 {w:World} {ops:Array Oper} {o:Oper} {a:Act} {K:Act→World→Prop} {Q:Exit→Act→World→Prop} {E0:Prop} (hgd:o.guard=none) (k:Nat) (ho:o.op=.buildSlice 43 1 #[(0,.tmp k)]) (nm:ByteArray) (sp:Option Addr) (n c:Nat) (hs:a.eval (.tmp k)=.agg #[.string nm,.slice sp n c])
  (h:∀ B w',w.heap.size=B→w'.heap[B]? = some (.cells #[.string nm,.slice sp n c] 54 (0,0))→Below w.heap.size w w'→K (a.put o.dst (.slice (some ⟨B,0,none⟩) 1 1)) w') :
  if Region.wanted o (yielded ops a.tmps)=true then Oper.wp Tryz.prog o a w K Q else E0:=by
 have hw:Region.wanted o (yielded ops a.tmps)=true:=by simp[Region.wanted,hgd]
 rw[if_pos hw];have h1:=h w.heap.size (w.alloc (.cells #[.string nm,.slice sp n c] 54)) rfl (zad w _) ((Below.refl _ _).alloc (Nat.le_refl _) _);have hs':a.tmps[k]?.getD undef=.agg #[.string nm,.slice sp n c]:=by simpa [go_sem] using hs
 unfold Oper.wp;simp[execOp,ho,go_sem,hs'];exact h1
def zd0 (r:Rt):List Value:=[.string r.h,.string r.p,.string r.l]
def zch (l:List Rt):List Value:=l.flatMap zd0
theorem zhj (l:List Rt):(zch l).length=l.length*3:=by
 induction l with
 |nil=>rfl
 |cons x xs ih =>
  simp only[zch,List.flatMap_cons,List.length_append,List.length_cons] at ih ⊢;rw[ih,show(zd0 x).length=3 from rfl];omega
theorem zeb:∀ (xs:List Rt) (i f:Nat) (hi:i<xs.length) (_:f<3),(zch xs)[i*3+f]? = (zd0 xs[i])[f]?
 |[],i,_,hi,_=>by simp at hi
 |x::xs,0,f,_,hf=>by
  simp only[zch,List.flatMap_cons,Nat.zero_mul,Nat.zero_add,List.getElem_cons_zero];rw[List.getElem?_append_left (show f<(zd0 x).length from hf)]
 |x::xs,i+1,f,hi,hf=>by
  have ih:=zeb xs i f (by simpa using hi) hf;simp only[zch,List.flatMap_cons,List.getElem_cons_succ] at ih ⊢;rw[List.getElem?_append_right (by rw[show(zd0 x).length=3 from rfl];omega)];have e4:(i+1)*3+f - (zd0 x).length=i*3+f:=by rw[show(zd0 x).length=3 from rfl];omega
  rw[e4];exact ih
theorem zec (l:List Rt):∀ u∈zch l,u.oneCell'=true:=by
 intro u hu;obtain⟨t,_,ht⟩:=List.mem_flatMap.1 hu;simp only[zd0,List.mem_cons,List.not_mem_nil,or_false] at ht;rcases ht with rfl|rfl|rfl <;> rfl
theorem zqq:(Tryz.prog.info? 56).map (fun i=>(i.zero,i.size,i.bytes))=some (some (.agg #[.string ByteArray.empty,.string ByteArray.empty,.string ByteArray.empty]),3,48):=by kernel_rfl
theorem zss {j k n:Nat} (hk:0<k) (h:j<n*k):∃ i f,i<n∧f<k∧j=i*k+f :=
 ⟨j / k,j % k,(Nat.div_lt_iff_lt_mul hk).2 h,Nat.mod_lt _ hk,by rw[Nat.mul_comm];exact(Nat.div_add_mod j k).symm⟩
theorem RtsAt.news {w:World} {a:Option Addr} {l:List Rt} (h:RtsAt w a l) (b:Addr) (hb:a=some b):∀ j u,(zch l)[j]? = some u→w.cell? (b.add j)=some u:=by
 intro j u hu;have hj:j<l.length*3:=by rw[← zhj];exact(List.getElem?_eq_some_iff.1 hu).1
 obtain⟨i,f,hi,hf,rfl⟩:=zss (by omega) hj;rw[zeb l i f hi hf] at hu;obtain⟨b',off,e,h0,h1,h2⟩:=h.cell i hi;rw[hb] at e;cases e
 have hf':f=0∨f=1∨f=2:=by omega
 rw[Addr.add_lit,← Nat.add_assoc];rcases hf' with rfl|rfl|rfl
 ·rw[show u=.string l[i].h from by simpa [zd0] using hu.symm];exact h0
 ·rw[show u=.string l[i].p from by simpa [zd0] using hu.symm];exact h1
 ·rw[show u=.string l[i].l from by simpa [zd0] using hu.symm];exact h2
theorem RtsAt.nil {w:World} {l:List Rt} (h:RtsAt w none l):l.length=0:=by
 rcases Nat.eq_zero_or_pos l.length with h0|h0
 ·exact h0
 ·obtain⟨b,off,e,_⟩:=h.cell 0 h0;cases e
theorem ze {E:Nat} {w:World} {g c:Nat} {l:List Rt} (h:w.ownsRow E 56 3 (.slice (some ⟨g,0,none⟩) l.length c) l.length (zch l)) (hs:∀ r∈l,r.h.size≤maxLen∧r.p.size≤maxLen∧r.l.size≤maxLen):RtsAt w (some ⟨g,0,none⟩) l∧l.length≤c:=by
 rcases h.2 with⟨hv,h0⟩|⟨g',cap,cur,hv,hb,hg,hle,hmx,hsz,ht⟩
 ·cases hv
 ·simp only[Value.slice.injEq,Option.some.injEq,Addr.mk.injEq,and_true,true_and] at hv;obtain⟨rfl,rfl⟩:=hv;have one:∀ i (hi:i<l.length) f,f<3→w.cell? ⟨g,0+i*3+f,none⟩=(zd0 l[i])[f]?:=fun i hi f hf=>by
   have hk:=zeb l i f hi hf;rw[Nat.zero_add,cell_of_row w g _ cur _ _ hg,← Array.getElem?_toList];have hj:i*3+f<l.length*3:=by omega
   rw[← ht,List.getElem?_take,if_pos hj] at hk;exact hk
  exact⟨⟨hs,fun i hi=>⟨g,0,rfl,one i hi 0 (by omega),one i hi 1 (by omega),one i hi 2 (by omega)⟩⟩,hle⟩
theorem TgsAt.news {w:World} {a:Option Addr} {l:List Tg} (h:TgsAt w a l) (b:Addr) (hb:a=some b):∀ j u,(zcr l)[j]? = some u→w.cell? (b.add j)=some u:=by
 intro j u hu;have hj:j<l.length*2:=by rw[← zce];exact(List.getElem?_eq_some_iff.1 hu).1
 obtain⟨i,f,hi,hf,rfl⟩:=zss (by omega) hj;rw[zgn l i f hi hf] at hu;obtain⟨b',off,e,h0,h1⟩:=h.cell i hi;rw[hb] at e;cases e
 have hf':f=0∨f=1:=by omega
 rw[Addr.add_lit,← Nat.add_assoc];rcases hf' with rfl|rfl
 ·rw[show u=.string l[i].1 from by simpa [zjp] using hu.symm];exact h0
 ·rw[show u=.float .f64 l[i].2 from by simpa [zjp] using hu.symm];exact h1
theorem TgsAt.nil {w:World} {l:List Tg} (h:TgsAt w none l):l.length=0:=by
 rcases Nat.eq_zero_or_pos l.length with h0|h0
 ·exact h0
 ·obtain⟨b,off,e,_⟩:=h.cell 0 h0;cases e
theorem zbq.same {base:Nat} {w w':World} {g c:Nat} {l:List Tg} (h:zbq base w (some ⟨g,0,none⟩) c l) (hb:w'.heap[g]? = w.heap[g]?):zbq base w' (some ⟨g,0,none⟩) c l:=by
 refine⟨h.1,?_⟩;rcases h.2 with⟨hv,h0⟩|⟨g',cap,cur,hv,hbg,hg,r⟩
 ·cases hv
 ·simp only[Value.slice.injEq,Option.some.injEq,Addr.mk.injEq,and_true,true_and] at hv;obtain⟨rfl,rfl⟩:=hv;exact .inr ⟨g,c,cur,rfl,hbg,hb.trans hg,r⟩
theorem zbq.is {base:Nat} {w:World} {g c:Nat} {l:List Tg} (h:zbq base w (some ⟨g,0,none⟩) c l):base≤g∧g<w.heap.size∧l.length≤c:=by
 rcases h.2 with⟨hv,h0⟩|⟨g',cap,cur,hv,hbg,hg,hle,r⟩
 ·cases hv
 ·simp only[Value.slice.injEq,Option.some.injEq,Addr.mk.injEq,and_true,true_and] at hv;obtain⟨rfl,rfl⟩:=hv;exact⟨hbg,(Array.getElem?_eq_some_iff.1 hg).1,hle⟩
theorem zbq.low {base base':Nat} {w:World} {sp:Option Addr} {c:Nat} {l:List Tg} (h:zbq base w sp c l) (hb:base'≤base):zbq base' w sp c l:=⟨h.1,h.2.imp id (fun ⟨g,cap,cur,h1,h2,h3⟩=>⟨g,cap,cur,h1,Nat.le_trans hb h2,h3⟩)⟩
structure Pw where
 po:Po
 g:Nat
 c:Nat
def zg5 (x:Pw):List Value:=[.string x.po.nm,.slice (some ⟨x.g,0,none⟩) x.po.ts.length x.c]
def znq (l:List Pw):List Value:=l.flatMap zg5
theorem zlv:∀ (xs:List Pw) (i f:Nat) (hi:i<xs.length) (_:f<2),(znq xs)[i*2+f]? = (zg5 xs[i])[f]?
 |[],i,_,hi,_=>by simp at hi
 |x::xs,0,f,_,hf=>by
  simp only[znq,List.flatMap_cons,Nat.zero_mul,Nat.zero_add,List.getElem_cons_zero];rw[List.getElem?_append_left (show f<(zg5 x).length from hf)]
 |x::xs,i+1,f,hi,hf=>by
  have ih:=zlv xs i f (by simpa using hi) hf;simp only[znq,List.flatMap_cons,List.getElem_cons_succ] at ih ⊢;rw[List.getElem?_append_right (by rw[show(zg5 x).length=2 from rfl];omega)];have e4:(i+1)*2+f - (zg5 x).length=i*2+f:=by rw[show(zg5 x).length=2 from rfl];omega
  rw[e4];exact ih
theorem zpq (x:Pw):∀ u∈zg5 x,u.oneCell'=true:=by
 intro u hu;simp only[zg5,List.mem_cons,List.not_mem_nil,or_false] at hu;rcases hu with rfl|rfl <;> rfl
theorem zqp:(Tryz.prog.info? 54).map (fun i=>(i.zero,i.size,i.bytes))=some (some (.agg #[.string ByteArray.empty,.slice none 0 0]),2,40):=by kernel_rfl
structure OwnW (base:Nat) (w:World) (sp:Option Addr) (c:Nat) (l:List Pw):Prop where
 row:w.ownsRow base 54 2 (.slice sp l.length c) l.length (znq l)
 dat:∀ x∈l,zbq base w (some ⟨x.g,0,none⟩) x.c x.po.ts∧sp.map (·.block)≠some x.g
theorem OwnW.ofNil (base:Nat) (w:World):OwnW base w none 0 []:=⟨w.ownsRow_nil base 54 2,by simp⟩
theorem OwnW.at_ {base:Nat} {w:World} {sp:Option Addr} {c:Nat} {l:List Pw} (h:OwnW base w sp c l) (hl:∀ x∈l,(∀ t∈x.po.ts,t.2<18446744073709551616)∧x.po.ts.length≤maxLen):PosAt w sp (l.map (·.po))∧l.length≤c:=by
 rcases h.row.2 with⟨hv,h0⟩|⟨g,cap,cur,hv,hb,hg,hle,hmx,hsz,ht⟩
 ·refine⟨⟨fun i hi=>?_⟩,by omega⟩;simp only[List.length_map] at hi;omega
 ·simp only[Value.slice.injEq] at hv;obtain⟨rfl,_,rfl⟩:=hv;have one:∀ i (hi:i<l.length) f,f<2→w.cell? ⟨g,0+i*2+f,none⟩=(zg5 l[i])[f]?:=fun i hi f hf=>by
   have hk:=zlv l i f hi hf;rw[Nat.zero_add,cell_of_row w g _ cur _ _ hg,← Array.getElem?_toList];have hj:i*2+f<l.length*2:=by omega
   rw[← ht,List.getElem?_take,if_pos hj] at hk;exact hk
  refine⟨⟨fun i hi=>?_⟩,hle⟩;have hi':i<l.length:=by simpa using hi
  have e:(l.map (·.po))[i]=l[i].po:=by simp
  rw[e];have hm:=List.getElem_mem hi';obtain⟨ho,_⟩:=h.dat _ hm;exact⟨g,0,some ⟨l[i].g,0,none⟩,l[i].c,rfl,one i hi' 0 (by omega),one i hi' 1 (by omega),ho.at_ (hl _ hm).1,⟨(hl _ hm).2,ho.is.2.2⟩,fun h=>by cases h⟩
theorem OwnW.same {base:Nat} {w w':World} {sp:Option Addr} {c:Nat} {l:List Pw} (h:OwnW base w sp c l) (hb:∀ g,base≤g→g<w.heap.size→w'.heap[g]? = w.heap[g]?):OwnW base w' sp c l:=by
 refine⟨⟨h.row.1,?_⟩,fun x hx=>⟨(h.dat x hx).1.same (hb _ (h.dat x hx).1.is.1 (h.dat x hx).1.is.2.1),(h.dat x hx).2⟩⟩;rcases h.row.2 with hv|⟨g,cap,cur,hv,hbg,hg,r⟩
 ·exact .inl hv
 ·exact .inr ⟨g,cap,cur,hv,hbg,(hb g hbg (Array.getElem?_eq_some_iff.1 hg).1).trans hg,r⟩
theorem zns {base:Nat} {w:World} {sp:Option Addr} {c:Nat} {l:List Pw} (hown:OwnW base w sp c l) (B:Nat) (x:Pw) (hB:w.heap[B]? = some (.cells (zg5 x).toArray 54 (0,0))) (hd:zbq base w (some ⟨x.g,0,none⟩) x.c x.po.ts) (hne:sp.map (·.block)≠some x.g) (hn:l.length≤1000) (hbase:base≤w.heap.size) (ty:TypeId) :
  ∃ sp' c' w',(Builtin.append_ #[43,43] ty #[.slice sp l.length c,.slice (some ⟨B,0,none⟩) 1 1]).run Tryz.prog w=.ok (.slice sp' (l.length+1) c') w'∧OwnW base w' sp' c' (l++[x])∧Below base w w':=by
 obtain⟨i0,hi,hz0,hz1,hz2⟩:=info_parts zqp;obtain⟨v',w',hrun,h1,h2,_,h5⟩:=run_append_own_at (P:=Tryz.prog) w base 43 ty 54 i0 _ 2 40 Tryz.underlying43 hi hz0 hz1 hz2 rfl (by omega) _ _ _ hown.row ⟨B,0,none⟩ 1 1 (zg5 x) rfl
  (fun j u hu=>by have:=World.news_of_block hB j u;simp only at this;exact this hu) (zpq x) (by simp only[maxLen];omega) (by omega) hbase
 have hob:∀ (s:Option Addr) (n c:Nat),(Value.slice s n c).ownBlock=s.map (·.block):=fun s n c=>by cases s <;> rfl
 have hv:∃ sp' c',v'=.slice sp' (l.length+1) c':=by
  rcases h1.2 with⟨hv,h0⟩|⟨g,cap,cur,hv,_⟩
  ·omega
  ·exact⟨_,_,hv⟩
 obtain⟨sp',c',rfl⟩:=hv;rw[hob] at h2;rw[hob,hob] at h5;have hlow:∀ g,sp.map (·.block)=some g→base≤g:=fun g hg=>by
  rcases hown.row.2 with⟨hv,h0⟩|⟨g',cap,cur,hv,hbg,_⟩
  ·simp only[Value.slice.injEq] at hv;rw[hv.1] at hg;cases hg
  ·simp only[Value.slice.injEq] at hv;rw[hv.1] at hg;cases hg
   exact hbg
 have one:∀ y:Pw,zbq base w (some ⟨y.g,0,none⟩) y.c y.po.ts→sp.map (·.block)≠some y.g→zbq base w' (some ⟨y.g,0,none⟩) y.c y.po.ts∧sp'.map (·.block)≠some y.g:=fun y ho hy=>by
  have hi:=ho.is;refine⟨ho.same (h2.block _ hi.2.1 (fun e=>hy e.symm)),fun e=>?_⟩;rcases h5 with h5|h5
  ·exact hy (h5.symm.trans e)
  ·rw[h5] at e;have:=Option.some.inj e;omega
 refine⟨sp',c',w',hrun,⟨?_,fun y hy=>?_⟩,(Below.refl base w).grown h2 hbase hlow⟩
 ·rw[List.length_append,show znq (l++[x])=znq l++zg5 x from by simp[znq]];exact h1
 ·rcases List.mem_append.1 hy with hy|hy
  ·exact one y (hown.dat y hy).1 (hown.dat y hy).2
  ·obtain rfl:y=x:=by simpa using hy
   exact one y hd hne
theorem za5 {w:World} {ops:Array Oper} {o:Oper} {a:Act} {K:Act→World→Prop} {Q:Exit→Act→World→Prop} {E0:Prop} (hgd:o.guard=none) (s x:Operand)
  (ho:o.op=.call { callee:=.builtin .append,args:=#[s,x],argTypes:=#[43,43] })
  (base:Nat) (sp:Option Addr) (n c:Nat) (l:List Pw) (hs:a.eval s=.slice sp n c) (hn:l.length=n) (hown:OwnW base w sp c l) (B:Nat) (y:Pw) (hx:a.eval x=.slice (some ⟨B,0,none⟩) 1 1)
  (hB:w.heap[B]? = some (.cells (zg5 y).toArray 54 (0,0))) (hd:zbq base w (some ⟨y.g,0,none⟩) y.c y.po.ts) (hne:sp.map (·.block)≠some y.g) (hsz:n≤1000) (hbase:base≤w.heap.size)
  (hk:∀ sp' c' w',OwnW base w' sp' c' (l++[y])→Below base w w'→K (a.put o.dst (.slice sp' (n+1) c')) w') :
  if Region.wanted o (yielded ops a.tmps)=true then Oper.wp Tryz.prog o a w K Q else E0:=by
 subst hn;have hw:Region.wanted o (yielded ops a.tmps)=true:=by simp[Region.wanted,hgd]
 rw[if_pos hw];obtain⟨sp',c',w',hrun,h1,h2⟩:=zns hown B y hB hd hne hsz hbase o.type;unfold Oper.wp;simp[execOp,ho,resolve,invoke,builtin,hs,hx,hrun,Result.andThen];exact hk sp' c' w' h1 h2
end
end Go.Proofs.YtjcjleaicjhpeaaGreatDoor
