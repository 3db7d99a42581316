/- Conf: targets and pools appended to bytes of one's own. -/
import Derived.Test.YtjcjleaicjhpeaaGreatDoorB07
set_option linter.unusedVariables false
set_option maxRecDepth 20000
set_option maxHeartbeats 16000000
namespace Go.Proofs.YtjcjleaicjhpeaaGreatDoor
section
open Go.ChangeShapes Go.WideShapes Go.ChangeAt Go.RowKit
theorem zn5 (t:Tgt) (h:t.1.size≤1000000):(tgB t).length≤1000014:=by
 unfold tgB;rw[List.length_append,zgs];have:=zcs t.1 (by omega);omega
theorem zuo (n:Nat):zis [n]=zal n:=by simp[zis]
theorem txB1 (s:ByteArray):zt0 [s]=txB s:=by simp[zt0]
theorem zai {base:Nat} {w0 U U':World} {s s':Option Addr} {k:Nat} {q:List Nat} (hb0:w0.heap.size≤base) (ho:OwnB base U s k q) (hg:Grew U s U' s') (hb:base≤U.heap.size) (hw:Below w0.heap.size w0 U):Below w0.heap.size w0 U':=hw.trans ((hg.below ho hb).mono hb0)
structure CKs (w0 w:World) (s:Option Addr):Prop where
 sz:w0.heap.size≤w.heap.size
 cell:∀ {b k:Nat} {v:Value},w0.cell? ⟨b,k,none⟩=some v→w.cell? ⟨b,k,none⟩=some v
 free:∀ b,blk s=some b→∀ k,w0.cell? ⟨b,k,none⟩=none
theorem zhq {w:World} {b k:Nat} (h:w.heap.size≤b):w.cell? ⟨b,k,none⟩=none:=by
 have:w.heap[b]? = none:=Array.getElem?_eq_none h;simp[World.cell?,this]
theorem CKs.grew {w0 U U':World} {s s':Option Addr} (h:CKs w0 U s) (hg:Grew U s U' s'):CKs w0 U' s':=by
 refine⟨Nat.le_trans h.sz hg.grown.size,fun {b k v} hc=>?_,fun b hb k=>?_⟩
 ·have h1:=h.cell hc;have hl:b<U.heap.size:=by
   rcases Nat.lt_or_ge b U.heap.size with q|q
   ·exact q
   ·rw[zhq q] at h1;cases h1
  rw[World.cell?_of_block (hg.grown.block b hl (fun e=>by rw[h.free b e.symm] at hc;cases hc))];exact h1
 ·rcases hg.lies b hb with e|e
  ·exact h.free b e k
  ·exact zhq (Nat.le_trans h.sz e)
theorem CKs.later {w0 U U':World} {s:Option Addr} (h:CKs w0 U s) (hb:Below U.heap.size U U'):CKs w0 U' s :=
 ⟨Nat.le_trans h.sz hb.size,fun hc=>cell_later hb (h.cell hc),h.free⟩
theorem CKs.of_below {base:Nat} {w0 w:World} {sp:Option Addr} {c:Nat} {l:List Nat} (h:Below w0.heap.size w0 w) (hb0:w0.heap.size≤base) (ho:OwnB base w sp c l):CKs w0 w sp :=
 ⟨h.size,fun hc=>cell_later h hc,fun b hb k=>zhq (Nat.le_trans hb0 (by
  rcases ho.1.2 with⟨hv,_⟩|⟨g,cap,cur,hv,hbg,_⟩
  ·simp only[Value.slice.injEq] at hv;rw[hv.1] at hb;cases hb
  ·simp only[Value.slice.injEq] at hv;rw[hv.1] at hb;have:g=b:=Option.some.inj hb
   omega))⟩
theorem zc1:(70:TypeId)≠5∧(54:TypeId)≠5∧(56:TypeId)≠5∧(45:TypeId)≠5:=by decide
theorem zd3 (base:Nat) {w0 w:World} {a:Option Addr} {ts:List Tgt} (hT:TgsAt w0 a ts) {sp:Option Addr} (h0:CKs w0 w sp) {n0 c:Nat} {l:List Nat} (hn0:l.length=n0) (hown:OwnB base w sp c l) (m mc:Nat) (hm:ts.length=m)
  (hts:∀ t∈ts,t.1.size≤1000000) (hsz:l.length+6+1000014*m≤140737488355328) (hm2:m≤1000) (hbase:base≤w.heap.size) :
  Calls Tryz.prog 148 #[.slice sp n0 c,.slice a m mc] w fun e w'=>∃ sp' n' c',e=.returned (.slice sp' n' c')∧Hid ((l++zl8 ts).length=n')∧OwnB base w' sp' c' (l++zl8 ts)∧Grew w sp w' sp':=by
 have HT:=zaa hT;have HM:=zaa hm;have H0:=zaa h0;have HNS:=zaa hts;have hsF:=zda .plain;have L0:=zaa (zap m (by omega));have E0:=zaa (show zal m++ts.flatMap tgB=zl8 ts by unfold zl8;rw[hm]);have bA:=zaa (show Below w.heap.size w (w.alloc (.cells (zcl [m]) 3)) from(Below.refl _ _).alloc (Nat.le_refl _) _);have CN:=zaa (zbb base hn0 (hown.later (za bA)) w.heap.size 1 1 [m] rfl (zad w (.cells (zcl [m]) 3)) (by intro n hn;simp at hn;omega) (by omega) (by omega) (Nat.le_trans hbase (za bA).size));have HO:=zaa hown;rw[show zcl [m]=#[.int .i64 (m:Int)] from rfl] at CN bA;rw[zuo] at CN;clear hn0 hm hts hT h0 hown;go_enter Tryz.func148,Tryz.ntmps148
 go_wp2_with fail
 refine(za CN).mono ?_;rintro e V0 ⟨s0,m0,c0,rfl,hn1,ho1,hg1⟩;have hV:=zaa (Grew.aside (za bA) hg1);have HW0:=zaa ((za H0).grew (za hV));have HO1:=zaa ho1;have hvs:base≤V0.heap.size:=Nat.le_trans hbase (za hV).grown.size;clear ho1 hg1 CN
 go_wp2_with fail
 go_loopw [0,14] (fun v i wr=>∃ (j:Nat) (sp':Option Addr) (n' c':Nat),j≤m∧v=.slice sp' n' c'∧i=.int .i64 (j:Int)∧Hid ((l++zal m++(ts.take j).flatMap tgB).length=n')∧Hid (OwnB base wr sp' c' (l++zal m++(ts.take j).flatMap tgB))∧Hid (Grew w sp wr sp')∧Hid (CKs w0 wr sp')) (fun _ i _=>m - (intOf i).toNat)
 case atStart=>exact⟨0,s0,m0,c0,by omega,rfl,rfl,zaa (by simpa using za hn1),zaa (by simpa using za HO1),hV,HW0⟩
 case round =>
  obtain⟨j,sp',n',c',hj,rfl,rfl,hl',ho',hg',hw'⟩:=hrel;by_cases hjm:j<m
  ·have y0:(0:Int)≤(j:Int):=by omega
   have y1:(j:Int)<(m:Int):=by omega
   have hjl:j<ts.length:=by rw[za HM];exact hjm
   obtain⟨b1,o1,rfl,q0,q1⟩:=(za HT).cell j hjl;have hlt:=(za HT).lt _ (List.getElem_mem hjl);have p0:=(za hw').cell q0;have p1:=(za hw').cell q1;have hx:=za HNS ts[j] (List.getElem_mem hjl);have FT:=zaa (zb5 tgB ts j hjl)
   have LJ:=zaa (show(l++zal m++(ts.take j).flatMap tgB).length+1000014≤140737488355328 by
    have h3:=zcg tgB 1000014 (ts.take j) (fun x hx=>zn5 x (za HNS x (List.mem_of_mem_take hx)));have h4:(ts.take j).length≤j:=by rw[List.length_take];omega
    have h5:1000014*(j+1)≤1000014*m:=Nat.mul_le_mul_left _ (by omega);have h6:=za L0;have h7:1000014*(ts.take j).length≤1000014*j:=Nat.mul_le_mul_left _ h4
    rw[List.length_append,List.length_append];omega)
   generalize ts[j]=t at *;obtain⟨s,x⟩:=t;simp only at p0 p1 hx hlt;clear q0 q1
   have S8:=zaa (show(l++zal m++(ts.take j).flatMap tgB++txB s).length+8≤140737488355328 by
    rw[List.length_append];have:=zcs s (by omega);have:=za LJ
    omega)
   have hbr:base≤wr.heap.size:=Nat.le_trans hbase (za hg').grown.size;have hss:s.size≤1000000:=hx;have bX:=zaa (show Below wr.heap.size wr (wr.alloc (.cells #[.string s,.float .f64 x] 70)) from(Below.refl _ _).alloc (Nat.le_refl _) _);have X1:=zad wr (.cells #[.string s,.float .f64 x] 70);have c0':=zae X1 0 (.string s) rfl;have c1':=zae X1 1 (.float .f64 x) rfl;have XB:=zaa X1;have hEE:=zaa (show wr.heap.size<(wr.alloc (.cells #[.string s,.float .f64 x] 70)).heap.size by simp);clear X1
   go_wp2_with fail
   generalize hE:wr.heap.size=E at *;generalize (wr.alloc (.cells #[.string s,.float .f64 x] 70))=V at *;have hbr2:base≤wr.heap.size:=by rw[hE];exact hbr
   have bV:=zaa (show Below V.heap.size V V.drew from(Below.refl _ _).drew);have bB:=zaa (show Below V.heap.size V (V.drew.alloc (.cells (zeu [s]) 9)) from(za bV).alloc (Nat.le_refl _) _);have OV:=zaa (((za ho').later (by rw[hE];exact za bX)).later (za bB));have CT:=zaa (zdv base (za hl') (za OV) V.heap.size 1 1 [s] rfl (show(V.drew.alloc (.cells (zeu [s]) 9)).heap[V.heap.size]? = _ from zad V.drew (.cells (zeu [s]) 9)) (by intro y hy;simp at hy;rw[hy];exact hss) (by have:=za LJ;omega) (by omega) (by have:=(za bX).size;have:=(za bB).size;omega));rw[txB1] at CT;have KB:=zaa (show(V.drew.alloc (.cells (zeu [s]) 9)).cell? ⟨E,0,none⟩=some (.string s)∧(V.drew.alloc (.cells (zeu [s]) 9)).cell? ⟨E,1,none⟩=some (.float .f64 x) from⟨cell_later (za bB) c0',cell_later (za bB) c1'⟩);have XE:=zaa (zac (za bB) (za XB));have bZ:=zaa ((za bX).trans ((za bB).mono (by have:=(za bX).size;omega)));rw[show zeu [s]=#[.string s] from rfl] at CT bB KB XE OV bZ;refine wp_region_held_drew (S:=fun w'=>w'.cell? ⟨E,0,none⟩=some (.string s)∧w'.cell? ⟨E,1,none⟩=some (.float .f64 x)) (by kernel_rfl) ?_ (fun hHeld=>?_)
   ·try dsimp only
    first|exact za K3|exact za K2|exact za KB|exact⟨c0',c1'⟩
   refine hT 0 ?_;refine hT 1 ?_;refine hT 2 ?_;refine hT 5 ?_;refine hT 6 ?_;refine hO 3 (fun K hK=>?_);go_simp
   go_wp2_with fail
   refine hK.out _ _ ?_ (fun hHeld=>?_)
   ·try dsimp only
    first|exact za K3|exact za K2|exact za KB|exact⟨c0',c1'⟩
   clear hK K;refine hP ?_;refine hO 4 (fun K hK=>?_);go_simp
   first
    |(go_at_call 149
      refine(za CT).mono ?_;rintro e U1 ⟨s1,n1,c1,rfl,hn2,ho2,hg2⟩;have XU:=Grew.block hg2 (za XE) ((za OV).ne (za XE) zc1.1);have K2:=zaa (show U1.cell? ⟨E,0,none⟩=some (.string s)∧U1.cell? ⟨E,1,none⟩=some (.float .f64 x) from⟨zae XU 0 _ rfl,zae XU 1 _ rfl⟩);have XU2:=zaa XU;have HN2:=zaa hn2;have HO2:=zaa ho2;have HG2:=zaa (Grew.aside (by rw[hE];exact za bZ) hg2)
      clear XU hn2 ho2 hg2)
    |(go_at_call 188
      refine(zew base (za HN2) (za HO2) x hlt (za S8) (Nat.le_trans hbr2 (za HG2).grown.size)).mono ?_;rintro e U2 ⟨s2,n2,c2,rfl,hn3,ho3,hg3⟩;have XU:=Grew.block hg3 (za XU2) ((za HO2).ne (za XU2) zc1.1);rw[List.append_assoc,show txB s++zhc x=tgB (s,x) from rfl,List.append_assoc (l++zal m),← za FT] at hn3 ho3;have K3:=zaa (show U2.cell? ⟨E,0,none⟩=some (.string s)∧U2.cell? ⟨E,1,none⟩=some (.float .f64 x) from⟨zae XU 0 _ rfl,zae XU 1 _ rfl⟩);have HN3:=zaa hn3;have HO3:=zaa ho3;have HG3:=zaa ((za HG2).trans hg3)
      clear XU hn3 ho3 hg3)
   go_wp2_with fail
   refine hK.out _ _ ?_ (fun hHeld=>?_)
   ·try dsimp only
    first|exact za K3|exact za K2|exact za KB|exact⟨c0',c1'⟩
   clear hK K;refine hP ?_;refine hO 7 (fun K hK=>?_);go_simp
   first
    |(go_at_call 149
      refine(za CT).mono ?_;rintro e U1 ⟨s1,n1,c1,rfl,hn2,ho2,hg2⟩;have XU:=Grew.block hg2 (za XE) ((za OV).ne (za XE) zc1.1);have K2:=zaa (show U1.cell? ⟨E,0,none⟩=some (.string s)∧U1.cell? ⟨E,1,none⟩=some (.float .f64 x) from⟨zae XU 0 _ rfl,zae XU 1 _ rfl⟩);have XU2:=zaa XU;have HN2:=zaa hn2;have HO2:=zaa ho2;have HG2:=zaa (Grew.aside (by rw[hE];exact za bZ) hg2)
      clear XU hn2 ho2 hg2)
    |(go_at_call 188
      refine(zew base (za HN2) (za HO2) x hlt (za S8) (Nat.le_trans hbr2 (za HG2).grown.size)).mono ?_;rintro e U2 ⟨s2,n2,c2,rfl,hn3,ho3,hg3⟩;have XU:=Grew.block hg3 (za XU2) ((za HO2).ne (za XU2) zc1.1);rw[List.append_assoc,show txB s++zhc x=tgB (s,x) from rfl,List.append_assoc (l++zal m),← za FT] at hn3 ho3;have K3:=zaa (show U2.cell? ⟨E,0,none⟩=some (.string s)∧U2.cell? ⟨E,1,none⟩=some (.float .f64 x) from⟨zae XU 0 _ rfl,zae XU 1 _ rfl⟩);have HN3:=zaa hn3;have HO3:=zaa ho3;have HG3:=zaa ((za HG2).trans hg3)
      clear XU hn3 ho3 hg3)
   go_wp2_with fail
   refine hK.out _ _ ?_ (fun hHeld=>?_)
   ·try dsimp only
    first|exact za K3|exact za K2|exact za KB|exact⟨c0',c1'⟩
   clear hK K;refine hP ?_;refine hT 8 ?_;refine wpAnyH_done (by kernel_rfl) ?_ _;have hw2:=zaa ((za hw').grew (za HG3));have hg4:=zaa ((za hg').trans (za HG3))
   go_wp2
   exact⟨⟨j+1,s2,n2,c2,by omega,rfl,by go_num,by first|exact HN3|exact zaa (by rw[List.length_append];exact za HN3),za HO3,za hg4,hw2⟩,by simp[intOf];omega⟩
  ·have hjj:¬ (j:Int)<(m:Int):=by omega
   have E:=zaa (show zal m++(ts.take j).flatMap tgB=zl8 ts by rw[List.take_of_length_le (by rw[za HM];omega)];exact za E0);rw[List.append_assoc,za E] at hl' ho'
   go_wp2
   go_ret
   exact⟨sp',n',c',rfl,by first|exact hl'|exact zaa (by simpa using za hl'),za ho',za hg'⟩
theorem zfn (base:Nat) {w0 w:World} {a:Option Addr} {nm:ByteArray} {ts:List Tgt} (hTs:TgsAt w0 a ts) {sp:Option Addr} (h0:CKs w0 w sp) {n0 c:Nat} {l:List Nat} (hn0:l.length=n0) (hown:OwnB base w sp c l) (m mc:Nat) (hm:ts.length=m)
  (hnm:nm.size≤1000000) (hts:∀ t∈ts,t.1.size≤1000000) (hsz:l.length+1000020+1000014*m≤140737488355328) (hm2:m≤1000) (hbase:base≤w.heap.size) :
  Calls Tryz.prog 92 #[.slice sp n0 c,.agg #[.string nm,.slice a m mc]] w fun e w'=>∃ sp' n' c',e=.returned (.slice sp' n' c')∧Hid ((l++za7 ⟨nm,ts⟩).length=n')∧OwnB base w' sp' c' (l++za7 ⟨nm,ts⟩)∧Grew w sp w' sp':=by
 have bX:=zaa (show Below w.heap.size w (w.alloc (.cells #[.string nm,.slice a m mc] 54)) from(Below.refl _ _).alloc (Nat.le_refl _) _);have X1:=zad w (.cells #[.string nm,.slice a m mc] 54);have c0':=zae X1 0 (.string nm) rfl;have c1':=zae X1 1 (.slice a m mc) rfl;have XB:=zaa X1;have LT:=zaa (zcs nm (by omega));have HO:=zaa hown;have H0:=zaa h0;clear X1;go_enter Tryz.func92,Tryz.ntmps92
 go_wp2_with fail
 generalize hE:w.heap.size=E at *;generalize (w.alloc (.cells #[.string nm,.slice a m mc] 54))=V at *;have hbase2:base≤w.heap.size:=by rw[hE];exact hbase
 have bV:=zaa (show Below V.heap.size V V.drew from(Below.refl _ _).drew);have bB:=zaa (show Below V.heap.size V (V.drew.alloc (.cells (zeu [nm]) 9)) from(za bV).alloc (Nat.le_refl _) _);have OV:=zaa (((za HO).later (by rw[hE];exact za bX)).later (za bB));have CT:=zaa (zdv base hn0 (za OV) V.heap.size 1 1 [nm] rfl (show(V.drew.alloc (.cells (zeu [nm]) 9)).heap[V.heap.size]? = _ from zad V.drew (.cells (zeu [nm]) 9)) (by intro y hy;simp at hy;rw[hy];exact hnm) (by omega) (by omega) (by have:=(za bX).size;have:=(za bB).size;omega));rw[txB1] at CT;have KB:=zaa (show(V.drew.alloc (.cells (zeu [nm]) 9)).cell? ⟨E,0,none⟩=some (.string nm)∧(V.drew.alloc (.cells (zeu [nm]) 9)).cell? ⟨E,1,none⟩=some (.slice a m mc) from⟨cell_later (za bB) c0',cell_later (za bB) c1'⟩);have XE:=zaa (zac (za bB) (za XB));have bZ:=zaa ((za bX).trans ((za bB).mono (by have:=(za bX).size;omega)));rw[show zeu [nm]=#[.string nm] from rfl] at CT bB KB XE OV bZ;refine wp_region_held_drew (S:=fun w'=>w'.cell? ⟨E,0,none⟩=some (.string nm)∧w'.cell? ⟨E,1,none⟩=some (.slice a m mc)) (by kernel_rfl) ?_ (fun hHeld=>?_)
 ·try dsimp only
  first|exact za K3|exact za K2|exact za KB|exact⟨c0',c1'⟩
 refine hT 0 ?_;refine hT 1 ?_;refine hT 2 ?_;refine hT 5 ?_;refine hT 6 ?_;refine hO 3 (fun K hK=>?_);go_simp
 go_wp2_with fail
 refine hK.out _ _ ?_ (fun hHeld=>?_)
 ·try dsimp only
  first|exact za K3|exact za K2|exact za KB|exact⟨c0',c1'⟩
 clear hK K;refine hP ?_;refine hO 4 (fun K hK=>?_);go_simp
 first
  |(go_at_call 149
    refine(za CT).mono ?_;rintro e U1 ⟨s1,n1,c1,rfl,hn2,ho2,hg2⟩;have XU:=Grew.block hg2 (za XE) ((za OV).ne (za XE) zc1.2.1);have K2:=zaa (show U1.cell? ⟨E,0,none⟩=some (.string nm)∧U1.cell? ⟨E,1,none⟩=some (.slice a m mc) from⟨zae XU 0 _ rfl,zae XU 1 _ rfl⟩);have XU2:=zaa XU;have HN2:=zaa hn2;have HO2:=zaa ho2;have HG2:=zaa (Grew.aside (by rw[hE];exact za bZ) hg2);have HW2:=zaa ((za H0).grew (za HG2))
    clear XU hn2 ho2 hg2)
  |(go_at_call 148
    refine(zd3 base hTs (za HW2) (za HN2) (za HO2) m mc hm hts (by have:=za LT;rw[List.length_append];omega) hm2 (Nat.le_trans hbase2 (za HG2).grown.size)).mono ?_;rintro e U2 ⟨s2,n2,c2,rfl,hn3,ho3,hg3⟩;have XU:=Grew.block hg3 (za XU2) ((za HO2).ne (za XU2) zc1.2.1);rw[List.append_assoc,show txB nm++zl8 ts=za7 ⟨nm,ts⟩ from rfl] at hn3 ho3;have K3:=zaa (show U2.cell? ⟨E,0,none⟩=some (.string nm)∧U2.cell? ⟨E,1,none⟩=some (.slice a m mc) from⟨zae XU 0 _ rfl,zae XU 1 _ rfl⟩);have HN3:=zaa hn3;have HO3:=zaa ho3;have HG3:=zaa ((za HG2).trans hg3)
    clear XU hn3 ho3 hg3)
 go_wp2_with fail
 refine hK.out _ _ ?_ (fun hHeld=>?_)
 ·try dsimp only
  first|exact za K3|exact za K2|exact za KB|exact⟨c0',c1'⟩
 clear hK K;refine hP ?_;refine hO 7 (fun K hK=>?_);go_simp
 first
  |(go_at_call 149
    refine(za CT).mono ?_;rintro e U1 ⟨s1,n1,c1,rfl,hn2,ho2,hg2⟩;have XU:=Grew.block hg2 (za XE) ((za OV).ne (za XE) zc1.2.1);have K2:=zaa (show U1.cell? ⟨E,0,none⟩=some (.string nm)∧U1.cell? ⟨E,1,none⟩=some (.slice a m mc) from⟨zae XU 0 _ rfl,zae XU 1 _ rfl⟩);have XU2:=zaa XU;have HN2:=zaa hn2;have HO2:=zaa ho2;have HG2:=zaa (Grew.aside (by rw[hE];exact za bZ) hg2);have HW2:=zaa ((za H0).grew (za HG2))
    clear XU hn2 ho2 hg2)
  |(go_at_call 148
    refine(zd3 base hTs (za HW2) (za HN2) (za HO2) m mc hm hts (by have:=za LT;rw[List.length_append];omega) hm2 (Nat.le_trans hbase2 (za HG2).grown.size)).mono ?_;rintro e U2 ⟨s2,n2,c2,rfl,hn3,ho3,hg3⟩;have XU:=Grew.block hg3 (za XU2) ((za HO2).ne (za XU2) zc1.2.1);rw[List.append_assoc,show txB nm++zl8 ts=za7 ⟨nm,ts⟩ from rfl] at hn3 ho3;have K3:=zaa (show U2.cell? ⟨E,0,none⟩=some (.string nm)∧U2.cell? ⟨E,1,none⟩=some (.slice a m mc) from⟨zae XU 0 _ rfl,zae XU 1 _ rfl⟩);have HN3:=zaa hn3;have HO3:=zaa ho3;have HG3:=zaa ((za HG2).trans hg3)
    clear XU hn3 ho3 hg3)
 go_wp2_with fail
 refine hK.out _ _ ?_ (fun hHeld=>?_)
 ·try dsimp only
  first|exact za K3|exact za K2|exact za KB|exact⟨c0',c1'⟩
 clear hK K;refine hP ?_;refine hT 8 ?_;refine wpAnyH_done (by kernel_rfl) ?_ _
 go_wp2
 go_ret
 exact⟨s2,n2,c2,rfl,by first|exact HN3|exact zaa (by simpa using za HN3),za HO3,za HG3⟩
theorem zj4 (base:Nat) {w0 w:World} {a:Option Addr} {nm:ByteArray} {ts:List Tgt} (hTs:TgsAt w0 a ts) (h0:Below w0.heap.size w0 w) (hb0:w0.heap.size≤base) {sp:Option Addr} {n0 c:Nat} {l:List Nat} (hn0:l.length=n0) (hown:OwnB base w sp c l) (m mc:Nat) (hm:ts.length=m)
  (hnm:nm.size≤1000000) (hts:∀ t∈ts,t.1.size≤1000000) (hsz:l.length+1000020+1000014*m≤140737488355328) (hm2:m≤1000) (hbase:base≤w.heap.size) :
  Calls Tryz.prog 92 #[.slice sp n0 c,.agg #[.string nm,.slice a m mc]] w fun e w'=>∃ sp' n' c',e=.returned (.slice sp' n' c')∧Hid ((l++za7 ⟨nm,ts⟩).length=n')∧OwnB base w' sp' c' (l++za7 ⟨nm,ts⟩)∧Grew w sp w' sp' :=
 zfn base hTs (CKs.of_below h0 hb0 hown) hn0 hown m mc hm hnm hts hsz hm2 hbase
theorem zri (w:World) (o:Obj):(w.alloc o).heap.size=w.heap.size+1:=by simp
structure SmallT (e:Cf):Prop where
 rn:e.rs.length≤1000
 pn:e.ps.length≤1000
 rs:∀ r∈e.rs,r.h.size≤1000000∧r.p.size≤1000000∧r.l.size≤1000000
 ps:∀ p∈e.ps,p.nm.size≤1000000∧p.ts.length≤100∧∀ t∈p.ts,t.1.size≤1000000
theorem zc9 (r:Rt) (h:r.h.size≤1000000∧r.p.size≤1000000∧r.l.size≤1000000):(zaw r).length≤3000018:=by
 obtain⟨h1,h2,h3⟩:=h;unfold zaw;have:=zcs r.h (by omega);have:=zcs r.p (by omega);have:=zcs r.l (by omega);simp only[List.length_append];omega
theorem ze7 (p:Po) (h:p.nm.size≤1000000∧p.ts.length≤100∧∀ t∈p.ts,t.1.size≤1000000):(za7 p).length≤101001420:=by
 obtain⟨h1,h2,h3⟩:=h;unfold za7 zl8;have:=zcs p.nm (by omega);have:=zap p.ts.length (by omega);have h5:=zcg tgB 1000014 p.ts (fun x hx=>zn5 x (h3 x hx));have h6:1000014*p.ts.length≤1000014*100:=Nat.mul_le_mul_left _ h2;simp only[List.length_append];omega
theorem tx3 (r:Rt):zt0 [r.h,r.p,r.l]=zaw r:=by simp[zt0,zaw]
theorem zfo (base:Nat) {w:World} (r:Rt) {sp:Option Addr} {n0 c:Nat} {l:List Nat} (hn0:l.length=n0) (hown:OwnB base w sp c l)
  (hr:r.h.size≤1000000∧r.p.size≤1000000∧r.l.size≤1000000) (hsz:l.length+3000018≤140737488355328) (hbase:base≤w.heap.size) :
  Calls Tryz.prog 93 #[.slice sp n0 c,zdi r] w fun e w'=>∃ sp' n' c',e=.returned (.slice sp' n' c')∧Hid ((l++zaw r).length=n')∧OwnB base w' sp' c' (l++zaw r)∧Grew w sp w' sp':=by
 obtain⟨h1,h2,h3⟩:=hr;have E:=zaa (tx3 r);unfold zdi;obtain⟨rh,rp,rl⟩:=r;simp only at *;have bX:=zaa (show Below w.heap.size w (w.alloc (.cells #[.string rh,.string rp,.string rl] 56)) from(Below.refl _ _).alloc (Nat.le_refl _) _);have X1:=zad w (.cells #[.string rh,.string rp,.string rl] 56);have c0':=zae X1 0 (.string rh) rfl;have c1':=zae X1 1 (.string rp) rfl;have c2':=zae X1 2 (.string rl) rfl;have bB:=zaa (show Below (w.alloc (.cells #[.string rh,.string rp,.string rl] 56)).heap.size (w.alloc (.cells #[.string rh,.string rp,.string rl] 56)) ((w.alloc (.cells #[.string rh,.string rp,.string rl] 56)).alloc (.cells (zeu [rh,rp,rl]) 9)) from(Below.refl _ _).alloc (Nat.le_refl _) _);have OV:=zaa ((hown.later (za bX)).later (za bB));have CT:=zaa (zdv base hn0 (za OV) (w.heap.size+1) 3 3 [rh,rp,rl] rfl (by have:=zad (w.alloc (.cells #[.string rh,.string rp,.string rl] 56)) (.cells (zeu [rh,rp,rl]) 9);rwa [zri] at this) (by intro y hy;simp at hy;rcases hy with rfl|rfl|rfl <;> assumption) (by omega) (by omega) (by have:=(za bX).size;have:=(za bB).size;omega));have bZ:=zaa ((za bX).trans ((za bB).mono (za bX).size));rw[za E] at CT;rw[show zeu [rh,rp,rl]=#[.string rh,.string rp,.string rl] from rfl] at CT bB OV bZ;clear X1;go_enter Tryz.func93,Tryz.ntmps93
 go_wp2_with fail
 refine(za CT).mono ?_;rintro e U1 ⟨s1,n1,c1,rfl,hn2,ho2,hg2⟩;have HO2:=zaa ho2;have HG2:=zaa (Grew.aside (za bZ) hg2);clear ho2 hg2
 go_wp2
 go_ret
 exact⟨s1,n1,c1,rfl,by first|exact hn2|exact zaa (by simpa using za hn2),za HO2,za HG2⟩
theorem zem (base:Nat) {w0 w:World} {e:Cf} {h:CfH} (hC:CfAt w0 e h) (hS:SmallT e) {sp:Option Addr} (h0:CKs w0 w sp) {n0 c:Nat} {l:List Nat} (hn0:l.length=n0) (hown:OwnB base w sp c l)
  (hsz:l.length≤1000000) (hbase:base≤w.heap.size) :
  Calls Tryz.prog 48 #[.slice sp n0 c,zcw e h] w fun r w'=>∃ sp' n' c',r=.returned (.slice sp' n' c')∧Hid ((l++zav e).length=n')∧OwnB base w' sp' c' (l++zav e)∧Grew w sp w' sp':=by
 have HP:=zaa hC.pos;have HR:=zaa hC.rts;have EB:=zaa (show zav e=zal e.ps.length++(e.ps.flatMap za7++(zal e.rs.length++e.rs.flatMap zaw)) from rfl);have SP:=zaa hS.ps;have SR:=zaa hS.rs;have hpn:=hS.pn;have hrn:=hS.rn;unfold zcw;obtain⟨ver,rs,ps⟩:=e;obtain⟨ra,rc,pa,pc⟩:=h;simp only at *;generalize zav ⟨ver,rs,ps⟩=CB at *;generalize hm:ps.length=m at *;generalize hk:rs.length=k at *;have HM:=zaa hm;have HK:=zaa hk;have HO:=zaa hown;have H0:=zaa h0
 have LP:=zaa (show ∀ j,j≤m→((ps.take j).flatMap za7).length≤101001420*j from fun j hj=>by
  have h3:=zcg za7 101001420 (ps.take j) (fun x hx=>ze7 x (za SP x (List.mem_of_mem_take hx)));have h4:(ps.take j).length≤j:=by rw[List.length_take];omega
  exact Nat.le_trans h3 (Nat.mul_le_mul_left _ h4))
 have LR:=zaa (show ∀ j,j≤k→((rs.take j).flatMap zaw).length≤3000018*j from fun j hj=>by
  have h3:=zcg zaw 3000018 (rs.take j) (fun x hx=>zc9 x (za SR x (List.mem_of_mem_take hx)));have h4:(rs.take j).length≤j:=by rw[List.length_take];omega
  exact Nat.le_trans h3 (Nat.mul_le_mul_left _ h4))
 have L1:=zaa (zap m (by omega));have L2:=zaa (zap k (by omega));have TP:=zaa (show ps.take m=ps from List.take_of_length_le (by rw[za HM];exact Nat.le_refl _));have bX:=zaa (show Below w.heap.size w (w.alloc (.cells #[.int .i64 ver,.slice ra k rc,.slice pa m pc] 45)) from(Below.refl _ _).alloc (Nat.le_refl _) _);have X1:=zaa (zad w (.cells #[.int .i64 ver,.slice ra k rc,.slice pa m pc] 45));have c2':=zae (za X1) 2 (.slice pa m pc) rfl;have bB:=zaa (show Below (w.alloc (.cells #[.int .i64 ver,.slice ra k rc,.slice pa m pc] 45)).heap.size (w.alloc (.cells #[.int .i64 ver,.slice ra k rc,.slice pa m pc] 45)) ((w.alloc (.cells #[.int .i64 ver,.slice ra k rc,.slice pa m pc] 45)).alloc (.cells (zcl [m]) 3)) from(Below.refl _ _).alloc (Nat.le_refl _) _);have OV:=zaa (((za HO).later (za bX)).later (za bB));have CN:=zaa (zbb base hn0 (za OV) (w.heap.size+1) 1 1 [m] rfl (by have:=zad (w.alloc (.cells #[.int .i64 ver,.slice ra k rc,.slice pa m pc] 45)) (.cells (zcl [m]) 3);rwa [zri] at this) (by intro n hn;simp at hn;omega) (by omega) (by omega) (by have:=(za bX).size;have:=(za bB).size;omega));have XE:=zaa (zac (za bB) (za X1));have bZ:=zaa ((za bX).trans ((za bB).mono (za bX).size));rw[zuo] at CN;rw[show zcl [m]=#[.int .i64 (m:Int)] from rfl] at CN bB OV XE bZ;clear hC hS h0 hown hn0 hm hk;go_enter Tryz.func48,Tryz.ntmps48
 go_wp2_with fail
 refine(za CN).mono ?_;rintro r V0 ⟨s0,m0,c0,rfl,hn1,ho1,hg1⟩;generalize hE:w.heap.size=E at *;have hbase2:base≤w.heap.size:=by rw[hE];exact hbase
 have XU:=Grew.block hg1 (za XE) ((za OV).ne (za XE) zc1.2.2.2);have d2:=zae XU 2 (.slice pa m pc) rfl;have XV:=zaa XU;have HO1:=zaa ho1;have HG1:=zaa (Grew.aside (by rw[hE];exact za bZ) hg1);have HW1:=zaa ((za H0).grew (za HG1));clear XU ho1 hg1 CN c2'
 go_wp2_with fail
 go_loopw [0,18] (fun v i wr=>∃ (j:Nat) (sp':Option Addr) (n' c':Nat),j≤m∧v=.slice sp' n' c'∧i=.int .i64 (j:Int)∧Hid ((l++zal m++(ps.take j).flatMap za7).length=n')∧Hid (OwnB base wr sp' c' (l++zal m++(ps.take j).flatMap za7))∧Hid (Grew w sp wr sp')∧Hid (CKs w0 wr sp')∧Hid (wr.heap[E]? = some (.cells #[.int .i64 ver,.slice ra k rc,.slice pa m pc] 45 (0,0)))) (fun _ i _=>m - (intOf i).toNat)
 case atStart=>exact⟨0,s0,m0,c0,by omega,rfl,rfl,zaa (by simpa using za hn1),zaa (by simpa using za HO1),HG1,HW1,XV⟩
 case round =>
  obtain⟨j,sp',n',c',hj,rfl,rfl,hl',ho',hg',hw',hx'⟩:=hrel;have hbr:base≤wr.heap.size:=Nat.le_trans hbase2 (za hg').grown.size;by_cases hjm:j<m
  ·have y0:(0:Int)≤(j:Int):=by omega
   have y1:(j:Int)<(m:Int):=by omega
   have hjl:j<ps.length:=by rw[za HM];exact hjm
   obtain⟨b1,o1,ta,tc,rfl,q0,q1,hT,hlt,_⟩:=(za HP).cell j hjl;have p0:=(za hw').cell q0;have p1:=(za hw').cell q1;obtain⟨z1,z2,z3⟩:=za SP ps[j] (List.getElem_mem hjl);have FT:=zaa (zb5 za7 ps j hjl)
   have LJ:=zaa (show(l++zal m++(ps.take j).flatMap za7).length+1000020+1000014*ps[j].ts.length≤140737488355328 by
    have h3:=za LP j (by omega);have h4:101001420*j≤101001420*1000:=Nat.mul_le_mul_left _ (by omega);have h5:1000014*ps[j].ts.length≤1000014*100:=Nat.mul_le_mul_left _ z2;have h6:=za L1
    rw[List.length_append,List.length_append];omega)
   generalize ps[j]=p at *;obtain⟨nm,ts⟩:=p;simp only at p0 p1 z1 z2 z3 hT LJ;clear q0 q1 hlt;generalize htn:ts.length=tn at *;have bX2:=zaa (show Below wr.heap.size wr (wr.alloc (.cells #[.string nm,.slice ta tn tc] 54)) from(Below.refl _ _).alloc (Nat.le_refl _) _);have X2:=zad wr (.cells #[.string nm,.slice ta tn tc] 54);have e0:=zae X2 0 (.string nm) rfl;have e1:=zae X2 1 (.slice ta tn tc) rfl;have XE2:=zaa (zac (za bX2) (za hx'));have OV2:=zaa ((za ho').later (za bX2));have AP:=zaa (zfn base (nm:=nm) (c:=c') (sp:=sp') hT ((za hw').later (za bX2)) (za hl') (za OV2) tn tc htn z1 z3 (za LJ) (by omega) (Nat.le_trans hbr (za bX2).size));clear X2 hT htn
   go_wp2_with fail
   refine(za AP).mono ?_;rintro r U1 ⟨s1,n1,c1,rfl,hn2,ho2,hg2⟩;have hxu:=zaa (Grew.block hg2 (za XE2) ((za OV2).ne (za XE2) zc1.2.2.2));have HG2:=zaa (Grew.aside (za bX2) hg2);have hw2:=zaa ((za hw').grew (za HG2));have hg4:=zaa ((za hg').trans (za HG2));rw[List.append_assoc (l++zal m),← za FT] at hn2 ho2;have HO2:=zaa ho2;clear ho2 hg2
   go_wp2
   exact⟨⟨j+1,s1,n1,c1,by omega,rfl,by go_num,by first|exact hn2|exact zaa (by rw[List.length_append];exact za hn2),za HO2,za hg4,hw2,hxu⟩,by simp[intOf];omega⟩
  ·have hjj:¬ (j:Int)<(m:Int):=by omega
   obtain rfl:j=m:=by omega
   rw[za TP] at hl' ho';have d1:=zae (za hx') 1 (.slice ra k rc) rfl
   have LQ:=zaa (show(l++zal j++ps.flatMap za7).length≤1000000+6+101001420000 by
    have h3:=za LP j (Nat.le_refl _);rw[za TP] at h3;have h4:101001420*j≤101001420*1000:=Nat.mul_le_mul_left _ (by omega);have h6:=za L1
    rw[List.length_append,List.length_append];omega)
   have bB2:=zaa (show Below wr.heap.size wr (wr.alloc (.cells (zcl [k]) 3)) from(Below.refl _ _).alloc (Nat.le_refl _) _);have OV3:=zaa ((za ho').later (za bB2));have XE3:=zaa (zac (za bB2) (za hx'));have CN2:=zaa (zbb base (za hl') (za OV3) wr.heap.size 1 1 [k] rfl (zad wr (.cells (zcl [k]) 3)) (by intro n hn;simp at hn;omega) (by have:=za LQ;omega) (by omega) (Nat.le_trans hbr (za bB2).size));rw[zuo] at CN2;rw[show zcl [k]=#[.int .i64 (k:Int)] from rfl] at CN2 bB2 OV3 XE3
   go_wp2_with fail
   refine(za CN2).mono ?_;rintro r V2 ⟨s2,m2,c2,rfl,hn3,ho3,hg3⟩;have hxu:=zaa (Grew.block hg3 (za XE3) ((za OV3).ne (za XE3) zc1.2.2.2));have f1:=zae (za hxu) 1 (.slice ra k rc) rfl;have HG3:=zaa (Grew.aside (za bB2) hg3);have hw3:=zaa ((za hw').grew (za HG3));have hg5:=zaa ((za hg').trans (za HG3));have HO3:=zaa ho3;clear ho3 hg3 CN2
   go_wp2_with fail
   go_loopw [0,35] (fun v i wr=>∃ (q:Nat) (sp':Option Addr) (n' c':Nat),q≤k∧v=.slice sp' n' c'∧i=.int .i64 (q:Int)∧Hid ((l++zal j++ps.flatMap za7++zal k++(rs.take q).flatMap zaw).length=n')∧Hid (OwnB base wr sp' c' (l++zal j++ps.flatMap za7++zal k++(rs.take q).flatMap zaw))∧Hid (Grew w sp wr sp')∧Hid (CKs w0 wr sp')) (fun _ i _=>k - (intOf i).toNat)
   case atStart=>exact⟨0,s2,m2,c2,by omega,rfl,rfl,zaa (by simpa using za hn3),zaa (by simpa using za HO3),hg5,hw3⟩
   case round =>
    obtain⟨q,sp',n',c',hq,rfl,rfl,hl2,ho2,hg2,hw2⟩:=hrel;have hbr2:base≤wr.heap.size:=Nat.le_trans hbase2 (za hg2).grown.size;by_cases hqk:q<k
    ·have y0:(0:Int)≤(q:Int):=by omega
     have y1:(q:Int)<(k:Int):=by omega
     have hql:q<rs.length:=by rw[za HK];exact hqk
     obtain⟨b1,o1,rfl,q0,q1,q2⟩:=(za HR).cell q hql;have p0:=(za hw2).cell q0;have p1:=(za hw2).cell q1;have p2:=(za hw2).cell q2;have z:=za SR rs[q] (List.getElem_mem hql);have FT:=zaa (zb5 zaw rs q hql)
     have LJ:=zaa (show(l++zal j++ps.flatMap za7++zal k++(rs.take q).flatMap zaw).length+3000018≤140737488355328 by
      have h3:=za LR q (by omega);have h4:3000018*q≤3000018*1000:=Nat.mul_le_mul_left _ (by omega);have h6:=za L2;have h7:=za LQ
      rw[List.length_append,List.length_append];omega)
     generalize rs[q]=r at *;have bX2:=zaa (show Below wr.heap.size wr (wr.alloc (.cells #[.string r.h,.string r.p,.string r.l] 56)) from(Below.refl _ _).alloc (Nat.le_refl _) _);have X2:=zad wr (.cells #[.string r.h,.string r.p,.string r.l] 56);have OV2:=zaa ((za ho2).later (za bX2));have AP:=zaa (zfo base r (za hl2) (za OV2) z (za LJ) (Nat.le_trans hbr2 (za bX2).size));unfold zdi at AP;obtain⟨rh,rp,rl⟩:=r;simp only at *;have e0:=zae X2 0 (.string rh) rfl;have e1:=zae X2 1 (.string rp) rfl;have e2:=zae X2 2 (.string rl) rfl;clear X2 q0 q1 q2
     go_wp2_with fail
     refine(za AP).mono ?_;rintro r U1 ⟨s1,n1,c1,rfl,hn2,ho3,hg3⟩;have HG4:=zaa (Grew.aside (za bX2) hg3);have hw4:=zaa ((za hw2).grew (za HG4));have hg4:=zaa ((za hg2).trans (za HG4));rw[List.append_assoc (l++zal j++ps.flatMap za7++zal k),← za FT] at hn2 ho3;have HO2:=zaa ho3;clear ho3 hg3
     go_wp2
     exact⟨⟨q+1,s1,n1,c1,by omega,rfl,by go_num,by first|exact hn2|exact zaa (by simpa using za hn2),za HO2,za hg4,hw4⟩,by simp[intOf];omega⟩
    ·have hqq:¬ (q:Int)<(k:Int):=by omega
     have EE:=zaa (show l++zal j++ps.flatMap za7++zal k++(rs.take q).flatMap zaw=l++CB by
      rw[za EB,List.take_of_length_le (by rw[za HK];omega)]
      simp only[List.append_assoc])
     rw[za EE] at hl2 ho2
     go_wp2
     go_ret
     exact⟨sp',n',c',rfl,by first|exact hl2|exact zaa (by simpa using za hl2),za ho2,za hg2⟩
theorem zhz (base:Nat) {w0 w:World} {e:Cf} {h:CfH} (hC:CfAt w0 e h) (hS:SmallT e) (h0:Below w0.heap.size w0 w) (hb0:w0.heap.size≤base) {sp:Option Addr} {n0 c:Nat} {l:List Nat} (hn0:l.length=n0) (hown:OwnB base w sp c l)
  (hsz:l.length≤1000000) (hbase:base≤w.heap.size) :
  Calls Tryz.prog 48 #[.slice sp n0 c,zcw e h] w fun r w'=>∃ sp' n' c',r=.returned (.slice sp' n' c')∧Hid ((l++zav e).length=n')∧OwnB base w' sp' c' (l++zav e)∧Grew w sp w' sp' :=
 zem base hC hS (CKs.of_below h0 hb0 hown) hn0 hown hsz hbase
end
end Go.Proofs.YtjcjleaicjhpeaaGreatDoor
