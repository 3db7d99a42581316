/- Logs: hard states and entries are taken; any record. -/
import Derived.Test.YtofllbpfajppeaaGreatDoorB13
import Derived.Laws.ResultCell
import Derived.Test.YtofllbpfajppeaaGreatDoorB10
set_option linter.unusedVariables false
set_option maxRecDepth 20000
set_option maxHeartbeats 16000000
namespace Go.Proofs.YtofllbpfajppeaaGreatDoor
section
open Go.ChangeShapes Go.WideShapes Go.ChangeAt Go.RowKit
section
variable {w:World} {B:Nat} {T:TypeId} {p q:List Value} {c:Wc} {ep:Option Addr} {ec:Nat} {base:Nat} {hs:List (Option Addr×Nat)}
theorem zl8 (h:CtAt w B T p q c ep ec) (o:Nat) (ho:p.length=o) (hT:T≠64) (hT2:T≠5) (hE:OwnL base w ep ec c.es hs) (a:Option Addr) (n k:Nat) (l:List Nat) (hn:l.length=n) (hm:n≤140737488355328) (hb:BytesAt w a l) :
  Calls Tryz.prog 159 #[.pointer (some ⟨B,o,none⟩),.slice a n k] w (zfs base w B T p q ep hs (zje c l)):=by
 have MR:=zaa (show zje c l=(match za6 l (zd9 l 0) with
  |.error _=>none
  |.ok (t,v)=>some ⟨c.bi,c.bt,t,v,c.es⟩) from rfl)
 have HC:=zaa h;have HO:=zaa ho;have HE:=zaa hE;have T1:=zaa (zn6 a n k l w hn (by simp only[maxLen];omega) hb);have hNB:∀ g,zc6 ep hs g→g≠B:=fun g hg e=>by
  subst e;obtain⟨_,_,cur,T',hc,hT'⟩:=hE.foot g hg;rw[h.row] at hc;simp only[Option.some.injEq,Obj.cells.injEq] at hc;rw[← hc.2.1] at hT';rcases hT' with a|a
  ·exact hT a
  ·exact hT2 a
 have NB:=zaa hNB;cases h1:za6 l (zd9 l 0) with
 |error x =>
  rw[h1] at MR T1;dsimp only at MR;rw[za MR];have hx:=zez h1 (fun y hy=>zkr hy);have hx0:¬ (x:Int)=0:=by omega
  have hx1:((x:Int)==0)=false:=by simp;omega
  unfold zj4 at T1;dsimp only at T1;clear hb h hn ho h1 hE hNB;go_enter Tryz.func159,Tryz.ntmps159
  go_wp2_with fail
  go_at_call 191
  refine(za T1).mono ?_;rintro e V1 ⟨rfl,v1⟩;have FE:=zaa (zeq (base:=base) (B:=B) (T:=T) (p:=p) (q:=q) (ep:=ep) (hs:=hs) (v1.alloc v1.size (.cells #[.int .i64 0,.int .i64 0] 29)));clear v1
  go_wp2
  go_ret
  exact za FE
 |ok r =>
  obtain⟨t,v⟩:=r;rw[h1] at MR T1;dsimp only at MR;rw[za MR];unfold zj4 at T1;dsimp only at T1;clear hb h hn ho h1 hE hNB;go_enter Tryz.func159,Tryz.ntmps159
  go_wp2_with fail
  go_at_call 191
  refine(za T1).mono ?_;rintro e V1 ⟨rfl,v1⟩;have B2:=zaa (v1.alloc v1.size (.cells #[.int .i64 (t:Int),.int .i64 (v:Int)] 29));have XH:=zad V1 (.cells #[.int .i64 (t:Int),.int .i64 (v:Int)] 29);obtain⟨x0,x1,_,_⟩:=zaz XH;have CT:=zaa ((za HC).later (za B2));have BL:=zaa (show B<V1.heap.size from Nat.lt_of_lt_of_le (za HC).lt v1.size);clear v1 XH;obtain⟨⟨c0,c1,c2,c3,c4⟩,fz⟩:=(za CT).cells o (za HO);have f2:=fz (o+2);have f3:=fz (o+3);have S1:=(za CT).set o 2 (za HO) ⟨c.bi,c.bt,t,c.hv,c.es⟩ ep ec (.int .i64 (t:Int)) rfl (by omega);have S2:=S1.set o 3 (za HO) ⟨c.bi,c.bt,t,v,c.es⟩ ep ec (.int .i64 (v:Int)) rfl (by omega)
  have FE:=zaa (show zfs base w B T p q ep hs (some ⟨c.bi,c.bt,t,v,c.es⟩) (.returned (.bool true)) (((V1.alloc (.cells #[.int .i64 (t:Int),.int .i64 (v:Int)] 29)).setCell ⟨B,o+2,none⟩ (.int .i64 (t:Int))).setCell ⟨B,o+3,none⟩ (.int .i64 (v:Int))) from by
   have hoth:∀ j,j≠B→(((V1.alloc (.cells #[.int .i64 (t:Int),.int .i64 (v:Int)] 29)).setCell ⟨B,o+2,none⟩ (.int .i64 (t:Int))).setCell ⟨B,o+3,none⟩ (.int .i64 (v:Int))).heap[j]? = (V1.alloc (.cells #[.int .i64 (t:Int),.int .i64 (v:Int)] 29)).heap[j]?:=fun j hj=>(heap_setCell_other _ ⟨B,o+3,none⟩ j _ hj).trans (heap_setCell_other _ ⟨B,o+2,none⟩ j _ hj);refine⟨⟨(za B2).os,(za B2).tape,(za B2).output,by have:=(za B2).size;simp only[World.setCell];simp at this ⊢;omega,fun j h1 h2 _=>(hoth j h2).trans ((za B2).block j h1)⟩,rfl,ep,ec,hs,S2,?_,fun g hg=>.inl hg⟩
   exact((za HE).later (za B2)).same (fun g hg=>hoth g (za NB g hg)))
  clear S1 S2 fz c0 c1 c4;have hne:V1.heap.size≠B:=by have:=za BL;omega
  have hne':B≠V1.heap.size:=fun e=>hne e.symm
  go_wp2
  go_ret
  exact za FE
theorem zlp (h:CtAt w B T p q c ep ec) (o:Nat) (ho:p.length=o) (hT:T≠64) (hT2:T≠5) (hE:OwnL base w ep ec c.es hs) (hbi:c.bi≤1099511627776) (hle:c.es.length≤1000000) (hbs:base≤w.heap.size) (a:Option Addr) (n k:Nat) (l:List Nat) (hn:l.length=n) (hm:n≤140737488355328) (hnk:n≤k) (hz:a=none→k=0) (hb:BytesAt w a l) :
  Calls Tryz.prog 160 #[.pointer (some ⟨B,o,none⟩),.slice a n k] w (zfs base w B T p q ep hs (zuq c l)):=by
 have MR:=zaa (show zuq c l=(match za6 l (za9 l 0) with
  |.error _=>none
  |.ok e=>if zde c (e.2.2.1:Int)=true then some (zfb c e) else none) from rfl)
 have HC:=zaa h;have HO:=zaa ho;have HE:=zaa hE;have T1:=zl0 a n k l w hn (by omega) (by omega) hz hb;cases h1:za6 l (za9 l 0) with
 |error x =>
  rw[h1] at MR T1;dsimp only at MR;rw[za MR];have hx:=zez h1 (fun y hy=>zhj hy);have hx0:¬ (x:Int)=0:=by omega
  have hx1:((x:Int)==0)=false:=by simp;omega
  unfold zo8 at T1;dsimp only at T1;have T1:=zaa T1;clear hb h hn ho h1 hE;go_enter Tryz.func160,Tryz.ntmps160
  go_wp2_with fail
  go_at_call 192
  refine(za T1).mono ?_;rintro e V1 ⟨⟨v,rfl,rfl⟩,v1⟩;have FE:=zaa (zeq (base:=base) (B:=B) (T:=T) (p:=p) (q:=q) (ep:=ep) (hs:=hs) (v1.alloc v1.size (.cells #[.int .i64 0,.int .i64 0,.int .i64 0,.slice none 0 0] 64)));clear v1
  go_wp2
  go_ret
  exact za FE
 |ok r =>
  obtain⟨ek,et,ei,ed⟩:=r;rw[h1] at MR T1;dsimp only at MR;unfold zo8 at T1;dsimp only at T1;have T1:=zaa T1;have FC:=zaa (fun (W:World) (u:Below w.heap.size w W)=>zmo ((za HC).later u) o (za HO) hbi (by omega) (ei:Int));cases hf:zde c (ei:Int) with
  |false =>
   rw[hf,if_neg (by simp)] at MR;rw[hf] at FC;rw[za MR];clear hb h hn ho h1 hE hf;go_enter Tryz.func160,Tryz.ntmps160
   go_wp2_with fail
   go_at_call 192
   refine(za T1).mono ?_;rintro e V1 ⟨⟨v,rfl,sp,m,kc,rfl,hmm,o1⟩,v1⟩;have B2:=zaa (v1.alloc v1.size (.cells #[.int .i64 (ek:Int),.int .i64 (et:Int),.int .i64 (ei:Int),.slice sp m kc] 64));have XH:=zad V1 (.cells #[.int .i64 (ek:Int),.int .i64 (et:Int),.int .i64 (ei:Int),.slice sp m kc] 64);have x2:=zab XH 2 _ rfl;clear v1 XH o1
   go_wp2_with fail
   clear x2;generalize V1.alloc _=V2 at *;go_at_call 105
   refine(za FC _ (za B2)).mono ?_;rintro e V3 ⟨rfl,v3⟩;have FE:=zaa (zeq (base:=base) (B:=B) (T:=T) (p:=p) (q:=q) (ep:=ep) (hs:=hs) ((za B2).trans (v3.mono (za B2).size)));clear v3
   go_wp2
   go_ret
   exact za FE
  |true =>
   rw[hf,if_pos rfl] at MR;rw[hf] at FC;rw[za MR];have hff:c.bi<ei∧ei≤c.bi+c.es.length+1:=by
    unfold zde at hf;rw[Bool.and_eq_true,decide_eq_true_eq,decide_eq_true_eq] at hf;omega
   have AC:=zaa (fun (W:World) (u:Below w.heap.size w W) (sp:Option Addr) (m kc:Nat) (hm:ed.length=m) (hd:Bx base W sp kc ed)=>zpd ((za HC).later u) o (za HO) hT hT2 ((za HE).later u) hbi hle (ek,et,ei,ed) sp m kc hm hd hff.1 hff.2 (Nat.le_trans hbs u.size));dsimp only at AC;have HBS:=zaa hbs;clear hb h hn ho h1 hE hf hff hbs;go_enter Tryz.func160,Tryz.ntmps160
   go_wp2_with fail
   go_at_call 192
   refine(za T1).mono ?_;rintro e V1 ⟨⟨v,rfl,sp,m,kc,rfl,hmm,o1⟩,v1⟩;have B2:=zaa (v1.alloc v1.size (.cells #[.int .i64 (ek:Int),.int .i64 (et:Int),.int .i64 (ei:Int),.slice sp m kc] 64));have XH:=zad V1 (.cells #[.int .i64 (ek:Int),.int .i64 (et:Int),.int .i64 (ei:Int),.slice sp m kc] 64);have ul:Below V1.heap.size V1 (V1.alloc (.cells #[.int .i64 (ek:Int),.int .i64 (et:Int),.int .i64 (ei:Int),.slice sp m kc] 64)):=(Below.refl _ _).alloc (Nat.le_refl _) _;have XX:=zaa XH;have DB:=zaa (show Bx w.heap.size (V1.alloc (.cells #[.int .i64 (ek:Int),.int .i64 (et:Int),.int .i64 (ei:Int),.slice sp m kc] 64)) sp kc ed from o1.toBx.later ul);have x2:=zab XH 2 _ rfl;clear v1 XH o1 ul
   go_wp2_with fail
   clear x2;generalize V1.alloc _=V2 at *;generalize V1.heap.size=X at *;go_at_call 105
   refine(za FC _ (za B2)).mono ?_;rintro e V3 ⟨rfl,v3⟩;have B3:=zaa ((za B2).trans (v3.mono (za B2).size));have XX:=zaa (zac v3 (za XX));have DB:=zaa ((za DB).later v3);have x0:=zab (za XX) 0 _ rfl;have x1:=zab (za XX) 1 _ rfl;have x2:=zab (za XX) 2 _ rfl;have x3:=zab (za XX) 3 _ rfl;clear v3
   go_wp2_with fail
   clear x0 x1 x2 x3;go_at_call 67
   refine(za AC V3 (za B3) sp m kc (za hmm) ((za DB).mono (za HBS))).mono ?_;rintro e V4 ⟨rfl,ep',ec',hs',ct,ol,gr,ft⟩
   have FE:=zaa (show zfs base w B T p q ep hs (some (zfb c (ek,et,ei,ed))) (.returned (.bool true)) V4 from by
    refine⟨⟨gr.os.trans (za B3).os,gr.tape.trans (za B3).tape,gr.output.trans (za B3).output,Nat.le_trans (za B3).size gr.size,fun i h1 h2 h3=>(gr.block i (Nat.lt_of_lt_of_le h1 (za B3).size) h2 h3).trans ((za B3).block i h1)⟩,rfl,ep',ec',hs',ct,ol,fun g hg=>?_⟩;rcases ft g hg with a|a|a
    ·exact .inl a
    ·exact .inr ((za DB).isT g a).1
    ·exact .inr (Nat.le_trans (za B3).size a))
   clear ct ol gr ft
   go_wp2
   go_ret
   exact za FE
end
section
variable {w:World} {B:Nat} {T:TypeId} {p q:List Value} {c:Wc} {ep:Option Addr} {ec:Nat} {base:Nat} {hs:List (Option Addr×Nat)}
theorem zv5 (h:CtAt w B T p q c ep ec) (o:Nat) (ho:p.length=o) (hT:T≠64) (hT2:T≠5) (hE:OwnL base w ep ec c.es hs) (hbi:c.bi≤1099511627776) (hle:c.es.length≤1000000) (hbs:base≤w.heap.size) (a:Option Addr) (n k:Nat) (l:List Nat) (hn:l.length=n) (hm:n≤140737488355328) (hnk:n≤k) (hz:a=none→k=0) (hb:BytesAt w a l) :
  Calls Tryz.prog 126 #[.pointer (some ⟨B,o,none⟩),.slice a n k] w (zfs base w B T p q ep hs (zcz c l)):=by
 cases l with
 |nil =>
  subst hn;have FE:=zaa (show zfs base w B T p q ep hs (zcz c []) (.returned (.bool false)) w from zeq (Below.refl _ _));clear h hE hb hz hnk hm;go_enter Tryz.func126,Tryz.ntmps126
  go_wp2
  go_ret
  exact za FE
 |cons kd b =>
  obtain⟨bb,off,hoff,hcell⟩:=hb.cell 0 (by simp);have hkd:=hb.lt kd (by simp);have hln:b.length=n - 1:=by rw[← hn];simp
  have hn1:1≤n:=by rw[← hn];simp
  have hbt:BytesAt w (slp a 1 k) b:=by
   have:=hb.drop 1 k (by rw[hn];exact hnk)
   simpa using this
  have hz':slp a 1 k=none→k - 1=0:=fun e=>by
   unfold slp at e;split at e
   ·rename_i h1
    omega
   ·subst hoff;cases e
  have hsl:=fun u=>zd2 a n k 1 hn1 u;have MC:=zaa (zl9 (base:=base) (hs:=hs) h o ho (slp a 1 k) (n - 1) (k - 1) b hln (by omega) hbt);have HCl:=zaa (zl8 h o ho hT hT2 hE (slp a 1 k) (n - 1) (k - 1) b hln (by omega) hbt);have EC:=zaa (zlp h o ho hT hT2 hE hbi hle hbs (slp a 1 k) (n - 1) (k - 1) b hln (by omega) (by omega) hz' hbt);have TR:=zaa (show zcz c (kd::b)=(if kd=1 then zjh c b else if kd=2 then zje c b else if kd=3 then zuq c b else none) from rfl);rw[hoff] at MC HCl EC hsl ⊢;rw[Nat.add_zero] at hcell;have hc2:w.cell? ⟨bb,off,none⟩=some (.int .u8 (kd:Int)):=hcell;clear hcell;have hn0:((n:Int)==0)=false:=by simp;omega
  have hn2:(0:Int)<(n:Int):=by omega
  have B0:=zaa (show zfs base w B T p q ep hs none (.returned (.bool false)) w from zeq (Below.refl _ _));generalize slp (some ⟨bb,off,none⟩) 1 k=sl at *;clear hb hbt hoff hE h hln hz hz';have hsl1:∀ u,(Instr.slice 62 (.slice (some ⟨bb,off,none⟩) n k) (some (.int .i64 1)) none none).run Tryz.prog u=.ok (.slice sl (n - 1) (k - 1)) u:=hsl;clear hsl;by_cases h1:kd=1
  ·rw[if_pos h1] at TR;rw[za TR];subst h1;go_enter Tryz.func126,Tryz.ntmps126
   go_wp2_with fail
   go_at_call 158
   refine(za MC).mono ?_;intro e V hV;have FE:=zaa hV;obtain⟨b',rfl⟩:∃ b':Bool,e=.returned (.bool b'):=by
    have:=hV.2;cases hr:zjh c b with
    |none=>rw[hr] at this;exact⟨_,this⟩
    |some c'=>rw[hr] at this;exact⟨_,this.1⟩
   clear hV
   go_wp2
   go_ret
   exact za FE
  ·rw[if_neg h1] at TR;have e1:((kd:Int)==1)=false:=by simp;omega
   by_cases h2:kd=2
   ·rw[if_pos h2] at TR;rw[za TR];subst h2;go_enter Tryz.func126,Tryz.ntmps126
    go_wp2_with fail
    go_at_call 159
    refine(za HCl).mono ?_;intro e V hV;have FE:=zaa hV;obtain⟨b',rfl⟩:∃ b':Bool,e=.returned (.bool b'):=by
     have:=hV.2;cases hr:zje c b with
     |none=>rw[hr] at this;exact⟨_,this⟩
     |some c'=>rw[hr] at this;exact⟨_,this.1⟩
    clear hV
    go_wp2
    go_ret
    exact za FE
   ·rw[if_neg h2] at TR;have e2:((kd:Int)==2)=false:=by simp;omega
    by_cases h3:kd=3
    ·rw[if_pos h3] at TR;rw[za TR];subst h3;go_enter Tryz.func126,Tryz.ntmps126
     go_wp2_with fail
     go_at_call 160
     refine(za EC).mono ?_;intro e V hV;have FE:=zaa hV;obtain⟨b',rfl⟩:∃ b':Bool,e=.returned (.bool b'):=by
      have:=hV.2;cases hr:zuq c b with
      |none=>rw[hr] at this;exact⟨_,this⟩
      |some c'=>rw[hr] at this;exact⟨_,this.1⟩
     clear hV
     go_wp2
     go_ret
     exact za FE
    ·rw[if_neg h3] at TR;rw[za TR];have e3:((kd:Int)==3)=false:=by simp;omega
     have m1:¬ (kd:Int)=1:=by omega
     have m2:¬ (kd:Int)=2:=by omega
     have m3:¬ (kd:Int)=3:=by omega
     clear h1 h2 h3;go_enter Tryz.func126,Tryz.ntmps126
     go_wp2
     go_ret
     exact za B0
end
def zcq (l:List Nat):Bool:=l.head? == some 1
theorem zp1 (a:Option Addr) (n k:Nat) (l:List Nat) (w:World) (hn:l.length=n) (hm:n≤140737488355328) (hb:BytesAt w a l) :
  Calls Tryz.prog 125 #[.slice a n k] w fun e w'=>e=.returned (.bool (zcq l))∧w'=w:=by
 cases l with
 |nil =>
  obtain rfl:n=0:=by simpa using hn.symm
  clear hn hb hm;go_enter Tryz.func125,Tryz.ntmps125
  go_wp2
  go_ret
  exact⟨rfl,rfl⟩
 |cons kd b =>
  obtain⟨bb,off,rfl,hcell⟩:=hb.cell 0 (by simp);have hkd:=hb.lt kd (by simp);have hn1:1≤n:=by rw[← hn];simp
  have hn2:(0:Int)<(n:Int):=by omega
  rw[Nat.add_zero] at hcell;have hc2:w.cell? ⟨bb,off,none⟩=some (.int .u8 (kd:Int)):=hcell;clear hcell
  have FE:=zaa (show zcq (kd::b)=((kd:Int)==1) by
   unfold zcq;simp only[List.head?_cons];by_cases h:kd=1
   ·subst h;rfl
   ·rw[show((kd:Int)==1)=false by simp;omega]
    simpa using h)
  generalize zcq (kd::b)=im at *;clear hn hb;go_enter Tryz.func125,Tryz.ntmps125
  go_wp2
  go_ret
  exact⟨by rw[za FE];rfl,rfl⟩
structure RowsAt (w:World) (sp:Option Addr) (rs:List (List Nat)):Prop where
 cell:∀ i (hi:i<rs.length),∃ b off a k,sp=some ⟨b,off,none⟩∧w.cell? ⟨b,off+i,none⟩=some (.slice a rs[i].length k)∧BytesAt w a rs[i]∧rs[i].length≤k∧(a=none→k=0)
theorem OwnS.rows {base:Nat} {w:World} {sp:Option Addr} {n c:Nat} {rs:List (List Nat)} (h:OwnS base w (.slice sp n c) rs):RowsAt w sp rs:=by
 obtain⟨cs,hr,hd⟩:=h.ex;refine⟨fun i hi=>?_⟩;obtain⟨p,k,hc,ho⟩:=hd i hi;rcases hr.2 with⟨hv,h0⟩|⟨g,cap,cur,hv,hb,hg,hle,hmx,hsz,ht⟩
 ·omega
 ·simp only[Value.slice.injEq] at hv;obtain⟨rfl,_,rfl⟩:=hv;have e:rs.getD i []=rs[i]:=by rw[List.getD_eq_getElem?_getD,List.getElem?_eq_getElem hi];rfl
  rw[e] at hc ho;refine⟨g,0,p,k,rfl,?_,ho.bytes,ho.cap.1,ho.toBx.nil0⟩;rw[Nat.zero_add,cell_of_row w g _ cur _ _ hg,← Array.getElem?_toList];rw[← ht,List.getElem?_take] at hc;split at hc
  ·exact hc
  ·cases hc
def zb4 (c:Wc):List (List Nat)→Option Wc
 |[]=>some c
 |r::rs=>match zcz c r with
  |none=>none
  |some c'=>zb4 c' rs
theorem zb5 (c:Wc) (r:List Nat) (rs:List (List Nat)):zb4 c (r::rs)=(match zcz c r with
  |none=>none
  |some c'=>zb4 c' rs):=rfl
theorem zeh (c:Wc) (k:Nat) (b:List Nat):zcz c (k::b)=(if k=1 then zjh c b else if k=2 then zje c b else if k=3 then zuq c b else none):=rfl
def zc4:List (List Nat)→Option Wc
 |[]=>none
 |r::rs=>if zcq r=true then zb4 wc0 (r::rs) else none
theorem zfz (a b:List (List Nat)) (c:Wc):zb4 c (a++b)=(match zb4 c a with
  |none=>none
  |some c'=>zb4 c' b):=by
 induction a generalizing c with
 |nil=>rfl
 |cons r a ih =>
  rw[List.cons_append,zb5,zb5];cases zcz c r with
  |none=>rfl
  |some c'=>exact ih c'
theorem zjc (a:List (List Nat)) (r:List Nat) (c c':Wc) (h:zb4 c a=some c'):zb4 c (a++[r])=zcz c' r:=by
 rw[zfz,h];dsimp only;rw[zb5];cases zcz c' r <;> rfl
theorem zt3 {c c':Wc} {l:List Nat} (h:zcz c l=some c') (hl:∀ x∈l,x<256) (hb:c.bi≤1099511627776):c'.bi≤1099511627776∧c'.es.length≤c.es.length+1:=by
 cases l with
 |nil=>cases h
 |cons k b =>
  have hlb:∀ x∈b,x<256:=fun x hx=>hl x (List.mem_cons_of_mem _ hx);rw[zeh] at h;split at h
  ·unfold zjh at h;cases h1:zbh b 0 with
   |error x=>rw[h1] at h;cases h
   |ok r =>
    obtain⟨i,k1⟩:=r;rw[h1] at h;dsimp only at h;have hi:=zeu h1 hlb;cases h2:zbh b k1 with
    |error x=>rw[h2] at h;cases h
    |ok r2 =>
     obtain⟨t,k2⟩:=r2;rw[h2] at h;dsimp only at h;split at h
     ·cases h
     ·cases h
      exact⟨hi.2,by simp⟩
  ·split at h
   ·unfold zje at h;cases h1:za6 b (zd9 b 0) with
    |error x=>rw[h1] at h;cases h
    |ok r =>
     rw[h1] at h;cases h
     exact⟨hb,by simp⟩
   ·split at h
    ·unfold zuq at h;cases h1:za6 b (za9 b 0) with
     |error x=>rw[h1] at h;cases h
     |ok e =>
      rw[h1] at h;dsimp only at h;split at h
      ·cases h
       refine⟨hb,?_⟩;unfold zfb;simp only[List.length_append,List.length_take,List.length_cons,List.length_nil];omega
      ·cases h
    ·cases h
def zrn (w:World) (n:Nat) (r:Option Wc) (e:Ending) (w':World):Prop:=Below w.heap.size w w'∧(match r with
 |none=>e=.returned (.tuple #[.agg #[.int .i64 0,.int .i64 0,.int .i64 0,.int .i64 0,.slice none 0 0],.bool false])
 |some c=>∃ ep ec hs,e=.returned (.tuple #[.agg #[.int .i64 (c.bi:Int),.int .i64 (c.bt:Int),.int .i64 (c.ht:Int),.int .i64 (c.hv:Int),.slice ep c.es.length ec],.bool true])∧OwnL w.heap.size w' ep ec c.es hs∧c.bi≤1099511627776∧c.es.length≤n)
structure CtI (w:World) (n:Nat) (c:Wc) (ep:Option Addr) (ec:Nat) (hs:List (Option Addr×Nat)) (W:World):Prop where
 res:W.heap[w.heap.size]? = some (.cells #[.int .i64 0,.int .i64 0,.int .i64 0,.int .i64 0,.slice none 0 0] 82 (0,0))
 ct:CtAt W (w.heap.size+1) 82 [] [] c ep ec
 ow:OwnL w.heap.size W ep ec c.es hs
 bel:Below w.heap.size w W
theorem CtI.took {w:World} {n:Nat} {c:Wc} {ep:Option Addr} {ec:Nat} {hs:List (Option Addr×Nat)} {W W':World} (h:CtI w n c ep ec hs W) (g:Grew2 (w.heap.size+1) (blk ep) W W'):W'.heap[w.heap.size]? = some (.cells #[.int .i64 0,.int .i64 0,.int .i64 0,.int .i64 0,.slice none 0 0] 82 (0,0))∧Below w.heap.size w W':=by
 have hep:∀ x,blk ep=some x→w.heap.size≤x∧x≠w.heap.size:=fun x hx=>by
  obtain⟨q1,_,cur,T,hc,hT⟩:=h.ow.foot x (.inl hx);refine⟨q1,fun e=>?_⟩;subst e;rw[h.res] at hc;simp only[Option.some.injEq,Obj.cells.injEq] at hc;rw[← hc.2.1] at hT;exact absurd hT (by decide)
 have hsz:=h.bel.size;refine⟨(g.block _ (Array.getElem?_eq_some_iff.1 h.res).1 (by omega) (fun e=>(hep _ e).2 rfl)).trans h.res,⟨g.os.trans h.bel.os,g.tape.trans h.bel.tape,g.output.trans h.bel.output,Nat.le_trans hsz g.size,fun k hk=>(g.block k (by omega) (by omega) (fun e=>by have:=(hep _ e).1;omega)).trans (h.bel.block k hk)⟩⟩
theorem set5 {w:World} {g:Nat} {a b c d e x y z u v:Value} {T:TypeId} (h:w.heap[g]? = some (.cells #[a,b,c,d,e] T (0,0))):(((((w.setCell ⟨g,0,none⟩ x).setCell ⟨g,1,none⟩ y).setCell ⟨g,2,none⟩ z).setCell ⟨g,3,none⟩ u).setCell ⟨g,4,none⟩ v).heap[g]? = some (.cells #[x,y,z,u,v] T (0,0))∧w.grownBy (((((w.setCell ⟨g,0,none⟩ x).setCell ⟨g,1,none⟩ y).setCell ⟨g,2,none⟩ z).setCell ⟨g,3,none⟩ u).setCell ⟨g,4,none⟩ v) (some g):=by
 have h1:=heap_setCell_same w g 0 #[a,b,c,d,e] T x h;have h2:=heap_setCell_same _ g 1 _ T y h1;have h3:=heap_setCell_same _ g 2 _ T z h2;have h4:=heap_setCell_same _ g 3 _ T u h3;have h5:=heap_setCell_same _ g 4 _ T v h4;exact⟨h5,((((zaf w g 0 x).trans (zaf _ g 1 y)).trans (zaf _ g 2 z)).trans (zaf _ g 3 u)).trans (zaf _ g 4 v)⟩
theorem CtI.resCells {w:World} {n:Nat} {c:Wc} {ep:Option Addr} {ec:Nat} {hs:List (Option Addr×Nat)} {W:World} (h:W.heap[w.heap.size]? = some (.cells #[.int .i64 0,.int .i64 0,.int .i64 0,.int .i64 0,.slice none 0 0] 82 (0,0))):(W.cell? ⟨w.heap.size,0,none⟩=some (.int .i64 0)∧W.cell? ⟨w.heap.size,1,none⟩=some (.int .i64 0)∧W.cell? ⟨w.heap.size,2,none⟩=some (.int .i64 0)∧W.cell? ⟨w.heap.size,3,none⟩=some (.int .i64 0)∧W.cell? ⟨w.heap.size,4,none⟩=some (.slice none 0 0))∧(W.frozen? ⟨w.heap.size,0,none⟩=false∧W.frozen? ⟨w.heap.size,1,none⟩=false∧W.frozen? ⟨w.heap.size,2,none⟩=false∧W.frozen? ⟨w.heap.size,3,none⟩=false∧W.frozen? ⟨w.heap.size,4,none⟩=false) :=
 ⟨⟨zab h 0 _ rfl,zab h 1 _ rfl,zab h 2 _ rfl,zab h 3 _ rfl,zab h 4 _ rfl⟩,zbj h 0,zbj h 1,zbj h 2,zbj h 3,zbj h 4⟩
theorem zki (sp:Option Addr) (n k:Nat) (rs:List (List Nat)) (w:World) (hn:rs.length=n) (hm:n≤1000000) (hl:∀ r∈rs,r.length≤140737488355328) (hb:RowsAt w sp rs) :
  Calls Tryz.prog 95 #[.slice sp n k] w (zrn w n (zc4 rs)):=by
 have b1:Below w.heap.size w (w.alloc (.cells #[.int .i64 0,.int .i64 0,.int .i64 0,.int .i64 0,.slice none 0 0] 82)):=(Below.refl _ _).alloc (Nat.le_refl _) _;have X1:=zad w (.cells #[.int .i64 0,.int .i64 0,.int .i64 0,.int .i64 0,.slice none 0 0] 82);have s1:(w.alloc (.cells #[.int .i64 0,.int .i64 0,.int .i64 0,.int .i64 0,.slice none 0 0] 82)).heap.size=w.heap.size+1:=by simp
 have b2:Below (w.alloc (.cells #[.int .i64 0,.int .i64 0,.int .i64 0,.int .i64 0,.slice none 0 0] 82)).heap.size (w.alloc (.cells #[.int .i64 0,.int .i64 0,.int .i64 0,.int .i64 0,.slice none 0 0] 82)) ((w.alloc (.cells #[.int .i64 0,.int .i64 0,.int .i64 0,.int .i64 0,.slice none 0 0] 82)).alloc (.cells #[.int .i64 0,.int .i64 0,.int .i64 0,.int .i64 0,.slice none 0 0] 82)):=(Below.refl _ _).alloc (Nat.le_refl _) _;have X2:=zad (w.alloc (.cells #[.int .i64 0,.int .i64 0,.int .i64 0,.int .i64 0,.slice none 0 0] 82)) (.cells #[.int .i64 0,.int .i64 0,.int .i64 0,.int .i64 0,.slice none 0 0] 82);rw[s1] at X2;have I0:=zaa (show CtI w n wc0 none 0 [] ((w.alloc (.cells #[.int .i64 0,.int .i64 0,.int .i64 0,.int .i64 0,.slice none 0 0] 82)).alloc (.cells #[.int .i64 0,.int .i64 0,.int .i64 0,.int .i64 0,.slice none 0 0] 82)) from⟨zac b2 X1,⟨X2⟩,OwnL.ofNil _ _,b1.trans (b2.mono b1.size)⟩);have HR:=zaa hb;have HN:=zaa hn;have HL:=zaa hl;clear b1 b2 X1 X2 s1 hb hl
 have FN:=zaa (show ∀ (W W9:World),zc4 rs=none→W.heap[w.heap.size]? = some (.cells #[.int .i64 0,.int .i64 0,.int .i64 0,.int .i64 0,.slice none 0 0] 82 (0,0))→Below w.heap.size w W→W.grownBy W9 (some w.heap.size)→zrn w n (zc4 rs) (.returned (.tuple #[.agg #[.int .i64 0,.int .i64 0,.int .i64 0,.int .i64 0,.slice none 0 0],.bool false])) W9 from fun W W9 h _ b g=>by
  rw[h]
  exact⟨b.grown g b.size (fun j e=>by have:=Option.some.inj e;omega),rfl⟩)
 cases hrs:rs with
 |nil =>
  have hn0:n=0:=by rw[← hn,hrs];rfl
  subst hn0;have CN:=zaa (show zc4 rs=none by rw[hrs];rfl);rw[← hrs];have A1:=zaa (za I0).res;have FE:=zaa (za FN _ _ (za CN) (za I0).res (za I0).bel (zdf _ _));obtain⟨⟨z0,z1,z2,z3,z4⟩,f0,f1,f2,f3,f4⟩:=CtI.resCells (n:=0) (c:=wc0) (ep:=none) (ec:=0) (hs:=[]) (za I0).res;clear hrs hn;go_enter Tryz.func95,Tryz.ntmps95
  go_wp2_with fail
  clear z0 z1 z2 z3 z4 f0 f1 f2 f3 f4;generalize (w.alloc _).alloc _=W9 at *;have g0:=zab (za A1) 0 _ rfl;have g1:=zab (za A1) 1 _ rfl;have g2:=zab (za A1) 2 _ rfl;have g3:=zab (za A1) 3 _ rfl;have g4:=zab (za A1) 4 _ rfl;refine bodyPost_ret (v:=.tuple #[.agg #[.int .i64 0,.int .i64 0,.int .i64 0,.int .i64 0,.slice none 0 0],.bool false]) (by simp[results,Tryz.results95,go_sem,g0,g1,g2,g3,g4]) rfl (za FE)
 |cons r0 rest =>
  have hn1:1≤n:=by rw[← hn,hrs];simp
  obtain⟨b0,off0,a0,k0,hsp,q0,y0,lk0,nz0⟩:=(za HR).cell 0 (by rw[hrs];simp);have hr0:rs[0]'(by rw[hrs];simp)=r0:=by simp[hrs]
  rw[hr0] at q0 y0 lk0;rw[Nat.add_zero] at q0;have p0:=cell_later (za I0).bel q0;have IM:=zaa (zp1 a0 r0.length k0 r0 ((w.alloc (.cells #[.int .i64 0,.int .i64 0,.int .i64 0,.int .i64 0,.slice none 0 0] 82)).alloc (.cells #[.int .i64 0,.int .i64 0,.int .i64 0,.int .i64 0,.slice none 0 0] 82)) rfl (za HL r0 (by rw[hrs];simp)) (y0.later (za I0).bel));have CE:=zaa (show zc4 rs=(if zcq r0=true then zb4 wc0 rs else none) by rw[hrs];rfl);rw[← hrs];have e0:((n:Int)==0)=false:=by simp;omega
  have e1:¬ (n:Int)=0:=by omega
  have e2:(0:Int)<(n:Int):=by omega
  clear q0 y0 lk0 nz0 hr0 hrs hn hn1;subst hsp;cases him:zcq r0 with
  |false =>
   rw[him] at IM CE;have CN:=zaa (show zc4 rs=none by rw[za CE];rfl);obtain⟨a1,a2⟩:=set5 (x:=.int .i64 0) (y:=.int .i64 0) (z:=.int .i64 0) (u:=.int .i64 0) (v:=.slice none 0 0) (za I0).res;have A1:=zaa a1;have FE:=zaa (za FN _ _ (za CN) (za I0).res (za I0).bel a2);obtain⟨⟨z0,z1,z2,z3,z4⟩,f0,f1,f2,f3,f4⟩:=CtI.resCells (n:=0) (c:=wc0) (ep:=none) (ec:=0) (hs:=[]) (za I0).res;clear a1 a2 him;go_enter Tryz.func95,Tryz.ntmps95
   go_wp2_with fail
   clear p0;generalize (w.alloc _).alloc _=W2 at *;go_at_call 125
   refine(za IM).mono ?_;rintro e V1 ⟨rfl,hV⟩;subst hV
   go_wp2_with fail
   clear z0 z1 z2 z3 z4 f0 f1 f2 f3 f4;generalize (((((V1.setCell ⟨w.heap.size,0,none⟩ (.int .i64 0)).setCell ⟨w.heap.size,1,none⟩ (.int .i64 0)).setCell ⟨w.heap.size,2,none⟩ (.int .i64 0)).setCell ⟨w.heap.size,3,none⟩ (.int .i64 0)).setCell ⟨w.heap.size,4,none⟩ (.slice none 0 0))=W9 at *;have g0:=zab (za A1) 0 _ rfl;have g1:=zab (za A1) 1 _ rfl;have g2:=zab (za A1) 2 _ rfl;have g3:=zab (za A1) 3 _ rfl;have g4:=zab (za A1) 4 _ rfl;refine bodyPost_ret (v:=.tuple #[.agg #[.int .i64 0,.int .i64 0,.int .i64 0,.int .i64 0,.slice none 0 0],.bool false]) (by simp[results,Tryz.results95,go_sem,g0,g1,g2,g3,g4]) rfl (za FE)
  |true =>
   rw[him] at IM CE;have CG:=zaa (show zc4 rs=zb4 wc0 rs by rw[za CE];rfl);clear CE;go_enter Tryz.func95,Tryz.ntmps95
   go_wp2_with fail
   clear p0;generalize (w.alloc _).alloc _=W2 at *;go_at_call 125
   refine(za IM).mono ?_;rintro e V1 ⟨rfl,hV⟩;subst hV
   go_wp2_with fail
   go_loopw [20] (fun i wr=>∃ (j:Nat) (c:Wc) (ep:Option Addr) (ec:Nat) (hs:List (Option Addr×Nat)),j≤n∧i=.int .i64 (j:Int)∧Hid (zb4 wc0 (rs.take j)=some c)∧Hid (CtI w n c ep ec hs wr)∧Hid (c.bi≤1099511627776∧c.es.length≤j)) (fun i _=>n - (intOf i).toNat)
   case atStart=>exact⟨0,wc0,none,0,[],by omega,rfl,zaa rfl,I0,zaa ⟨by simp[wc0],by simp[wc0]⟩⟩
   case round =>
    obtain⟨j,c,ep,ec,hs,hj,rfl,HF,I,HB⟩:=hrel;by_cases hjn:j<n
    ·have y0:(0:Int)≤(j:Int):=by omega
     have y1:(j:Int)<(n:Int):=by omega
     have hjl:j<rs.length:=by rw[za HN];exact hjn
     obtain⟨b,off,a,k',hsp,q,yb,lk,nz⟩:=(za HR).cell j hjl;have p1:=cell_later (za I).bel q;have TC:=zaa (zv5 (za I).ct 0 rfl (by decide) (by decide) (za I).ow (za HB).1 (by have:=(za HB).2;omega) (za I).bel.size a rs[j].length k' rs[j] rfl (za HL _ (List.getElem_mem hjl)) lk nz (yb.later (za I).bel));have hlt8:=yb.lt;have TS:=zaa (show rs.take (j+1)=rs.take j++[rs[j]] by rw[List.take_succ_eq_append_getElem hjl]);have TK:=zaa (show rs=rs.take j++rs[j]::rs.drop (j+1) by simp);have L8:=zaa hlt8;simp only[Option.some.injEq,Addr.mk.injEq,and_true] at hsp;obtain⟨rfl,rfl⟩:=hsp;clear q yb lk nz hlt8;generalize rs[j]=r at *;cases htr:zcz c r with
     |none =>
      rw[htr] at TC
      have CN:=zaa (show zc4 rs=none by
       rw[za CG,za TK,zfz,za HF];dsimp only
       rw[zb5,htr])
      clear htr
      go_wp2_with fail
      clear p1;go_at_call 126
      refine(za TC).mono ?_;rintro e V2 ⟨gr,he⟩;dsimp only at he;subst he;obtain⟨hres,hbel⟩:=(za I).took gr;obtain⟨a1,a2⟩:=set5 (x:=.int .i64 0) (y:=.int .i64 0) (z:=.int .i64 0) (u:=.int .i64 0) (v:=.slice none 0 0) hres;have A1:=zaa a1;have FE:=zaa (za FN _ _ (za CN) hres hbel a2);obtain⟨⟨z0,z1,z2,z3,z4⟩,f0,f1,f2,f3,f4⟩:=CtI.resCells (n:=0) (c:=wc0) (ep:=none) (ec:=0) (hs:=[]) hres;clear a1 a2 hres hbel gr
      go_wp2_with fail
      clear z0 z1 z2 z3 z4 f0 f1 f2 f3 f4;generalize (((((V2.setCell ⟨w.heap.size,0,none⟩ (.int .i64 0)).setCell ⟨w.heap.size,1,none⟩ (.int .i64 0)).setCell ⟨w.heap.size,2,none⟩ (.int .i64 0)).setCell ⟨w.heap.size,3,none⟩ (.int .i64 0)).setCell ⟨w.heap.size,4,none⟩ (.slice none 0 0))=W9 at *;have g0:=zab (za A1) 0 _ rfl;have g1:=zab (za A1) 1 _ rfl;have g2:=zab (za A1) 2 _ rfl;have g3:=zab (za A1) 3 _ rfl;have g4:=zab (za A1) 4 _ rfl;refine bodyPost_ret (v:=.tuple #[.agg #[.int .i64 0,.int .i64 0,.int .i64 0,.int .i64 0,.slice none 0 0],.bool false]) (by simp[results,Tryz.results95,go_sem,g0,g1,g2,g3,g4]) rfl (za FE)
     |some c' =>
      rw[htr] at TC;have HF':=zaa (show zb4 wc0 (rs.take (j+1))=some c' by rw[za TS,zjc _ _ _ c (za HF),htr]);have hbb:=zt3 htr (za L8) (za HB).1;have HB':=zaa (show c'.bi≤1099511627776∧c'.es.length≤j+1 from⟨hbb.1,by have:=(za HB).2;omega⟩);clear htr hbb
      go_wp2_with fail
      clear p1;go_at_call 126
      refine(za TC).mono ?_;rintro e V2 ⟨gr,he⟩;dsimp only at he;obtain⟨rfl,ep',ec',hs',ct,ol,_⟩:=he;obtain⟨hres,hbel⟩:=(za I).took gr;have I':=zaa (show CtI w n c' ep' ec' hs' V2 from⟨hres,ct,ol,hbel⟩);clear hres hbel ct ol gr
      go_wp2
      exact⟨⟨j+1,c',ep',ec',hs',by omega,by go_num,HF',I',HB'⟩,by simp[intOf];omega⟩
    ·have hjj:¬ (j:Int)<(n:Int):=by omega
     obtain rfl:j=n:=by omega
     have CC:=zaa (show zc4 rs=some c by
      rw[za CG];have h:=za HF
      rwa [List.take_of_length_le (by rw[za HN];exact Nat.le_refl _)] at h)
     obtain⟨⟨c0,c1,c2,c3,c4⟩,_⟩:=(za I).ct.cells 0 rfl;obtain⟨a1,a2⟩:=set5 (x:=.int .i64 (c.bi:Int)) (y:=.int .i64 (c.bt:Int)) (z:=.int .i64 (c.ht:Int)) (u:=.int .i64 (c.hv:Int)) (v:=.slice ep c.es.length ec) (za I).res;have A1:=zaa a1
     have FE:=zaa (show zrn w j (zc4 rs) (.returned (.tuple #[.agg #[.int .i64 (c.bi:Int),.int .i64 (c.bt:Int),.int .i64 (c.ht:Int),.int .i64 (c.hv:Int),.slice ep c.es.length ec],.bool true])) (((((wr.setCell ⟨w.heap.size,0,none⟩ (.int .i64 (c.bi:Int))).setCell ⟨w.heap.size,1,none⟩ (.int .i64 (c.bt:Int))).setCell ⟨w.heap.size,2,none⟩ (.int .i64 (c.ht:Int))).setCell ⟨w.heap.size,3,none⟩ (.int .i64 (c.hv:Int))).setCell ⟨w.heap.size,4,none⟩ (.slice ep c.es.length ec)) from by
      rw[za CC];refine⟨(za I).bel.grown a2 (za I).bel.size (fun j e=>by have:=Option.some.inj e;omega),ep,ec,hs,rfl,(za I).ow.same (fun g hg=>a2.block g ((za I).ow.foot g hg).2.1 (fun e=>?_)),(za HB).1,(za HB).2⟩;have e:=Option.some.inj e;subst e;obtain⟨_,_,cur,T,hc,hT⟩:=(za I).ow.foot _ hg;rw[(za I).res] at hc;simp only[Option.some.injEq,Obj.cells.injEq] at hc;rw[← hc.2.1] at hT
      exact absurd hT (by decide))
     obtain⟨⟨z0,z1,z2,z3,z4⟩,f0,f1,f2,f3,f4⟩:=CtI.resCells (n:=0) (c:=wc0) (ep:=none) (ec:=0) (hs:=[]) (za I).res;clear a1 a2
     go_wp2_with fail
     clear z0 z1 z2 z3 z4 f0 f1 f2 f3 f4 c0 c1 c2 c3 c4;generalize (((((wr.setCell ⟨w.heap.size,0,none⟩ (.int .i64 (c.bi:Int))).setCell ⟨w.heap.size,1,none⟩ (.int .i64 (c.bt:Int))).setCell ⟨w.heap.size,2,none⟩ (.int .i64 (c.ht:Int))).setCell ⟨w.heap.size,3,none⟩ (.int .i64 (c.hv:Int))).setCell ⟨w.heap.size,4,none⟩ (.slice ep c.es.length ec))=W9 at *;have g0:=zab (za A1) 0 _ rfl;have g1:=zab (za A1) 1 _ rfl;have g2:=zab (za A1) 2 _ rfl;have g3:=zab (za A1) 3 _ rfl;have g4:=zab (za A1) 4 _ rfl;refine bodyPost_ret (v:=.tuple #[.agg #[.int .i64 (c.bi:Int),.int .i64 (c.bt:Int),.int .i64 (c.ht:Int),.int .i64 (c.hv:Int),.slice ep c.es.length ec],.bool true]) (by simp[results,Tryz.results95,go_sem,g0,g1,g2,g3,g4]) rfl (za FE)
def EOk (e:EntN):Prop:=zub e.1 e.2.1 e.2.2.1 e.2.2.2
def zft (es:List EntN):List Nat:=es.flatMap fun e=>zjw 3 (zct e.1 e.2.1 e.2.2.1 e.2.2.2)
theorem zzq {e:EntN} (h:EOk e):zi6 (toI e)=.ok (zct e.1 e.2.1 e.2.2.1 e.2.2.2):=by
 obtain⟨⟨a1,a2⟩,⟨b1,b2⟩,⟨c1,c2⟩,d1,d2⟩:=h;unfold zi6 toI;dsimp only
 rw[if_pos (show zrl (e.1:Int) (e.2.1:Int) (e.2.2.1:Int) e.2.2.2.length from⟨by omega,by omega,by omega,by
  by_cases hk:e.1=1
  ·right;rw[d1 hk];rfl
  ·left;omega⟩),if_pos d2]
 simp
theorem zqg:∀ (es:List EntN),(∀ e∈es,EOk e)→zcl (es.map toI)=.ok (zft es)
 |[],_=>rfl
 |e::es,h=>by
  rw[List.map_cons,zdh,zzq (h e (by simp)),zqg es (fun x hx=>h x (by simp[hx]))];rfl
def za7 (c:Wc):List Nat:=zf1 c.bi c.bt++zb2 c.ht c.hv++zft c.es
structure WOk (c:Wc):Prop where
 bi:c.bi≤1099511627776
 bt:c.bt≤1099511627776
 ht:c.ht≤1099511627776
 hv:c.hv≤9
 es:∀ e∈c.es,EOk e
theorem zgx:∀ (es:List EntN),(∀ e∈es,EOk e)→(zft es).length≤es.length*2100
 |[],_=>by simp[zft]
 |e::es,h=>by
  have ih:=zgx es (fun x hx=>h x (by simp[hx]));obtain⟨_,⟨_,b2⟩,⟨_,c2⟩,_,d2⟩:=h e (by simp);have h6:=zhi e.1 e.2.1 e.2.2.1 e.2.2.2 b2 c2 d2;unfold zft at ih ⊢;rw[List.flatMap_cons,List.length_append,zdc,List.length_cons];omega
theorem zkv (i t:Nat) (hi:i≤1099511627776) (ht:t≤1099511627776):(zf1 i t).length≤21:=by
 unfold zf1;have:=zbt i hi;have:=zbt t ht;rw[zdc,List.length_append];omega
theorem zg2 (t v:Nat) (ht:t≤1099511627776) (hv:v≤9):(zb2 t v).length≤21:=by
 unfold zb2;have:=zbt t ht;have:=zbt v (by omega);rw[zdc,List.length_append];omega
section
variable {w:World} {B:Nat} {T:TypeId} {p q:List Value} {c:Wc} {ep:Option Addr} {ec:Nat} {base:Nat} {hs:List (Option Addr×Nat)}
theorem zof (h:CtAt w B T p q c ep ec) (o:Nat) (ho:p.length=o) (hE:OwnL base w ep ec c.es hs) (hk:WOk c) (hl:c.es.length≤1000000) :
  Calls Tryz.prog 93 #[.pointer (some ⟨B,o,none⟩)] w fun e w'=>∃ sp n k,e=.returned (.slice sp n k)∧Hid ((za7 c).length=n)∧OwnB w.heap.size w' sp k (za7 c)∧Below w.heap.size w w':=by
 have HC:=zaa h;have HO:=zaa ho;have HE:=zaa hE;have M1:=zaa (fun W=>zj5 c.bi c.bt W hk.bi hk.bt);have H1:=zaa (fun W=>zh0 c.ht c.hv W hk.ht hk.hv);have E1:=zaa (fun (W:World) (u:Below w.heap.size w W)=>zfi ep c.es.length ec (c.es.map toI) W (by rw[List.length_map]) (hE.later u).ents hl);rw[zqg c.es hk.es] at E1;have hl1:=zkv c.bi c.bt hk.bi hk.bt;have hl2:=zg2 c.ht c.hv hk.ht hk.hv;have hl3:=zgx c.es hk.es;have AB:=zaa (show za7 c=zf1 c.bi c.bt++zb2 c.ht c.hv++zft c.es from rfl);obtain⟨⟨c0,c1,c2,c3,c4⟩,_⟩:=h.cells o ho;clear h hE hk ho;go_enter Tryz.func93,Tryz.ntmps93
 go_wp2_with fail
 go_at_call 123
 refine(za M1 _).mono ?_;rintro e V1 ⟨g1,n1,rfl,hn1,o1,v1⟩;have O1:=zaa o1;have B1:=zaa v1;have d2:=cell_later v1 c2;have d3:=cell_later v1 c3;have d4:=cell_later v1 c4;clear o1 v1 c0 c1 c2 c3 c4
 go_wp2_with fail
 go_at_call 72
 refine(za H1 _).mono ?_;rintro e V2 ⟨g2,n2,rfl,hn2,o2,v2⟩;have G1:=zaa (show g1<V2.heap.size from Nat.lt_of_lt_of_le ((za O1).blk_lt g1 rfl).2 v2.size);have O1:=zaa ((za O1).later v2);have Y2:=zaa o2.bytes;have B2:=zaa ((za B1).trans (v2.mono (za B1).size));have e4:=cell_later v2 d4;clear o2 v2 d2 d3 d4
 go_wp2_with fail
 go_at_call 64
 refine(za E1 _ (za B2)).mono ?_;rintro e V3 ⟨v3,sp3,n3,k3,rfl,hn3,o3⟩;have O1:=zaa ((za O1).later v3);have Y2:=zaa ((za Y2).later v3);have Y3:=zaa o3.bytes;have Z3:=zaa (show sp3=none→k3=0 from o3.toBx.nil0)
 have G3:=zaa (show ∀ b off,sp3=some ⟨b,off,none⟩→b≠g1 from fun b off e=>by
  have h1:=(o3.blk_lt b (by rw[e];rfl)).1;have h2:=za G1
  omega)
 have B3:=zaa ((za B2).trans (v3.mono (za B2).size));have HS1:=zaa (show(zf1 c.bi c.bt).length+n2≤140737488355328 by rw[← za hn2];omega);have HS2:=zaa (show(zf1 c.bi c.bt++zb2 c.ht c.hv).length+n3≤140737488355328 by rw[List.length_append,← za hn3];omega);clear o3 v3 e4
 go_wp2_with (first
  |(have hV:W4=W4:=rfl
    clear hV
    at_builtin
    refine zas rfl (.tmp 31) (.tmp 32) rfl w.heap.size sp4 n4 c4 (zf1 c.bi c.bt++zb2 c.ht c.hv) rfl (za hn4) (by exact za O4) sp3 n3 k3 rfl (zft c.es) (za hn3) (by exact za Y4) (za Z3) (za HS2) (by exact(za B4).size) ?_;intro sp5 n5 c5 W5 hn5 ho5 hg5 hb5;have O5:=zaa ho5;have B5:=zaa ((za B4).trans hb5)
    clear ho5 hg5 hb5)
  |(at_builtin
    refine zas rfl (.tmp 29) (.tmp 30) rfl w.heap.size (some ⟨g1,0,none⟩) n1 n1 (zf1 c.bi c.bt) rfl (za hn1) (by exact za O1) (some ⟨g2,0,none⟩) n2 n2 rfl (zb2 c.ht c.hv) (za hn2) (by exact za Y2) (fun h=>by cases h) (za HS1) (by exact(za B3).size) ?_;intro sp4 n4 c4 W4 hn4 ho4 hg4 hb4;have O4:=zaa ho4;have B4:=zaa ((za B3).trans hb4);have Y4:=zaa (show BytesAt W4 sp3 (zft c.es) from(za Y3).far hg4 (za G3))
    clear ho4 hg4 hb4))
 go_ret
 exact⟨sp5,n5,c5,rfl,by rw[za AB];exact hn5,by rw[za AB];exact za O5,za B5⟩
end
theorem zf4 (k:Nat) (a:Option Addr) (n c:Nat) (l:List Nat) (w:World) (hk:k<256) (hn:l.length=n) (hb:BytesAt w a l) (hz:a=none→c=0) (hl:n≤60000) :
  Calls Tryz.prog 69 #[.int .i64 (k:Int),.slice a n c] w fun e w'=>∃ sp m c',e=.returned (.slice sp m c')∧Hid ((zjw k l).length=m)∧OwnB w.heap.size w' sp c' (zjw k l)∧Below w.heap.size w w':=by
 have b1:Below w.heap.size w (w.alloc (.cells #[.int .u8 (k:Int)] 5)):=(Below.refl _ _).alloc (Nat.le_refl _) _;have o1:=zaa (show OwnB w.heap.size (w.alloc (.cells #[.int .u8 (k:Int)] 5)) (some ⟨w.heap.size,0,none⟩) 1 [k] from OwnB.ofBlock (l:=[k]) (zad w _) (Nat.le_refl _) (by simpa using hk) (by simp[maxLen]));have HB:=zaa (hb.later b1);have B1:=zaa b1;have HN:=zaa hn;have HZ:=zaa hz;have hw1:IntKind.u8.wrap (k:Int)=(k:Int):=by rw[IntKind.wrap_u8];omega
 have HS:=zaa (show([k]:List Nat).length+n≤140737488355328 by simp;omega);clear hb b1 hn hz;go_enter Tryz.func69,Tryz.ntmps69
 go_wp2_with (at_builtin;refine zas rfl (.tmp 10) (.tmp 11) rfl w.heap.size (some ⟨w.heap.size,0,none⟩) 1 1 [k] rfl rfl (by exact za o1) a n c rfl l (za HN) (by exact za HB) (za HZ) (za HS) (by exact(za B1).size) ?_;intro sp2 n2 c2 W2 hn2 ho2 hg2 hb2)
 have B2:=zaa ((za B1).trans hb2);have FC:=zaa (zsf sp2 c2 (k::l) W2 (by exact ho2.bytes) ho2.toBx.nil0 (by have:=za HN;rw[List.length_cons];omega));rw[show(k::l).length=n2 from za hn2] at FC;clear ho2 hg2 hb2
 go_wp2_with fail
 go_at_call 109
 refine(za FC).mono ?_;rintro e W3 ⟨g,c3,rfl,b3,ho3⟩;have O3:=zaa (show OwnB w.heap.size W3 g c3 (zjw k l) from ho3.mono (za B2).size);have B3:=zaa ((za B2).trans (b3.mono (za B2).size));have HM:=zaa (show(zjw k l).length=(zbl (k::l)).length from rfl);generalize (zbl (k::l)).length=m at *;clear b3 ho3 FC
 go_wp2
 go_ret
 exact⟨g,m,c3,rfl,HM,za O3,za B3⟩
end
end Go.Proofs.YtofllbpfajppeaaGreatDoor
