/- Conf: the program's reader: pools. -/
import Derived.Test.YtjcjleaicjhpeaaGreatDoorB07
import Derived.Test.YtjcjleaicjhpeaaGreatDoorB10
set_option linter.unusedVariables false
set_option maxRecDepth 20000
set_option maxHeartbeats 16000000
namespace Go.Proofs.YtjcjleaicjhpeaaGreatDoor
section
open Go.ChangeShapes Go.WideShapes Go.ChangeAt Go.RowKit
def zlc (h:List Nat) (k e:Nat):Po×Nat×Nat :=
 let a:=zcv h k e
 let b:=zo8 h a.2.1 a.2.2
 (⟨zdd a.1,b.1⟩,b.2.1,b.2.2)
def zld (h:List Nat):Nat→Nat→Nat→List Po×Nat×Nat
 |0,k,e=>([],k,e)
 |n+1,k,e =>
  let a:=zlc h k e
  let r:=zld h n a.2.1 a.2.2
  (a.1::r.1,r.2.1,r.2.2)
def zqe (h:List Nat) (k e:Nat):List Po×Nat×Nat :=
 let a:=zcu h k e 32
 zld h a.1 a.2.1 a.2.2
theorem zmn {h:List Nat} {k e k2 e2 k3 e3:Nat} {tb:List Nat} {ts:List Tg} (h1:zcv h k e=(tb,k2,e2)) (h2:zo8 h k2 e2=(ts,k3,e3)):zlc h k e=(⟨zdd tb,ts⟩,k3,e3):=by
 simp only[zlc,h1,h2]
theorem zgi (h:List Nat) (n k e:Nat):zld h (n+1) k e=((zlc h k e).1::(zld h n (zlc h k e).2.1 (zlc h k e).2.2).1,(zld h n (zlc h k e).2.1 (zlc h k e).2.2).2):=rfl
theorem zn3 (h:List Nat):∀ n k e,(zlp h n k e).1.length=n
 |0,_,_=>rfl
 |n+1,k,e=>by
  rw[zgr,List.length_cons,zn3 h n]
theorem zrw (h:List Nat) (k e:Nat):(zo8 h k e).1.length≤16:=by
 have h1:=zn3 h (zcu h k e 16).1 (zcu h k e 16).2.1 (zcu h k e 16).2.2;have h2:=zdr h k e 16;have h3:zo8 h k e=zlp h (zcu h k e 16).1 (zcu h k e 16).2.1 (zcu h k e 16).2.2:=rfl;rw[h3];omega
theorem zis {w:World} {ops:Array Oper} {rest:List Oper} {o:Oper} {a:Act} {Q:Exit→Act→World→Prop} (hgd:o.guard=none) (s x:Operand)
  (ho:o.op=.call { callee:=.builtin .append,args:=#[s,x],argTypes:=#[43,43] }) (base:Nat) (sp:Option Addr) (n c:Nat) (l:List Pr) (hs:a.eval s=.slice sp n c) (hn:l.length=n) (hown:za8 base w sp c l)
  (B:Nat) (y:Pr) (hx:a.eval x=.slice (some ⟨B,0,none⟩) 1 1) (hB:w.heap[B]? = some (.cells (zeb y).toArray 54 (0,0))) (hsz:n≤100000) (hbase:base≤w.heap.size)
  (h:∀ sp' c' w',za8 base w' sp' c' (l++[y])→w.grownBy w' (blk sp)→wpList Tryz.prog ops Q rest (a.put o.dst (.slice sp' (n+1) c')) w') :
  wpList Tryz.prog ops Q (o::rest) a w:=by
 subst hn;refine zb2 hgd s x _ _ ho zpz Tryz.underlying43 rfl (by omega) base sp l.length c (zb9 l) hs hown B (zeb y) hx hB rfl (fun u hu=>zg6 [y] u (by simpa [zb9] using hu)) (by omega) (by omega) hbase ?_;intro sp' c' w' h1 hg;refine h sp' c' w' ?_ hg;unfold za8;rw[List.length_append,show zb9 (l++[y])=zb9 l++zeb y from by simp[zb9]];exact h1
section
variable {R:Nat} {w w':World} {p:Option Addr} {c:Nat} {h:List Nat} {k e:Nat}
theorem OwnPq.farK {base:Nat} {sp:Option Addr} {cc:Nat} {l:List Pq} (x:OwnPq base w sp cc l) (g:w.grownBy w' (some R)) (hR:R<base):OwnPq base w' sp cc l :=
 ⟨zbf x.row g hR,fun y hy=>zbf (x.dat y hy) g hR⟩
def zsb (R:Nat) (w:World) (p:Option Addr) (c:Nat) (h:List Nat) (r:List Po×Nat×Nat) (en:Ending) (w':World):Prop:=∃ sp cc lq,en=.returned (.slice sp lq.length cc)∧lq.map Pq.po=r.1∧OwnPq w.heap.size w' sp cc lq∧(∀ x∈lq,(∀ t∈x.po.ts,t.2<18446744073709551616)∧x.po.ts.length≤16)∧KR R w' p c h r.2.1 r.2.2∧w.grownBy w' (some R)
theorem zk4 (z:KR R w p c h k e):Calls Tryz.prog 55 #[.pointer (some ⟨R,0,none⟩)] w (zsb R w p c h (zqe h k e)):=by
 have NC:=zaa (zcp z 32 (by omega));unfold zen at NC;have NL:=zaa (zdr h k e 32);have EQ:=zaa (show zqe h k e=zld h (zcu h k e 32).1 (zcu h k e 32).2.1 (zcu h k e 32).2.2 from rfl);generalize zcu h k e 32=q at *;obtain⟨n,k1,e1⟩:=q;dsimp only at NC EQ NL;rw[show((32:Nat):Int)=32 from rfl] at NC;have Z0:=zaa z;have hR:=z.lt;have hn16:n≤32:=za NL;clear z;go_enter Tryz.func55,Tryz.ntmps55
 go_wp2_with fail
 go_at_call 100
 refine(za NC).mono ?_;rintro en V1 ⟨rfl,z1,g1⟩;have Z1:=zaa z1;have G1:=zaa g1;clear z1 g1 NC
 go_wp2_with fail
 go_loopw [3,4,7] (fun v s i wr=>∃ (j:Nat) (sp:Option Addr) (m cc:Nat) (lq:List Pq) (kj ej:Nat),j≤n∧v=.slice sp m cc∧i=.int .i64 (j:Int)∧Hid (lq.length=m)∧m=j∧Hid (OwnPq w.heap.size wr sp cc lq)∧Hid (∀ x∈lq,(∀ t∈x.po.ts,t.2<18446744073709551616)∧x.po.ts.length≤16)∧Hid (KR R wr p c h kj ej)∧Hid (w.grownBy wr (some R))∧Hid (zld h n k1 e1=(lq.map Pq.po++(zld h (n - j) kj ej).1,(zld h (n - j) kj ej).2))) (fun _ _ i _=>n - (intOf i).toNat)
 case atStart=>exact⟨0,none,0,0,[],k1,e1,by omega,rfl,rfl,zaa rfl,rfl,zaa (OwnPq.ofNil _ _),zaa (by simp),Z1,G1,zaa rfl⟩
 case round =>
  obtain⟨j,sp,m,cc,lq,kj,ej,hj,rfl,rfl,hl,rfl,O,LT,Z,G,E⟩:=hrel;by_cases hjm:m<n
  ·as_aux_lemma =>
   have y1:(m:Int)<(n:Int):=by omega
   have hj1:m+1≤n:=by omega
   have E2:=zaa (show zld h n k1 e1=(lq.map Pq.po++[(zlc h kj ej).1]++(zld h (n - (m+1)) (zlc h kj ej).2.1 (zlc h kj ej).2.2).1,(zld h (n - (m+1)) (zlc h kj ej).2.1 (zlc h kj ej).2.2).2) by
    rw[za E,show n - m=(n - (m+1))+1 by omega,zgi]
    simp)
   have TC:=zaa (zc8 (za Z));unfold zlz at TC;have CE:=zaa (fun k2 e2 k3 e3 tb ts=>@zmn h kj ej k2 e2 k3 e3 tb ts);generalize zlc h kj ej=q9 at *;generalize hq1:zcv h kj ej=q1 at *;obtain⟨tb,k2,e2⟩:=q1;dsimp only at TC;clear hq1
   go_wp2_with fail
   go_at_call 101
   refine(za TC).mono ?_;rintro en V2 ⟨rfl,z2,g2⟩;have G2:=zaa (zaj (za G) g2);have O2:=zaa ((za O).farK g2 hR);have WC:=zaa (ziy z2);unfold zs at WC;have TL:=zaa (zrw h k2 e2);generalize hq1:zo8 h k2 e2=q1 at *;obtain⟨ts,k3,e3⟩:=q1;have EQ9:=za CE _ _ _ _ _ _ rfl hq1;subst EQ9;dsimp only at WC E2 TL;clear z2 g2 TC O G Z E CE hq1;generalize zdd tb=s at *
   go_wp2_with fail
   go_at_call 102
   refine(za WC).mono ?_;rintro en V3 ⟨ta,tn,tc,rfl,htn,ot,lt3,z3,g3⟩;have G3:=zaa (zaj (za G2) g3);have O3:=zaa ((za O2).farK g3 hR);have OT:=zaa (ot.monoK (za G2).size);subst htn;have bA:=zaa (show Below V3.heap.size V3 (V3.alloc (.cells #[.string s,.slice ta ts.length tc] 54)) from(Below.refl _ _).alloc (Nat.le_refl _) _);have XA:=zaa (show(V3.alloc (.cells #[.string s,.slice ta ts.length tc] 54)).heap[V3.heap.size]? = some (.cells (zeb (Pq.pr ⟨⟨s,ts⟩,ta,tc⟩)).toArray 54 (0,0)) from zac V3 _);have OA:=zaa ((za O3).later (za bA));have OTA:=zaa (zbg (za OT) (za bA));have L3:=zaa lt3;have G4:=zaa (zaj (za G3) (za5 (za bA) (some R)));have Z4:=zaa (z3.later (za bA));have SZ:=zaa (Nat.le_trans (za G3).size (za bA).size);clear z3 g3 WC O2 G2 ot lt3 OT O3
   go_wp2_with (at_builtin;refine zis rfl (.tmp 11) (.tmp 16) rfl w.heap.size sp m cc (lq.map Pq.pr) rfl (by rw[List.length_map];exact za hl) (by exact(za OA).row) V3.heap.size (Pq.pr ⟨⟨s,ts⟩,ta,tc⟩) rfl (by exact za XA) (by omega) (za SZ) ?_;intro sp2 c2 W2 ho2 hb2;have O6:=zaa ((za OA).push ⟨⟨s,ts⟩,ta,tc⟩ (za OTA) ho2 hb2);have B6:=zaa ((za OA).below hb2 (za SZ));clear ho2 hb2)
   have Z6:=zaa ((za Z0).kept (za G4) (za Z4) (za B6));have G6:=zaa (zbj (za G4) (za B6));refine⟨⟨m+1,sp2,m+1,c2,lq++[⟨⟨s,ts⟩,ta,tc⟩],k3,e3,hj1,rfl,by go_num,zaa (by rw[List.length_append,za hl];rfl),rfl,O6,zaa (fun x hx=>?_),Z6,G6,zaa (by rw[List.map_append];exact za E2)⟩,by simp[intOf];omega⟩;rcases List.mem_append.1 hx with hx|hx
   ·exact za LT x hx
   ·rw[List.mem_singleton.1 hx];exact⟨za L3,za TL⟩
  ·as_aux_lemma =>
   have y1:¬ (m:Int)<(n:Int):=by omega
   have FF:=zaa (show zsb R w p c h (zqe h k e) (.returned (.slice sp m cc)) wr from by
    have h0:n - m=0:=by omega
    have e5:=za E;rw[h0] at e5;simp only[zld,List.append_nil] at e5;rw[za EQ,e5]
    exact⟨sp,cc,lq,by rw[za hl],rfl,za O,za LT,za Z,za G⟩)
   clear E O Z G
   go_wp2
   go_ret
   exact za FF
end
def ltR (a b:Rt):Bool:=decide (Kord.lt (a.h,a.p) (b.h,b.p))
def wR (r:Rt) (l:List Rt):List Rt:=l.filter (fun x=>ltR x r)++r::l.filter (fun x=>ltR r x)
theorem zie (a b:Rt) (w:World):Calls Tryz.prog 125 #[.agg #[.string a.h,.string a.p,.string a.l],.agg #[.string b.h,.string b.p,.string b.l]] w fun e w'=>e=.returned (.bool (ltR a b))∧Below w.heap.size w w':=by
 obtain⟨ah,ap,al⟩:=a;obtain⟨bh,bp,bl⟩:=b;dsimp only;have b1:Below w.heap.size w (w.alloc (.cells #[.string ah,.string ap,.string al] 56)):=(Below.refl _ _).alloc (Nat.le_refl _) _;have B2:=zaa (b1.alloc b1.size (.cells #[.string bh,.string bp,.string bl] 56));have s1:(w.alloc (.cells #[.string ah,.string ap,.string al] 56)).heap.size=w.heap.size+1:=by simp
 have X1:((w.alloc (.cells #[.string ah,.string ap,.string al] 56)).alloc (.cells #[.string bh,.string bp,.string bl] 56)).heap[w.heap.size]? = some (.cells #[.string ah,.string ap,.string al] 56 (0,0)):=by rw[Below.heap_alloc _ _ _ (by simp)];exact zac _ _
 have X2:((w.alloc (.cells #[.string ah,.string ap,.string al] 56)).alloc (.cells #[.string bh,.string bp,.string bl] 56)).heap[w.heap.size+1]? = some (.cells #[.string bh,.string bp,.string bl] 56 (0,0)):=by rw[← s1];exact zac _ _
 have a0:=zab X1 0 _ rfl;have a1:=zab X1 1 _ rfl;have d0:=zab X2 0 _ rfl;have d1:=zab X2 1 _ rfl;clear b1 s1 X1 X2;by_cases h1:Kord.lt ah bh
 ·have hr:ltR ⟨ah,ap,al⟩ ⟨bh,bp,bl⟩=true:=decide_eq_true (.inl h1);have t1:Op.bytesLess ah.toList bh.toList=true:=by rw[zj2];exact decide_eq_true h1
  rw[hr];clear hr h1;go_enter Tryz.func125,Tryz.ntmps125
  go_wp2
  go_ret
  exact⟨rfl,za B2⟩
 ·have t1:Op.bytesLess ah.toList bh.toList=false:=by rw[zj2];exact decide_eq_false h1
  by_cases h2:ah=bh
  ·have t2:(ah.toList==bh.toList)=true:=by rw[zc];exact decide_eq_true h2
   by_cases h3:Kord.lt ap bp
   ·have t3:Op.bytesLess ap.toList bp.toList=true:=by rw[zj2];exact decide_eq_true h3
    have hr:ltR ⟨ah,ap,al⟩ ⟨bh,bp,bl⟩=true:=decide_eq_true (.inr ⟨h2,h3⟩);rw[hr];clear hr h1 h2 h3;go_enter Tryz.func125,Tryz.ntmps125
    go_wp2
    go_ret
    exact⟨rfl,za B2⟩
   ·have t3:Op.bytesLess ap.toList bp.toList=false:=by rw[zj2];exact decide_eq_false h3
    have hr:ltR ⟨ah,ap,al⟩ ⟨bh,bp,bl⟩=false:=decide_eq_false (fun e=>e.elim h1 (fun k=>h3 k.2));rw[hr];clear hr h1 h2 h3;go_enter Tryz.func125,Tryz.ntmps125
    go_wp2
    go_ret
    exact⟨rfl,za B2⟩
  ·have t2:(ah.toList==bh.toList)=false:=by rw[zc];exact decide_eq_false h2
   have hr:ltR ⟨ah,ap,al⟩ ⟨bh,bp,bl⟩=false:=decide_eq_false (fun e=>e.elim h1 (fun k=>h2 k.1));rw[hr];clear hr h1 h2;go_enter Tryz.func125,Tryz.ntmps125
   go_wp2
   go_ret
   exact⟨rfl,za B2⟩
theorem zfa {base:Nat} {w:World} {a:Option Addr} {c:Nat} {l:List Rt} (h:zdo base w a c l) (r:Rt) (m:Nat) (hm:l.length=m) (hn:m≤1000) :
  Calls Tryz.prog 128 #[.slice a m c,.agg #[.string r.h,.string r.p,.string r.l]] w fun e w'=>∃ a' c',e=.returned (.slice a' (wR r l).length c')∧zdo w.heap.size w' a' c' (wR r l)∧Below w.heap.size w w':=by
 have WR:=zaa (show ∀ l1 l2,l1=l.filter (fun x=>ltR x r)→l2=l.filter (fun x=>ltR r x)→l1++[r]++l2=wR r l from fun l1 l2 h1 h2=>by rw[h1,h2,List.append_assoc];rfl);have LC:=zaa (fun (x:Rt) (W:World)=>zie x r W);have LD:=zaa (fun (x:Rt) (W:World)=>zie r x W);have FL:=zaa (show ∀ j,((l.take j).filter (fun x=>ltR x r)).length≤j from fun j=>za6 _ l j);have FD:=zaa (show ∀ j,((l.take j).filter (fun x=>ltR r x)).length≤j from fun j=>za6 _ l j);have HL:=zaa h;have HM:=zaa hm;obtain⟨rh,rp,rl⟩:=r;dsimp only at *;have b1:Below w.heap.size w (w.alloc (.cells #[.string rh,.string rp,.string rl] 56)):=(Below.refl _ _).alloc (Nat.le_refl _) _;have b2:=zaa (b1.alloc b1.size (.cells #[] 56));have s1:(w.alloc (.cells #[.string rh,.string rp,.string rl] 56)).heap.size=w.heap.size+1:=by simp
 have X1:=zaa (show((w.alloc (.cells #[.string rh,.string rp,.string rl] 56)).alloc (.cells #[] 56)).heap[w.heap.size]? = some (.cells #[.string rh,.string rp,.string rl] 56 (0,0)) by rw[Below.heap_alloc _ _ _ (by simp)];exact zac _ _);have X2:=zaa (show((w.alloc (.cells #[.string rh,.string rp,.string rl] 56)).alloc (.cells #[] 56)).heap[w.heap.size+1]? = some (.cells #[] 56 (0,0)) by rw[← s1];exact zac _ _);have Z2:=zaa (show((w.alloc (.cells #[.string rh,.string rp,.string rl] 56)).alloc (.cells #[] 56)).heap.size=w.heap.size+2 by simp);clear b1 s1 h hm;go_enter Tryz.func128,Tryz.ntmps128
 go_wp2_with fail
 generalize ((w.alloc (.cells #[.string rh,.string rp,.string rl] 56)).alloc (.cells #[] 56))=V at *;have Z0:=zaa (show zdo (w.heap.size+1) V (some ⟨w.heap.size+1,0,none⟩) 0 [] from zgg 3 (za X2) (Nat.le_refl _));have FB:=zaa (show ∀ W:World,Below (w.heap.size+1) V W→Below w.heap.size w W from fun W hb=>(za b2).trans (hb.mono (by omega)));have XP:=zaa (show ∀ W:World,Below (w.heap.size+1) V W→W.heap[w.heap.size]? = some (.cells #[.string rh,.string rp,.string rl] 56 (0,0)) from fun W hb=>(hb.block _ (by omega)).trans (za X1));go_loopw [5,6] (fun v i wr=>∃ (j:Nat) (sp:Option Addr) (n c':Nat),j≤m∧v=.slice sp n c'∧i=.int .i64 (j:Int)∧Hid (((l.take j).filter (fun x=>ltR x ⟨rh,rp,rl⟩)).length=n)∧Hid (zdo (w.heap.size+1) wr sp c' ((l.take j).filter (fun x=>ltR x ⟨rh,rp,rl⟩)))∧Hid (Below (w.heap.size+1) V wr)) (fun _ i _=>m - (intOf i).toNat)
 case atStart=>exact⟨0,_,0,0,by omega,rfl,rfl,zaa rfl,Z0,zaa (Below.refl _ _)⟩
 case round =>
  obtain⟨j,sp,n,c',hj,rfl,rfl,NL,OW,BB⟩:=hrel;have PK:=zaa (za XP _ (za BB));have HB:=zaa (show w.heap.size+1≤wr.heap.size by have:=(za BB).size;have:=za Z2;omega);by_cases hjm:j<m
  ·as_aux_lemma =>
   have y0:(0:Int)≤(j:Int):=by omega
   have y1:(j:Int)<(m:Int):=by omega
   have hjl:j<l.length:=by rw[za HM];exact hjm
   have FT:=zaa (zbr (fun x=>ltR x ⟨rh,rp,rl⟩) l j hjl);obtain⟨g,rfl,hg1,q0,q1,q2⟩:=(za HL).cell j hjl;have p0:=cell_later (za FB _ (za BB)) q0;have p1:=cell_later (za FB _ (za BB)) q1;have p2:=cell_later (za FB _ (za BB)) q2;have CL:=zaa (fun W=>za LC l[j] W);have HN:=zaa (za FL j);generalize hx:l[j]=x at *;clear hx;have KP:=zaa (show ∀ W:World,Below wr.heap.size wr W→W.cell? ⟨w.heap.size,0,none⟩=some (.string rh)∧W.cell? ⟨w.heap.size,1,none⟩=some (.string rp)∧W.cell? ⟨w.heap.size,2,none⟩=some (.string rl)∧W.cell? ⟨g,j*3,none⟩=some (.string x.h)∧W.cell? ⟨g,j*3+1,none⟩=some (.string x.p)∧W.cell? ⟨g,j*3+2,none⟩=some (.string x.l) from fun W hb=>⟨cell_later hb (zab (za PK) 0 _ rfl),cell_later hb (zab (za PK) 1 _ rfl),cell_later hb (zab (za PK) 2 _ rfl),cell_later hb p0,cell_later hb p1,cell_later hb p2⟩);clear q0 q1 q2 p0 p1 p2;generalize hd:ltR x ⟨rh,rp,rl⟩=d at *;have HD:=zaa hd;clear hd;cases d with
   |true =>
    rw[if_pos rfl] at FT
    go_wp2_with fail
    have G:=zaa (show Below wr.heap.size wr wr.drew from(Below.refl _ _).drew);refine wp_region_held_drew (S:=fun w'=>w'.cell? ⟨w.heap.size,0,none⟩=some (.string rh)∧w'.cell? ⟨w.heap.size,1,none⟩=some (.string rp)∧w'.cell? ⟨w.heap.size,2,none⟩=some (.string rl)∧w'.cell? ⟨g,j*3,none⟩=some (.string x.h)∧w'.cell? ⟨g,j*3+1,none⟩=some (.string x.p)∧w'.cell? ⟨g,j*3+2,none⟩=some (.string x.l)) (by kernel_rfl) ?_ (fun hHeld=>?_)
    ·try dsimp only
     exact za KP _ (za G)
    refine hT 0 ?_;refine hT 1 ?_;refine hT 2 ?_;refine hT 3 ?_;refine hT 4 ?_;refine hO 5 (fun K hK=>?_);go_simp
    first
     |(go_at_call 125
       refine(za CL _).mono ?_;rintro e V1 ⟨rfl,v1⟩;have G:=zaa ((za G).trans (v1.mono (za G).size))
       clear v1)
    go_wp2_with fail
    refine hK.out _ _ ?_ (fun hHeld=>?_)
    ·try dsimp only
     exact za KP _ (za G)
    clear hK K;refine hP ?_;refine wpAnyH_done (by kernel_rfl) ?_ _;obtain⟨p0,p1,p2,q0,q1,q2⟩:=za KP _ (za G);have OA:=zaa (show zdo (w.heap.size+1) (V1.alloc (.cells #[.string x.h,.string x.p,.string x.l] 56)) sp c' ((l.take j).filter (fun x=>ltR x ⟨rh,rp,rl⟩)) from zae (za OW) ((za G).alloc (za G).size _));have XA:=zaa (zac V1 (.cells #[.string x.h,.string x.p,.string x.l] 56));have GA:=zaa (show Below wr.heap.size wr (V1.alloc (.cells #[.string x.h,.string x.p,.string x.l] 56)) from(za G).alloc (za G).size _)
    go_wp2_with (at_builtin;refine zaw rfl (.tmp 21) (.tmp 26) rfl (w.heap.size+1) sp n c' _ rfl (za NL) (za OA) _ x rfl (za XA) (by have:=za NL;have:=za HN;omega) (by have:=(za GA).size;have:=za HB;omega) ?_;intro sp2 c2 W2 ho hb2;have O2:=zaa ho;have BW:=zaa hb2;clear ho hb2)
    exact⟨⟨j+1,sp2,n+1,c2,by omega,rfl,by go_num,zaa (by rw[za FT,List.length_append,za NL];rfl),zaa (by rw[za FT];exact za O2),zaa ((za BB).trans (((za GA).mono (za HB)).trans (za BW)))⟩,by simp[intOf];omega⟩
   |false =>
    rw[if_neg (by decide),List.append_nil] at FT
    go_wp2_with fail
    have G:=zaa (show Below wr.heap.size wr wr.drew from(Below.refl _ _).drew);refine wp_region_held_drew (S:=fun w'=>w'.cell? ⟨w.heap.size,0,none⟩=some (.string rh)∧w'.cell? ⟨w.heap.size,1,none⟩=some (.string rp)∧w'.cell? ⟨w.heap.size,2,none⟩=some (.string rl)∧w'.cell? ⟨g,j*3,none⟩=some (.string x.h)∧w'.cell? ⟨g,j*3+1,none⟩=some (.string x.p)∧w'.cell? ⟨g,j*3+2,none⟩=some (.string x.l)) (by kernel_rfl) ?_ (fun hHeld=>?_)
    ·try dsimp only
     exact za KP _ (za G)
    refine hT 0 ?_;refine hT 1 ?_;refine hT 2 ?_;refine hT 3 ?_;refine hT 4 ?_;refine hO 5 (fun K hK=>?_);go_simp
    first
     |(go_at_call 125
       refine(za CL _).mono ?_;rintro e V1 ⟨rfl,v1⟩;have G:=zaa ((za G).trans (v1.mono (za G).size))
       clear v1)
    go_wp2_with fail
    refine hK.out _ _ ?_ (fun hHeld=>?_)
    ·try dsimp only
     exact za KP _ (za G)
    clear hK K;refine hP ?_;refine wpAnyH_done (by kernel_rfl) ?_ _
    go_wp2
    exact⟨⟨j+1,sp,n,c',by omega,rfl,by go_num,zaa (by rw[za FT];exact za NL),zaa (by rw[za FT];exact zae (za OW) (za G)),zaa ((za BB).trans ((za G).mono (za HB)))⟩,by simp[intOf];omega⟩
  ·as_aux_lemma =>
   have hjj:¬ (j:Int)<(m:Int):=by omega
   obtain rfl:j=m:=by omega
   have E1:=zaa (show(l.take j).filter (fun x=>ltR x ⟨rh,rp,rl⟩)=l.filter (fun x=>ltR x ⟨rh,rp,rl⟩) by rw[List.take_of_length_le (by rw[za HM];exact Nat.le_refl _)]);have HN:=zaa (za FL j);rw[za E1] at NL OW HN;have k0:=zab (za PK) 0 _ rfl;have k1:=zab (za PK) 1 _ rfl;have k2:=zab (za PK) 2 _ rfl;have bA:=zaa (show Below wr.heap.size wr (wr.alloc (.cells #[.string rh,.string rp,.string rl] 56)) from(Below.refl _ _).alloc (Nat.le_refl _) _);have OA:=zaa (show zdo (w.heap.size+1) (wr.alloc (.cells #[.string rh,.string rp,.string rl] 56)) sp c' (l.filter (fun x=>ltR x ⟨rh,rp,rl⟩)) from zae (za OW) (za bA));have XA:=zaa (zac wr (.cells #[.string rh,.string rp,.string rl] 56))
   go_wp2_with (at_builtin;refine zaw rfl (.tmp 28) (.tmp 30) rfl (w.heap.size+1) sp n c' _ rfl (za NL) (za OA) _ ⟨rh,rp,rl⟩ rfl (za XA) (by have:=za NL;have:=za HN;omega) (by have:=(za bA).size;have:=za HB;omega) ?_;intro sp2 c2 W2 ho hb2;have O2:=zaa ho;have BW:=zaa hb2;clear ho hb2)
   have B2:=zaa ((za BB).trans (((za bA).mono (za HB)).trans (za BW)));have N2:=zaa (show(l.filter (fun x=>ltR x ⟨rh,rp,rl⟩)++[(⟨rh,rp,rl⟩:Rt)]).length=n+1 by rw[List.length_append,za NL];rfl);have WRE:=zaa (show l.filter (fun x=>ltR x ⟨rh,rp,rl⟩)++[(⟨rh,rp,rl⟩:Rt)]++l.filter (fun x=>ltR ⟨rh,rp,rl⟩ x)=wR ⟨rh,rp,rl⟩ l from za WR _ _ rfl rfl);have LL:=zaa (show n≤j by have:=za NL;have:=za HN;omega);generalize l.filter (fun x=>ltR x ⟨rh,rp,rl⟩)++[(⟨rh,rp,rl⟩:Rt)]=L1 at *;clear OA XA bA k0 k1 k2 OW NL PK BW BB E1;go_loopw [5,7] (fun v i wr=>∃ (k:Nat) (sp:Option Addr) (n2 c':Nat),k≤j∧v=.slice sp n2 c'∧i=.int .i64 (k:Int)∧Hid ((L1++(l.take k).filter (fun x=>ltR ⟨rh,rp,rl⟩ x)).length=n2)∧Hid (zdo (w.heap.size+1) wr sp c' (L1++(l.take k).filter (fun x=>ltR ⟨rh,rp,rl⟩ x)))∧Hid (Below (w.heap.size+1) V wr)) (fun _ i _=>j - (intOf i).toNat)
   case atStart=>exact⟨0,_,n+1,_,by omega,rfl,rfl,zaa (by simpa using za N2),zaa (by simpa using za O2),B2⟩
   case round =>
    obtain⟨k,sp3,n2,c3,hk,rfl,rfl,NL,OW,BB⟩:=hrel;have PK:=zaa (za XP _ (za BB));have HB:=zaa (show w.heap.size+1≤wr.heap.size by have:=(za BB).size;have:=za Z2;omega);by_cases hkj:k<j
    ·as_aux_lemma =>
     have y0:(0:Int)≤(k:Int):=by omega
     have y1:(k:Int)<(j:Int):=by omega
     have hjl:k<l.length:=by rw[za HM];exact hkj
     have FT:=zaa (zbr (fun x=>ltR ⟨rh,rp,rl⟩ x) l k hjl);obtain⟨g,rfl,hg1,q0,q1,q2⟩:=(za HL).cell k hjl;have p0:=cell_later (za FB _ (za BB)) q0;have p1:=cell_later (za FB _ (za BB)) q1;have p2:=cell_later (za FB _ (za BB)) q2;have CL:=zaa (fun W=>za LD l[k] W);have HN:=zaa (za FD k);generalize hx:l[k]=x at *;clear hx;have KP:=zaa (show ∀ W:World,Below wr.heap.size wr W→W.cell? ⟨w.heap.size,0,none⟩=some (.string rh)∧W.cell? ⟨w.heap.size,1,none⟩=some (.string rp)∧W.cell? ⟨w.heap.size,2,none⟩=some (.string rl)∧W.cell? ⟨g,k*3,none⟩=some (.string x.h)∧W.cell? ⟨g,k*3+1,none⟩=some (.string x.p)∧W.cell? ⟨g,k*3+2,none⟩=some (.string x.l) from fun W hb=>⟨cell_later hb (zab (za PK) 0 _ rfl),cell_later hb (zab (za PK) 1 _ rfl),cell_later hb (zab (za PK) 2 _ rfl),cell_later hb p0,cell_later hb p1,cell_later hb p2⟩);clear q0 q1 q2 p0 p1 p2;generalize hd:ltR ⟨rh,rp,rl⟩ x=d at *;have HD:=zaa hd;clear hd;cases d with
     |true =>
      rw[if_pos rfl] at FT
      go_wp2_with fail
      have G:=zaa (show Below wr.heap.size wr wr.drew from(Below.refl _ _).drew);refine wp_region_held_drew (S:=fun w'=>w'.cell? ⟨w.heap.size,0,none⟩=some (.string rh)∧w'.cell? ⟨w.heap.size,1,none⟩=some (.string rp)∧w'.cell? ⟨w.heap.size,2,none⟩=some (.string rl)∧w'.cell? ⟨g,k*3,none⟩=some (.string x.h)∧w'.cell? ⟨g,k*3+1,none⟩=some (.string x.p)∧w'.cell? ⟨g,k*3+2,none⟩=some (.string x.l)) (by kernel_rfl) ?_ (fun hHeld=>?_)
      ·try dsimp only
       exact za KP _ (za G)
      refine hT 0 ?_;refine hT 1 ?_;refine hT 2 ?_;refine hT 3 ?_;refine hT 4 ?_;refine hO 5 (fun K hK=>?_);go_simp
      first
       |(go_at_call 125
         refine(za CL _).mono ?_;rintro e V1 ⟨rfl,v1⟩;have G:=zaa ((za G).trans (v1.mono (za G).size))
         clear v1)
      go_wp2_with fail
      refine hK.out _ _ ?_ (fun hHeld=>?_)
      ·try dsimp only
       exact za KP _ (za G)
      clear hK K;refine hP ?_;refine wpAnyH_done (by kernel_rfl) ?_ _;obtain⟨p0,p1,p2,q0,q1,q2⟩:=za KP _ (za G);have OA:=zaa (show zdo (w.heap.size+1) (V1.alloc (.cells #[.string x.h,.string x.p,.string x.l] 56)) sp3 c3 (L1++(l.take k).filter (fun x=>ltR ⟨rh,rp,rl⟩ x)) from zae (za OW) ((za G).alloc (za G).size _));have XA:=zaa (zac V1 (.cells #[.string x.h,.string x.p,.string x.l] 56));have GA:=zaa (show Below wr.heap.size wr (V1.alloc (.cells #[.string x.h,.string x.p,.string x.l] 56)) from(za G).alloc (za G).size _)
      go_wp2_with (at_builtin;refine zaw rfl (.tmp 44) (.tmp 49) rfl (w.heap.size+1) sp3 n2 c3 _ rfl (za NL) (za OA) _ x rfl (za XA) (by have:=za NL;have:=za HN;have:=za N2;have:=za LL;rw[List.length_append] at *;omega) (by have:=(za GA).size;have:=za HB;omega) ?_;intro sp2 c2 W2 ho hb2;have O2:=zaa ho;have BW:=zaa hb2;clear ho hb2)
      exact⟨⟨k+1,sp2,n2+1,c2,by omega,rfl,by go_num,zaa (by rw[za FT,← List.append_assoc,List.length_append,za NL];rfl),zaa (by rw[za FT,← List.append_assoc];exact za O2),zaa ((za BB).trans (((za GA).mono (za HB)).trans (za BW)))⟩,by simp[intOf];omega⟩
     |false =>
      rw[if_neg (by decide),List.append_nil] at FT
      go_wp2_with fail
      have G:=zaa (show Below wr.heap.size wr wr.drew from(Below.refl _ _).drew);refine wp_region_held_drew (S:=fun w'=>w'.cell? ⟨w.heap.size,0,none⟩=some (.string rh)∧w'.cell? ⟨w.heap.size,1,none⟩=some (.string rp)∧w'.cell? ⟨w.heap.size,2,none⟩=some (.string rl)∧w'.cell? ⟨g,k*3,none⟩=some (.string x.h)∧w'.cell? ⟨g,k*3+1,none⟩=some (.string x.p)∧w'.cell? ⟨g,k*3+2,none⟩=some (.string x.l)) (by kernel_rfl) ?_ (fun hHeld=>?_)
      ·try dsimp only
       exact za KP _ (za G)
      refine hT 0 ?_;refine hT 1 ?_;refine hT 2 ?_;refine hT 3 ?_;refine hT 4 ?_;refine hO 5 (fun K hK=>?_);go_simp
      first
       |(go_at_call 125
         refine(za CL _).mono ?_;rintro e V1 ⟨rfl,v1⟩;have G:=zaa ((za G).trans (v1.mono (za G).size))
         clear v1)
      go_wp2_with fail
      refine hK.out _ _ ?_ (fun hHeld=>?_)
      ·try dsimp only
       exact za KP _ (za G)
      clear hK K;refine hP ?_;refine wpAnyH_done (by kernel_rfl) ?_ _
      go_wp2
      exact⟨⟨k+1,sp3,n2,c3,by omega,rfl,by go_num,zaa (by rw[za FT];exact za NL),zaa (by rw[za FT];exact zae (za OW) (za G)),zaa ((za BB).trans ((za G).mono (za HB)))⟩,by simp[intOf];omega⟩
    ·as_aux_lemma =>
     have hjj:¬ (k:Int)<(j:Int):=by omega
     obtain rfl:k=j:=by omega
     have E2:=zaa (show(l.take k).filter (fun x=>ltR ⟨rh,rp,rl⟩ x)=l.filter (fun x=>ltR ⟨rh,rp,rl⟩ x) by rw[List.take_of_length_le (by rw[za HM];exact Nat.le_refl _)]);rw[za E2,za WRE] at NL OW
     go_wp2
     go_ret
     exact⟨sp3,c3,by first|(rw[za NL];done)|(rw[za NL];rfl),zb4 (za OW) (by omega),za FB _ (za BB)⟩
end
end Go.Proofs.YtjcjleaicjhpeaaGreatDoor
