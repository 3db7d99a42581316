/- Conf: the document's less, withRoute. -/
import Derived.Test.YtjcjleaicjhpeaaGreatDoorB04
import Derived.Test.YtjcjleaicjhpeaaGreatDoorB07
set_option linter.unusedVariables false
set_option maxRecDepth 20000
set_option maxHeartbeats 16000000
namespace Go.Proofs.YtjcjleaicjhpeaaGreatDoor
section
open Go.ChangeShapes Go.WideShapes Go.ChangeAt Go.RowKit
def ltR (a b:Rt):Bool:=decide (Kord.lt (a.h,a.p) (b.h,b.p))
def wR (r:Rt) (l:List Rt):List Rt:=l.filter (fun x=>ltR x r)++r::l.filter (fun x=>ltR r x)
theorem zgz (a b:Rt) (w:World):Calls Tryz.prog 125 #[.agg #[.string a.h,.string a.p,.string a.l],.agg #[.string b.h,.string b.p,.string b.l]] w fun e w'=>e=.returned (.bool (ltR a b))∧Below w.heap.size w w':=by
 obtain⟨ah,ap,al⟩:=a;obtain⟨bh,bp,bl⟩:=b;dsimp only;have b1:Below w.heap.size w (w.alloc (.cells #[.string ah,.string ap,.string al] 56)):=(Below.refl _ _).alloc (Nat.le_refl _) _;have B2:=zaa (b1.alloc b1.size (.cells #[.string bh,.string bp,.string bl] 56));have s1:(w.alloc (.cells #[.string ah,.string ap,.string al] 56)).heap.size=w.heap.size+1:=by simp
 have X1:((w.alloc (.cells #[.string ah,.string ap,.string al] 56)).alloc (.cells #[.string bh,.string bp,.string bl] 56)).heap[w.heap.size]? = some (.cells #[.string ah,.string ap,.string al] 56 (0,0)):=by rw[Below.heap_alloc _ _ _ (by simp)];exact zad _ _
 have X2:((w.alloc (.cells #[.string ah,.string ap,.string al] 56)).alloc (.cells #[.string bh,.string bp,.string bl] 56)).heap[w.heap.size+1]? = some (.cells #[.string bh,.string bp,.string bl] 56 (0,0)):=by rw[← s1];exact zad _ _
 have a0:=zab X1 0 _ rfl;have a1:=zab X1 1 _ rfl;have d0:=zab X2 0 _ rfl;have d1:=zab X2 1 _ rfl;clear b1 s1 X1 X2;by_cases h1:Kord.lt ah bh
 ·have hr:ltR ⟨ah,ap,al⟩ ⟨bh,bp,bl⟩=true:=decide_eq_true (.inl h1);have t1:Op.bytesLess ah.toList bh.toList=true:=by rw[zh5];exact decide_eq_true h1
  rw[hr];clear hr h1;go_enter Tryz.func125,Tryz.ntmps125
  go_wp2
  go_ret
  exact⟨rfl,za B2⟩
 ·have t1:Op.bytesLess ah.toList bh.toList=false:=by rw[zh5];exact decide_eq_false h1
  by_cases h2:ah=bh
  ·have t2:(ah.toList==bh.toList)=true:=by rw[zb3];exact decide_eq_true h2
   by_cases h3:Kord.lt ap bp
   ·have t3:Op.bytesLess ap.toList bp.toList=true:=by rw[zh5];exact decide_eq_true h3
    have hr:ltR ⟨ah,ap,al⟩ ⟨bh,bp,bl⟩=true:=decide_eq_true (.inr ⟨h2,h3⟩);rw[hr];clear hr h1 h2 h3;go_enter Tryz.func125,Tryz.ntmps125
    go_wp2
    go_ret
    exact⟨rfl,za B2⟩
   ·have t3:Op.bytesLess ap.toList bp.toList=false:=by rw[zh5];exact decide_eq_false h3
    have hr:ltR ⟨ah,ap,al⟩ ⟨bh,bp,bl⟩=false:=decide_eq_false (fun e=>e.elim h1 (fun k=>h3 k.2));rw[hr];clear hr h1 h2 h3;go_enter Tryz.func125,Tryz.ntmps125
    go_wp2
    go_ret
    exact⟨rfl,za B2⟩
  ·have t2:(ah.toList==bh.toList)=false:=by rw[zb3];exact decide_eq_false h2
   have hr:ltR ⟨ah,ap,al⟩ ⟨bh,bp,bl⟩=false:=decide_eq_false (fun e=>e.elim h1 (fun k=>h2 k.1));rw[hr];clear hr h1 h2;go_enter Tryz.func125,Tryz.ntmps125
   go_wp2
   go_ret
   exact⟨rfl,za B2⟩
theorem zei {base:Nat} {w:World} {a:Option Addr} {c:Nat} {l:List Rt} (h:zc9 base w a c l) (r:Rt) (m:Nat) (hm:l.length=m) (hn:m≤1000) :
  Calls Tryz.prog 128 #[.slice a m c,.agg #[.string r.h,.string r.p,.string r.l]] w fun e w'=>∃ a' c',e=.returned (.slice a' (wR r l).length c')∧zc9 w.heap.size w' a' c' (wR r l)∧Below w.heap.size w w':=by
 have WR:=zaa (show ∀ l1 l2,l1=l.filter (fun x=>ltR x r)→l2=l.filter (fun x=>ltR r x)→l1++[r]++l2=wR r l from fun l1 l2 h1 h2=>by rw[h1,h2,List.append_assoc];rfl);have LC:=zaa (fun (x:Rt) (W:World)=>zgz x r W);have LD:=zaa (fun (x:Rt) (W:World)=>zgz r x W);have FL:=zaa (show ∀ j,((l.take j).filter (fun x=>ltR x r)).length≤j from fun j=>za4 _ l j);have FD:=zaa (show ∀ j,((l.take j).filter (fun x=>ltR r x)).length≤j from fun j=>za4 _ l j);have HL:=zaa h;have HM:=zaa hm;obtain⟨rh,rp,rl⟩:=r;dsimp only at *;have b1:Below w.heap.size w (w.alloc (.cells #[.string rh,.string rp,.string rl] 56)):=(Below.refl _ _).alloc (Nat.le_refl _) _;have b2:=zaa (b1.alloc b1.size (.cells #[] 56));have s1:(w.alloc (.cells #[.string rh,.string rp,.string rl] 56)).heap.size=w.heap.size+1:=by simp
 have X1:=zaa (show((w.alloc (.cells #[.string rh,.string rp,.string rl] 56)).alloc (.cells #[] 56)).heap[w.heap.size]? = some (.cells #[.string rh,.string rp,.string rl] 56 (0,0)) by rw[Below.heap_alloc _ _ _ (by simp)];exact zad _ _);have X2:=zaa (show((w.alloc (.cells #[.string rh,.string rp,.string rl] 56)).alloc (.cells #[] 56)).heap[w.heap.size+1]? = some (.cells #[] 56 (0,0)) by rw[← s1];exact zad _ _);have Z2:=zaa (show((w.alloc (.cells #[.string rh,.string rp,.string rl] 56)).alloc (.cells #[] 56)).heap.size=w.heap.size+2 by simp);clear b1 s1 h hm;go_enter Tryz.func128,Tryz.ntmps128
 go_wp2_with fail
 generalize ((w.alloc (.cells #[.string rh,.string rp,.string rl] 56)).alloc (.cells #[] 56))=V at *;have Z0:=zaa (show zc9 (w.heap.size+1) V (some ⟨w.heap.size+1,0,none⟩) 0 [] from zfn 3 (za X2) (Nat.le_refl _));have FB:=zaa (show ∀ W:World,Below (w.heap.size+1) V W→Below w.heap.size w W from fun W hb=>(za b2).trans (hb.mono (by omega)));have XP:=zaa (show ∀ W:World,Below (w.heap.size+1) V W→W.heap[w.heap.size]? = some (.cells #[.string rh,.string rp,.string rl] 56 (0,0)) from fun W hb=>(hb.block _ (by omega)).trans (za X1));go_loopw [5,6] (fun v i wr=>∃ (j:Nat) (sp:Option Addr) (n c':Nat),j≤m∧v=.slice sp n c'∧i=.int .i64 (j:Int)∧Hid (((l.take j).filter (fun x=>ltR x ⟨rh,rp,rl⟩)).length=n)∧Hid (zc9 (w.heap.size+1) wr sp c' ((l.take j).filter (fun x=>ltR x ⟨rh,rp,rl⟩)))∧Hid (Below (w.heap.size+1) V wr)) (fun _ i _=>m - (intOf i).toNat)
 case atStart=>exact⟨0,_,0,0,by omega,rfl,rfl,zaa rfl,Z0,zaa (Below.refl _ _)⟩
 case round =>
  obtain⟨j,sp,n,c',hj,rfl,rfl,NL,OW,BB⟩:=hrel;have PK:=zaa (za XP _ (za BB));have HB:=zaa (show w.heap.size+1≤wr.heap.size by have:=(za BB).size;have:=za Z2;omega);by_cases hjm:j<m
  ·as_aux_lemma =>
   have y0:(0:Int)≤(j:Int):=by omega
   have y1:(j:Int)<(m:Int):=by omega
   have hjl:j<l.length:=by rw[za HM];exact hjm
   have FT:=zaa (zbj (fun x=>ltR x ⟨rh,rp,rl⟩) l j hjl);obtain⟨g,rfl,hg1,q0,q1,q2⟩:=(za HL).cell j hjl;have p0:=cell_later (za FB _ (za BB)) q0;have p1:=cell_later (za FB _ (za BB)) q1;have p2:=cell_later (za FB _ (za BB)) q2;have CL:=zaa (fun W=>za LC l[j] W);have HN:=zaa (za FL j);generalize hx:l[j]=x at *;clear hx;have KP:=zaa (show ∀ W:World,Below wr.heap.size wr W→W.cell? ⟨w.heap.size,0,none⟩=some (.string rh)∧W.cell? ⟨w.heap.size,1,none⟩=some (.string rp)∧W.cell? ⟨w.heap.size,2,none⟩=some (.string rl)∧W.cell? ⟨g,j*3,none⟩=some (.string x.h)∧W.cell? ⟨g,j*3+1,none⟩=some (.string x.p)∧W.cell? ⟨g,j*3+2,none⟩=some (.string x.l) from fun W hb=>⟨cell_later hb (zab (za PK) 0 _ rfl),cell_later hb (zab (za PK) 1 _ rfl),cell_later hb (zab (za PK) 2 _ rfl),cell_later hb p0,cell_later hb p1,cell_later hb p2⟩);clear q0 q1 q2 p0 p1 p2;generalize hd:ltR x ⟨rh,rp,rl⟩=d at *;have HD:=zaa hd;clear hd;cases d with
   |true =>
    rw[if_pos rfl] at FT
    go_wp2_with fail
    have G:=zaa (show Below wr.heap.size wr wr.drew from(Below.refl _ _).drew);refine wp_region_held_drew (S:=fun w'=>w'.cell? ⟨w.heap.size,0,none⟩=some (.string rh)∧w'.cell? ⟨w.heap.size,1,none⟩=some (.string rp)∧w'.cell? ⟨w.heap.size,2,none⟩=some (.string rl)∧w'.cell? ⟨g,j*3,none⟩=some (.string x.h)∧w'.cell? ⟨g,j*3+1,none⟩=some (.string x.p)∧w'.cell? ⟨g,j*3+2,none⟩=some (.string x.l)) (by kernel_rfl) ?_ (fun hHeld=>?_)
    ·try dsimp only
     exact za KP _ (za G)
    refine hT 0 ?_;refine hT 1 ?_;refine hT 2 ?_;refine hT 3 ?_;refine hT 4 ?_;refine hO 5 (fun K hK=>?_);go_simp
    first
     |(go_at_call 125
       refine(za CL _).mono ?_;rintro e V1 ⟨rfl,v1⟩;have G:=zaa ((za G).trans (v1.mono (za G).size))
       clear v1)
    go_wp2_with fail
    refine hK.out _ _ ?_ (fun hHeld=>?_)
    ·try dsimp only
     exact za KP _ (za G)
    clear hK K;refine hP ?_;refine wpAnyH_done (by kernel_rfl) ?_ _;obtain⟨p0,p1,p2,q0,q1,q2⟩:=za KP _ (za G);have OA:=zaa (show zc9 (w.heap.size+1) (V1.alloc (.cells #[.string x.h,.string x.p,.string x.l] 56)) sp c' ((l.take j).filter (fun x=>ltR x ⟨rh,rp,rl⟩)) from zae (za OW) ((za G).alloc (za G).size _));have XA:=zaa (zad V1 (.cells #[.string x.h,.string x.p,.string x.l] 56));have GA:=zaa (show Below wr.heap.size wr (V1.alloc (.cells #[.string x.h,.string x.p,.string x.l] 56)) from(za G).alloc (za G).size _)
    go_wp2_with (at_builtin;refine zay rfl (.tmp 21) (.tmp 26) rfl (w.heap.size+1) sp n c' _ rfl (za NL) (za OA) _ x rfl (za XA) (by have:=za NL;have:=za HN;omega) (by have:=(za GA).size;have:=za HB;omega) ?_;intro sp2 c2 W2 ho hb2;have O2:=zaa ho;have BW:=zaa hb2;clear ho hb2)
    exact⟨⟨j+1,sp2,n+1,c2,by omega,rfl,by go_num,zaa (by rw[za FT,List.length_append,za NL];rfl),zaa (by rw[za FT];exact za O2),zaa ((za BB).trans (((za GA).mono (za HB)).trans (za BW)))⟩,by simp[intOf];omega⟩
   |false =>
    rw[if_neg (by decide),List.append_nil] at FT
    go_wp2_with fail
    have G:=zaa (show Below wr.heap.size wr wr.drew from(Below.refl _ _).drew);refine wp_region_held_drew (S:=fun w'=>w'.cell? ⟨w.heap.size,0,none⟩=some (.string rh)∧w'.cell? ⟨w.heap.size,1,none⟩=some (.string rp)∧w'.cell? ⟨w.heap.size,2,none⟩=some (.string rl)∧w'.cell? ⟨g,j*3,none⟩=some (.string x.h)∧w'.cell? ⟨g,j*3+1,none⟩=some (.string x.p)∧w'.cell? ⟨g,j*3+2,none⟩=some (.string x.l)) (by kernel_rfl) ?_ (fun hHeld=>?_)
    ·try dsimp only
     exact za KP _ (za G)
    refine hT 0 ?_;refine hT 1 ?_;refine hT 2 ?_;refine hT 3 ?_;refine hT 4 ?_;refine hO 5 (fun K hK=>?_);go_simp
    first
     |(go_at_call 125
       refine(za CL _).mono ?_;rintro e V1 ⟨rfl,v1⟩;have G:=zaa ((za G).trans (v1.mono (za G).size))
       clear v1)
    go_wp2_with fail
    refine hK.out _ _ ?_ (fun hHeld=>?_)
    ·try dsimp only
     exact za KP _ (za G)
    clear hK K;refine hP ?_;refine wpAnyH_done (by kernel_rfl) ?_ _
    go_wp2
    exact⟨⟨j+1,sp,n,c',by omega,rfl,by go_num,zaa (by rw[za FT];exact za NL),zaa (by rw[za FT];exact zae (za OW) (za G)),zaa ((za BB).trans ((za G).mono (za HB)))⟩,by simp[intOf];omega⟩
  ·as_aux_lemma =>
   have hjj:¬ (j:Int)<(m:Int):=by omega
   obtain rfl:j=m:=by omega
   have E1:=zaa (show(l.take j).filter (fun x=>ltR x ⟨rh,rp,rl⟩)=l.filter (fun x=>ltR x ⟨rh,rp,rl⟩) by rw[List.take_of_length_le (by rw[za HM];exact Nat.le_refl _)]);have HN:=zaa (za FL j);rw[za E1] at NL OW HN;have k0:=zab (za PK) 0 _ rfl;have k1:=zab (za PK) 1 _ rfl;have k2:=zab (za PK) 2 _ rfl;have bA:=zaa (show Below wr.heap.size wr (wr.alloc (.cells #[.string rh,.string rp,.string rl] 56)) from(Below.refl _ _).alloc (Nat.le_refl _) _);have OA:=zaa (show zc9 (w.heap.size+1) (wr.alloc (.cells #[.string rh,.string rp,.string rl] 56)) sp c' (l.filter (fun x=>ltR x ⟨rh,rp,rl⟩)) from zae (za OW) (za bA));have XA:=zaa (zad wr (.cells #[.string rh,.string rp,.string rl] 56))
   go_wp2_with (at_builtin;refine zay rfl (.tmp 28) (.tmp 30) rfl (w.heap.size+1) sp n c' _ rfl (za NL) (za OA) _ ⟨rh,rp,rl⟩ rfl (za XA) (by have:=za NL;have:=za HN;omega) (by have:=(za bA).size;have:=za HB;omega) ?_;intro sp2 c2 W2 ho hb2;have O2:=zaa ho;have BW:=zaa hb2;clear ho hb2)
   have B2:=zaa ((za BB).trans (((za bA).mono (za HB)).trans (za BW)));have N2:=zaa (show(l.filter (fun x=>ltR x ⟨rh,rp,rl⟩)++[(⟨rh,rp,rl⟩:Rt)]).length=n+1 by rw[List.length_append,za NL];rfl);have WRE:=zaa (show l.filter (fun x=>ltR x ⟨rh,rp,rl⟩)++[(⟨rh,rp,rl⟩:Rt)]++l.filter (fun x=>ltR ⟨rh,rp,rl⟩ x)=wR ⟨rh,rp,rl⟩ l from za WR _ _ rfl rfl);have LL:=zaa (show n≤j by have:=za NL;have:=za HN;omega);generalize l.filter (fun x=>ltR x ⟨rh,rp,rl⟩)++[(⟨rh,rp,rl⟩:Rt)]=L1 at *;clear OA XA bA k0 k1 k2 OW NL PK BW BB E1;go_loopw [5,7] (fun v i wr=>∃ (k:Nat) (sp:Option Addr) (n2 c':Nat),k≤j∧v=.slice sp n2 c'∧i=.int .i64 (k:Int)∧Hid ((L1++(l.take k).filter (fun x=>ltR ⟨rh,rp,rl⟩ x)).length=n2)∧Hid (zc9 (w.heap.size+1) wr sp c' (L1++(l.take k).filter (fun x=>ltR ⟨rh,rp,rl⟩ x)))∧Hid (Below (w.heap.size+1) V wr)) (fun _ i _=>j - (intOf i).toNat)
   case atStart=>exact⟨0,_,n+1,_,by omega,rfl,rfl,zaa (by simpa using za N2),zaa (by simpa using za O2),B2⟩
   case round =>
    obtain⟨k,sp3,n2,c3,hk,rfl,rfl,NL,OW,BB⟩:=hrel;have PK:=zaa (za XP _ (za BB));have HB:=zaa (show w.heap.size+1≤wr.heap.size by have:=(za BB).size;have:=za Z2;omega);by_cases hkj:k<j
    ·as_aux_lemma =>
     have y0:(0:Int)≤(k:Int):=by omega
     have y1:(k:Int)<(j:Int):=by omega
     have hjl:k<l.length:=by rw[za HM];exact hkj
     have FT:=zaa (zbj (fun x=>ltR ⟨rh,rp,rl⟩ x) l k hjl);obtain⟨g,rfl,hg1,q0,q1,q2⟩:=(za HL).cell k hjl;have p0:=cell_later (za FB _ (za BB)) q0;have p1:=cell_later (za FB _ (za BB)) q1;have p2:=cell_later (za FB _ (za BB)) q2;have CL:=zaa (fun W=>za LD l[k] W);have HN:=zaa (za FD k);generalize hx:l[k]=x at *;clear hx;have KP:=zaa (show ∀ W:World,Below wr.heap.size wr W→W.cell? ⟨w.heap.size,0,none⟩=some (.string rh)∧W.cell? ⟨w.heap.size,1,none⟩=some (.string rp)∧W.cell? ⟨w.heap.size,2,none⟩=some (.string rl)∧W.cell? ⟨g,k*3,none⟩=some (.string x.h)∧W.cell? ⟨g,k*3+1,none⟩=some (.string x.p)∧W.cell? ⟨g,k*3+2,none⟩=some (.string x.l) from fun W hb=>⟨cell_later hb (zab (za PK) 0 _ rfl),cell_later hb (zab (za PK) 1 _ rfl),cell_later hb (zab (za PK) 2 _ rfl),cell_later hb p0,cell_later hb p1,cell_later hb p2⟩);clear q0 q1 q2 p0 p1 p2;generalize hd:ltR ⟨rh,rp,rl⟩ x=d at *;have HD:=zaa hd;clear hd;cases d with
     |true =>
      rw[if_pos rfl] at FT
      go_wp2_with fail
      have G:=zaa (show Below wr.heap.size wr wr.drew from(Below.refl _ _).drew);refine wp_region_held_drew (S:=fun w'=>w'.cell? ⟨w.heap.size,0,none⟩=some (.string rh)∧w'.cell? ⟨w.heap.size,1,none⟩=some (.string rp)∧w'.cell? ⟨w.heap.size,2,none⟩=some (.string rl)∧w'.cell? ⟨g,k*3,none⟩=some (.string x.h)∧w'.cell? ⟨g,k*3+1,none⟩=some (.string x.p)∧w'.cell? ⟨g,k*3+2,none⟩=some (.string x.l)) (by kernel_rfl) ?_ (fun hHeld=>?_)
      ·try dsimp only
       exact za KP _ (za G)
      refine hT 0 ?_;refine hT 1 ?_;refine hT 2 ?_;refine hT 3 ?_;refine hT 4 ?_;refine hO 5 (fun K hK=>?_);go_simp
      first
       |(go_at_call 125
         refine(za CL _).mono ?_;rintro e V1 ⟨rfl,v1⟩;have G:=zaa ((za G).trans (v1.mono (za G).size))
         clear v1)
      go_wp2_with fail
      refine hK.out _ _ ?_ (fun hHeld=>?_)
      ·try dsimp only
       exact za KP _ (za G)
      clear hK K;refine hP ?_;refine wpAnyH_done (by kernel_rfl) ?_ _;obtain⟨p0,p1,p2,q0,q1,q2⟩:=za KP _ (za G);have OA:=zaa (show zc9 (w.heap.size+1) (V1.alloc (.cells #[.string x.h,.string x.p,.string x.l] 56)) sp3 c3 (L1++(l.take k).filter (fun x=>ltR ⟨rh,rp,rl⟩ x)) from zae (za OW) ((za G).alloc (za G).size _));have XA:=zaa (zad V1 (.cells #[.string x.h,.string x.p,.string x.l] 56));have GA:=zaa (show Below wr.heap.size wr (V1.alloc (.cells #[.string x.h,.string x.p,.string x.l] 56)) from(za G).alloc (za G).size _)
      go_wp2_with (at_builtin;refine zay rfl (.tmp 44) (.tmp 49) rfl (w.heap.size+1) sp3 n2 c3 _ rfl (za NL) (za OA) _ x rfl (za XA) (by have:=za NL;have:=za HN;have:=za N2;have:=za LL;rw[List.length_append] at *;omega) (by have:=(za GA).size;have:=za HB;omega) ?_;intro sp2 c2 W2 ho hb2;have O2:=zaa ho;have BW:=zaa hb2;clear ho hb2)
      exact⟨⟨k+1,sp2,n2+1,c2,by omega,rfl,by go_num,zaa (by rw[za FT,← List.append_assoc,List.length_append,za NL];rfl),zaa (by rw[za FT,← List.append_assoc];exact za O2),zaa ((za BB).trans (((za GA).mono (za HB)).trans (za BW)))⟩,by simp[intOf];omega⟩
     |false =>
      rw[if_neg (by decide),List.append_nil] at FT
      go_wp2_with fail
      have G:=zaa (show Below wr.heap.size wr wr.drew from(Below.refl _ _).drew);refine wp_region_held_drew (S:=fun w'=>w'.cell? ⟨w.heap.size,0,none⟩=some (.string rh)∧w'.cell? ⟨w.heap.size,1,none⟩=some (.string rp)∧w'.cell? ⟨w.heap.size,2,none⟩=some (.string rl)∧w'.cell? ⟨g,k*3,none⟩=some (.string x.h)∧w'.cell? ⟨g,k*3+1,none⟩=some (.string x.p)∧w'.cell? ⟨g,k*3+2,none⟩=some (.string x.l)) (by kernel_rfl) ?_ (fun hHeld=>?_)
      ·try dsimp only
       exact za KP _ (za G)
      refine hT 0 ?_;refine hT 1 ?_;refine hT 2 ?_;refine hT 3 ?_;refine hT 4 ?_;refine hO 5 (fun K hK=>?_);go_simp
      first
       |(go_at_call 125
         refine(za CL _).mono ?_;rintro e V1 ⟨rfl,v1⟩;have G:=zaa ((za G).trans (v1.mono (za G).size))
         clear v1)
      go_wp2_with fail
      refine hK.out _ _ ?_ (fun hHeld=>?_)
      ·try dsimp only
       exact za KP _ (za G)
      clear hK K;refine hP ?_;refine wpAnyH_done (by kernel_rfl) ?_ _
      go_wp2
      exact⟨⟨k+1,sp3,n2,c3,by omega,rfl,by go_num,zaa (by rw[za FT];exact za NL),zaa (by rw[za FT];exact zae (za OW) (za G)),zaa ((za BB).trans ((za G).mono (za HB)))⟩,by simp[intOf];omega⟩
    ·as_aux_lemma =>
     have hjj:¬ (k:Int)<(j:Int):=by omega
     obtain rfl:k=j:=by omega
     have E2:=zaa (show(l.take k).filter (fun x=>ltR ⟨rh,rp,rl⟩ x)=l.filter (fun x=>ltR ⟨rh,rp,rl⟩ x) by rw[List.take_of_length_le (by rw[za HM];exact Nat.le_refl _)]);rw[za E2,za WRE] at NL OW
     go_wp2
     go_ret
     exact⟨sp3,c3,by first|(rw[za NL];done)|(rw[za NL];rfl),zbv (za OW) (by omega),za FB _ (za BB)⟩
def ltN (a b:Pr):Bool:=decide (Kord.lt a.nm b.nm)
def wP (r:Pr) (l:List Pr):List Pr:=l.filter (fun x=>ltN x r)++r::l.filter (fun x=>ltN r x)
theorem ze1 {base:Nat} {w:World} {a:Option Addr} {c:Nat} {l:List Pr} (h:za7 base w a c l) (r:Pr) (m:Nat) (hm:l.length=m) (hn:m≤1000) :
  Calls Tryz.prog 127 #[.slice a m c,.agg #[.string r.nm,.slice r.ta r.tn r.tc]] w fun e w'=>∃ a' c',e=.returned (.slice a' (wP r l).length c')∧za7 w.heap.size w' a' c' (wP r l)∧Below w.heap.size w w':=by
 have WR:=zaa (show ∀ l1 l2,l1=l.filter (fun x=>ltN x r)→l2=l.filter (fun x=>ltN r x)→l1++[r]++l2=wP r l from fun l1 l2 h1 h2=>by rw[h1,h2,List.append_assoc];rfl);have FL:=zaa (show ∀ j,((l.take j).filter (fun x=>ltN x r)).length≤j from fun j=>za4 _ l j);have FD:=zaa (show ∀ j,((l.take j).filter (fun x=>ltN r x)).length≤j from fun j=>za4 _ l j);have HL:=zaa h;have HM:=zaa hm;obtain⟨rn,ra,rt,rc⟩:=r;dsimp only at *;have b1:Below w.heap.size w (w.alloc (.cells #[.string rn,.slice ra rt rc] 54)):=(Below.refl _ _).alloc (Nat.le_refl _) _;have b2:=zaa (b1.alloc b1.size (.cells #[] 54));have s1:(w.alloc (.cells #[.string rn,.slice ra rt rc] 54)).heap.size=w.heap.size+1:=by simp
 have X1:=zaa (show((w.alloc (.cells #[.string rn,.slice ra rt rc] 54)).alloc (.cells #[] 54)).heap[w.heap.size]? = some (.cells #[.string rn,.slice ra rt rc] 54 (0,0)) by rw[Below.heap_alloc _ _ _ (by simp)];exact zad _ _);have X2:=zaa (show((w.alloc (.cells #[.string rn,.slice ra rt rc] 54)).alloc (.cells #[] 54)).heap[w.heap.size+1]? = some (.cells #[] 54 (0,0)) by rw[← s1];exact zad _ _);have Z2:=zaa (show((w.alloc (.cells #[.string rn,.slice ra rt rc] 54)).alloc (.cells #[] 54)).heap.size=w.heap.size+2 by simp);clear b1 s1 h hm;go_enter Tryz.func127,Tryz.ntmps127
 go_wp2_with fail
 generalize ((w.alloc (.cells #[.string rn,.slice ra rt rc] 54)).alloc (.cells #[] 54))=V at *;have Z0:=zaa (show za7 (w.heap.size+1) V (some ⟨w.heap.size+1,0,none⟩) 0 [] from zfn 2 (za X2) (Nat.le_refl _));have FB:=zaa (show ∀ W:World,Below (w.heap.size+1) V W→Below w.heap.size w W from fun W hb=>(za b2).trans (hb.mono (by omega)));have XP:=zaa (show ∀ W:World,Below (w.heap.size+1) V W→W.heap[w.heap.size]? = some (.cells #[.string rn,.slice ra rt rc] 54 (0,0)) from fun W hb=>(hb.block _ (by omega)).trans (za X1));go_loopw [5,6] (fun v i wr=>∃ (j:Nat) (sp:Option Addr) (n c':Nat),j≤m∧v=.slice sp n c'∧i=.int .i64 (j:Int)∧Hid (((l.take j).filter (fun x=>ltN x ⟨rn,ra,rt,rc⟩)).length=n)∧Hid (za7 (w.heap.size+1) wr sp c' ((l.take j).filter (fun x=>ltN x ⟨rn,ra,rt,rc⟩)))∧Hid (Below (w.heap.size+1) V wr)) (fun _ i _=>m - (intOf i).toNat)
 case atStart=>exact⟨0,_,0,0,by omega,rfl,rfl,zaa rfl,Z0,zaa (Below.refl _ _)⟩
 case round =>
  obtain⟨j,sp,n,c',hj,rfl,rfl,NL,OW,BB⟩:=hrel;have PK:=zaa (za XP _ (za BB));have HB:=zaa (show w.heap.size+1≤wr.heap.size by have:=(za BB).size;have:=za Z2;omega);by_cases hjm:j<m
  ·as_aux_lemma =>
   have y0:(0:Int)≤(j:Int):=by omega
   have y1:(j:Int)<(m:Int):=by omega
   have hjl:j<l.length:=by rw[za HM];exact hjm
   have FT:=zaa (zbj (fun x=>ltN x ⟨rn,ra,rt,rc⟩) l j hjl);obtain⟨g,rfl,hg1,q0,q1⟩:=(za HL).cell j hjl;have p0:=cell_later (za FB _ (za BB)) q0;have p1:=cell_later (za FB _ (za BB)) q1;have HN:=zaa (za FL j);generalize hx:l[j]=x at *;clear hx;have KP:=zaa (show ∀ W:World,Below wr.heap.size wr W→W.cell? ⟨w.heap.size,0,none⟩=some (.string rn)∧W.cell? ⟨g,j*2,none⟩=some (.string x.nm)∧W.cell? ⟨g,j*2+1,none⟩=some (.slice x.ta x.tn x.tc) from fun W hb=>⟨cell_later hb (zab (za PK) 0 _ rfl),cell_later hb p0,cell_later hb p1⟩);clear q0 q1 p0 p1;generalize hd:ltN x ⟨rn,ra,rt,rc⟩=d at *;have HD:=zaa hd;clear hd;cases d with
   |true =>
    rw[if_pos rfl] at FT;have tl:Op.bytesLess x.nm.toList rn.toList=true:=by rw[zh5];exact za HD
    have BN:∀ k,Below wr.heap.size wr (wr.drewN k):=fun k=>⟨(Below.refl wr.heap.size wr).os,(Below.refl wr.heap.size wr).tape,(Below.refl wr.heap.size wr).output,(Below.refl wr.heap.size wr).size,(Below.refl wr.heap.size wr).block⟩
    obtain⟨p0,q0,q1⟩:=za KP _ (Below.refl _ _)
    go_wp2_with fail
    go_quiet (fail)
    generalize hVN:wr.drewN _=V1;have G:=zaa (show Below wr.heap.size wr V1 from hVN ▸ BN _);clear BN hVN;obtain⟨p0,q0,q1⟩:=za KP _ (za G);have OA:=zaa (show za7 (w.heap.size+1) (V1.alloc (.cells #[.string x.nm,.slice x.ta x.tn x.tc] 54)) sp c' ((l.take j).filter (fun x=>ltN x ⟨rn,ra,rt,rc⟩)) from zae (za OW) ((za G).alloc (za G).size _));have XA:=zaa (zad V1 (.cells #[.string x.nm,.slice x.ta x.tn x.tc] 54));have GA:=zaa (show Below wr.heap.size wr (V1.alloc (.cells #[.string x.nm,.slice x.ta x.tn x.tc] 54)) from(za G).alloc (za G).size _)
    go_wp2_with (at_builtin;refine zca rfl (.tmp 23) (.tmp 28) rfl (w.heap.size+1) sp n c' _ rfl (za NL) (za OA) _ x rfl (za XA) (by have:=za NL;have:=za HN;omega) (by have:=(za GA).size;have:=za HB;omega) ?_;intro sp2 c2 W2 ho hb2;have O2:=zaa ho;have BW:=zaa hb2;clear ho hb2)
    exact⟨⟨j+1,sp2,n+1,c2,by omega,rfl,by go_num,zaa (by rw[za FT,List.length_append,za NL];rfl),zaa (by rw[za FT];exact za O2),zaa ((za BB).trans (((za GA).mono (za HB)).trans (za BW)))⟩,by simp[intOf];omega⟩
   |false =>
    rw[if_neg (by decide),List.append_nil] at FT;have tl:Op.bytesLess x.nm.toList rn.toList=false:=by rw[zh5];exact za HD
    have BN:∀ k,Below wr.heap.size wr (wr.drewN k):=fun k=>⟨(Below.refl wr.heap.size wr).os,(Below.refl wr.heap.size wr).tape,(Below.refl wr.heap.size wr).output,(Below.refl wr.heap.size wr).size,(Below.refl wr.heap.size wr).block⟩
    obtain⟨p0,q0,q1⟩:=za KP _ (Below.refl _ _)
    go_wp2_with fail
    go_quiet (fail)
    generalize hVN:wr.drewN _=V1;have G:=zaa (show Below wr.heap.size wr V1 from hVN ▸ BN _);clear BN hVN;obtain⟨p0,q0,q1⟩:=za KP _ (za G)
    go_wp2
    exact⟨⟨j+1,sp,n,c',by omega,rfl,by go_num,zaa (by rw[za FT];exact za NL),zaa (by rw[za FT];exact zae (za OW) (za G)),zaa ((za BB).trans ((za G).mono (za HB)))⟩,by simp[intOf];omega⟩
  ·as_aux_lemma =>
   have hjj:¬ (j:Int)<(m:Int):=by omega
   obtain rfl:j=m:=by omega
   have E1:=zaa (show(l.take j).filter (fun x=>ltN x ⟨rn,ra,rt,rc⟩)=l.filter (fun x=>ltN x ⟨rn,ra,rt,rc⟩) by rw[List.take_of_length_le (by rw[za HM];exact Nat.le_refl _)]);have HN:=zaa (za FL j);rw[za E1] at NL OW HN;have k0:=zab (za PK) 0 _ rfl;have k1:=zab (za PK) 1 _ rfl;have bA:=zaa (show Below wr.heap.size wr (wr.alloc (.cells #[.string rn,.slice ra rt rc] 54)) from(Below.refl _ _).alloc (Nat.le_refl _) _);have OA:=zaa (show za7 (w.heap.size+1) (wr.alloc (.cells #[.string rn,.slice ra rt rc] 54)) sp c' (l.filter (fun x=>ltN x ⟨rn,ra,rt,rc⟩)) from zae (za OW) (za bA));have XA:=zaa (zad wr (.cells #[.string rn,.slice ra rt rc] 54))
   go_wp2_with (at_builtin;refine zca rfl (.tmp 30) (.tmp 32) rfl (w.heap.size+1) sp n c' _ rfl (za NL) (za OA) _ ⟨rn,ra,rt,rc⟩ rfl (za XA) (by have:=za NL;have:=za HN;omega) (by have:=(za bA).size;have:=za HB;omega) ?_;intro sp2 c2 W2 ho hb2;have O2:=zaa ho;have BW:=zaa hb2;clear ho hb2)
   have B2:=zaa ((za BB).trans (((za bA).mono (za HB)).trans (za BW)));have N2:=zaa (show(l.filter (fun x=>ltN x ⟨rn,ra,rt,rc⟩)++[(⟨rn,ra,rt,rc⟩:Pr)]).length=n+1 by rw[List.length_append,za NL];rfl);have WRE:=zaa (show l.filter (fun x=>ltN x ⟨rn,ra,rt,rc⟩)++[(⟨rn,ra,rt,rc⟩:Pr)]++l.filter (fun x=>ltN ⟨rn,ra,rt,rc⟩ x)=wP ⟨rn,ra,rt,rc⟩ l from za WR _ _ rfl rfl);have LL:=zaa (show n≤j by have:=za NL;have:=za HN;omega);generalize l.filter (fun x=>ltN x ⟨rn,ra,rt,rc⟩)++[(⟨rn,ra,rt,rc⟩:Pr)]=L1 at *;clear OA XA bA k0 k1 OW NL PK BW BB E1;go_loopw [5,7] (fun v i wr=>∃ (k:Nat) (sp:Option Addr) (n2 c':Nat),k≤j∧v=.slice sp n2 c'∧i=.int .i64 (k:Int)∧Hid ((L1++(l.take k).filter (fun x=>ltN ⟨rn,ra,rt,rc⟩ x)).length=n2)∧Hid (za7 (w.heap.size+1) wr sp c' (L1++(l.take k).filter (fun x=>ltN ⟨rn,ra,rt,rc⟩ x)))∧Hid (Below (w.heap.size+1) V wr)) (fun _ i _=>j - (intOf i).toNat)
   case atStart=>exact⟨0,_,n+1,_,by omega,rfl,rfl,zaa (by simpa using za N2),zaa (by simpa using za O2),B2⟩
   case round =>
    obtain⟨k,sp3,n2,c3,hk,rfl,rfl,NL,OW,BB⟩:=hrel;have PK:=zaa (za XP _ (za BB));have HB:=zaa (show w.heap.size+1≤wr.heap.size by have:=(za BB).size;have:=za Z2;omega);by_cases hkj:k<j
    ·as_aux_lemma =>
     have y0:(0:Int)≤(k:Int):=by omega
     have y1:(k:Int)<(j:Int):=by omega
     have hjl:k<l.length:=by rw[za HM];exact hkj
     have FT:=zaa (zbj (fun x=>ltN ⟨rn,ra,rt,rc⟩ x) l k hjl);obtain⟨g,rfl,hg1,q0,q1⟩:=(za HL).cell k hjl;have p0:=cell_later (za FB _ (za BB)) q0;have p1:=cell_later (za FB _ (za BB)) q1;have HN:=zaa (za FD k);generalize hx:l[k]=x at *;clear hx;have KP:=zaa (show ∀ W:World,Below wr.heap.size wr W→W.cell? ⟨w.heap.size,0,none⟩=some (.string rn)∧W.cell? ⟨g,k*2,none⟩=some (.string x.nm)∧W.cell? ⟨g,k*2+1,none⟩=some (.slice x.ta x.tn x.tc) from fun W hb=>⟨cell_later hb (zab (za PK) 0 _ rfl),cell_later hb p0,cell_later hb p1⟩);clear q0 q1 p0 p1;generalize hd:ltN ⟨rn,ra,rt,rc⟩ x=d at *;have HD:=zaa hd;clear hd;cases d with
     |true =>
      rw[if_pos rfl] at FT;have tl:Op.bytesLess x.nm.toList rn.toList=false:=by rw[zh5];exact decide_eq_false (fun e=>Kord.irr _ (Kord.tr e (of_decide_eq_true (za HD))))
      have tm:(x.nm.toList==rn.toList)=false:=by rw[zb3];exact decide_eq_false (fun e=>Kord.irr rn (by have:=of_decide_eq_true (za HD);rw[e] at this;exact this))
      have BN:∀ k,Below wr.heap.size wr (wr.drewN k):=fun k=>⟨(Below.refl wr.heap.size wr).os,(Below.refl wr.heap.size wr).tape,(Below.refl wr.heap.size wr).output,(Below.refl wr.heap.size wr).size,(Below.refl wr.heap.size wr).block⟩
      obtain⟨p0,q0,q1⟩:=za KP _ (Below.refl _ _)
      go_wp2_with fail
      go_quiet (fail)
      generalize hVN:wr.drewN _=V1;have G:=zaa (show Below wr.heap.size wr V1 from hVN ▸ BN _);clear BN hVN;obtain⟨p0,q0,q1⟩:=za KP _ (za G);have OA:=zaa (show za7 (w.heap.size+1) (V1.alloc (.cells #[.string x.nm,.slice x.ta x.tn x.tc] 54)) sp3 c3 (L1++(l.take k).filter (fun x=>ltN ⟨rn,ra,rt,rc⟩ x)) from zae (za OW) ((za G).alloc (za G).size _));have XA:=zaa (zad V1 (.cells #[.string x.nm,.slice x.ta x.tn x.tc] 54));have GA:=zaa (show Below wr.heap.size wr (V1.alloc (.cells #[.string x.nm,.slice x.ta x.tn x.tc] 54)) from(za G).alloc (za G).size _)
      go_wp2_with (at_builtin;refine zca rfl (.tmp 48) (.tmp 53) rfl (w.heap.size+1) sp3 n2 c3 _ rfl (za NL) (za OA) _ x rfl (za XA) (by have:=za NL;have:=za HN;have:=za N2;have:=za LL;rw[List.length_append] at *;omega) (by have:=(za GA).size;have:=za HB;omega) ?_;intro sp2 c2 W2 ho hb2;have O2:=zaa ho;have BW:=zaa hb2;clear ho hb2)
      exact⟨⟨k+1,sp2,n2+1,c2,by omega,rfl,by go_num,zaa (by rw[za FT,← List.append_assoc,List.length_append,za NL];rfl),zaa (by rw[za FT,← List.append_assoc];exact za O2),zaa ((za BB).trans (((za GA).mono (za HB)).trans (za BW)))⟩,by simp[intOf];omega⟩
     |false =>
      rw[if_neg (by decide),List.append_nil] at FT;by_cases hlt:Kord.lt x.nm rn
      ·as_aux_lemma =>
       have tl:Op.bytesLess x.nm.toList rn.toList=true:=by rw[zh5];exact decide_eq_true hlt
       have BN:∀ k,Below wr.heap.size wr (wr.drewN k):=fun k=>⟨(Below.refl wr.heap.size wr).os,(Below.refl wr.heap.size wr).tape,(Below.refl wr.heap.size wr).output,(Below.refl wr.heap.size wr).size,(Below.refl wr.heap.size wr).block⟩
       obtain⟨p0,q0,q1⟩:=za KP _ (Below.refl _ _)
       go_wp2_with fail
       go_quiet (fail)
       generalize hVN:wr.drewN _=V1;have G:=zaa (show Below wr.heap.size wr V1 from hVN ▸ BN _);clear BN hVN;obtain⟨p0,q0,q1⟩:=za KP _ (za G)
       go_wp2
       exact⟨⟨k+1,sp3,n2,c3,by omega,rfl,by go_num,zaa (by rw[za FT];exact za NL),zaa (by rw[za FT];exact zae (za OW) (za G)),zaa ((za BB).trans ((za G).mono (za HB)))⟩,by simp[intOf];omega⟩
      ·as_aux_lemma =>
       have tl:Op.bytesLess x.nm.toList rn.toList=false:=by rw[zh5];exact decide_eq_false hlt
       have tm:(x.nm.toList==rn.toList)=true:=by rw[zb3];exact decide_eq_true (((Kord.tri x.nm rn).resolve_left hlt).resolve_right (of_decide_eq_false (za HD)))
       have BN:∀ k,Below wr.heap.size wr (wr.drewN k):=fun k=>⟨(Below.refl wr.heap.size wr).os,(Below.refl wr.heap.size wr).tape,(Below.refl wr.heap.size wr).output,(Below.refl wr.heap.size wr).size,(Below.refl wr.heap.size wr).block⟩
       obtain⟨p0,q0,q1⟩:=za KP _ (Below.refl _ _)
       go_wp2_with fail
       go_quiet (fail)
       generalize hVN:wr.drewN _=V1;have G:=zaa (show Below wr.heap.size wr V1 from hVN ▸ BN _);clear BN hVN;obtain⟨p0,q0,q1⟩:=za KP _ (za G)
       go_wp2
       exact⟨⟨k+1,sp3,n2,c3,by omega,rfl,by go_num,zaa (by rw[za FT];exact za NL),zaa (by rw[za FT];exact zae (za OW) (za G)),zaa ((za BB).trans ((za G).mono (za HB)))⟩,by simp[intOf];omega⟩
    ·as_aux_lemma =>
     have hjj:¬ (k:Int)<(j:Int):=by omega
     obtain rfl:k=j:=by omega
     have E2:=zaa (show(l.take k).filter (fun x=>ltN ⟨rn,ra,rt,rc⟩ x)=l.filter (fun x=>ltN ⟨rn,ra,rt,rc⟩ x) by rw[List.take_of_length_le (by rw[za HM];exact Nat.le_refl _)]);rw[za E2,za WRE] at NL OW
     go_wp2
     go_ret
     exact⟨sp3,c3,by first|(rw[za NL];done)|(rw[za NL];rfl),zbv (za OW) (by omega),za FB _ (za BB)⟩
theorem zia (n:Nat) (w:World) (hn:n≤1099511627776) :
  Calls Tryz.prog 129 #[.int .i64 (n:Int)] w fun e w'=>∃ sp n' c',e=.returned (.tuple #[.slice sp n' c',.int .i64 0])∧Hid ((zap n).length=n')∧OwnB w.heap.size w' sp c' (zap n)∧Below w.heap.size w w':=by
 have HLen:=zaa (show(zap n).length≤2199023255553 by have:=(zb1 n).2;omega);have o1:=zaa (OwnB.empty w w.heap.size (Nat.le_refl _));have b1:=zaa (show Below w.heap.size w (w.alloc (.cells #[] 5)) from(Below.refl _ _).alloc (Nat.le_refl _) _);go_enter Tryz.func129,Tryz.ntmps129
 go_wp2
 go_loopw [0,4] (fun i v wr=>∃ (sp':Option Addr) (n' c':Nat) (l':List Nat) (m:Nat),m≤1099511627776∧v=.slice sp' n' c'∧i=.int .i64 (m:Int)∧Hid (l'.length=n')∧Hid (OwnB w.heap.size wr sp' c' l')∧Hid (l'++zap m=zap n)∧Hid (Below w.heap.size w wr)) (fun i _ _=>(intOf i).toNat)
 case atStart=>exact⟨_,0,0,[],n,hn,rfl,rfl,rfl,za o1,by simp[Hid],za b1⟩
 case round =>
  obtain⟨sp',n',c',l',m,hm,rfl,rfl,hl',ho',heq,hbw⟩:=hrel
  have hlen':=zaa (show l'.length+1≤140737488355328 by
   have h1:=za HLen;rw[← za heq,List.length_append] at h1;have:=(zb1 m).1
   omega)
  have hbr:=zaa (show w.heap.size≤wr.heap.size from(za hbw).size);by_cases h128:m<128
  ·have hlit:=zaa (zbr (l:=[m]) (zad wr (.cells #[.int .u8 (m:Int)] 5)) (by intro c hc;simp only[List.mem_cons,List.not_mem_nil,or_false] at hc;omega));have bA:=zaa (show Below wr.heap.size wr (wr.alloc (.cells #[.int .u8 (m:Int)] 5)) from(Below.refl _ _).alloc (Nat.le_refl _) _);have heq':=zaa (show l'++[m]=zap n by rw[← za heq,zdi h128]);have hmod:(m:Int) % 128=(m:Int):=by omega
   have hdiv:(m:Int) / 128=0:=by omega
   go_wp2_with (at_builtin;refine ze2 rfl (.tmp 19) (.tmp 22) rfl w.heap.size sp' n' c' l' rfl (za hl') (by exact(za ho').later (za bA)) (some ⟨wr.heap.size,0,none⟩) 1 1 rfl [m] rfl (by exact za hlit) (fun h=>by cases h) (za hlen') (by exact Nat.le_trans (za hbr) (za bA).size) ?_;intro sp2 n2 c2 W2 hn2 ho2 hg2 hb2)
   rw[za heq'] at hn2 ho2
   go_ret2
   exact⟨sp2,n2,c2,rfl,hn2,ho2,((za hbw).trans ((za bA).mono (za hbr))).trans hb2⟩
  ·obtain⟨q,hq⟩:∃ q,q=m % 128+128:=⟨_,rfl⟩
   obtain⟨d,hd⟩:∃ d,d=m / 128:=⟨_,rfl⟩
   have hlit:=zaa (zbr (l:=[q]) (zad wr (.cells #[.int .u8 (q:Int)] 5)) (by intro c hc;simp only[List.mem_cons,List.not_mem_nil,or_false] at hc;omega));have bA:=zaa (show Below wr.heap.size wr (wr.alloc (.cells #[.int .u8 (q:Int)] 5)) from(Below.refl _ _).alloc (Nat.le_refl _) _);have heq':=zaa (show l'++[q]++zap d=zap n by rw[← za heq,zeo h128,hq,hd,List.append_assoc];rfl);have hmod:(m:Int) % 128+128=(q:Int):=by omega
   have hdiv:(m:Int) / 128=(d:Int):=by omega
   have hd0:¬ (d:Int)=0:=by omega
   have hq256:(q:Int)<256:=by omega
   have HD:=zaa hd;have HQ:=zaa hq;clear hd hq
   go_wp2_with (at_builtin;refine ze2 rfl (.tmp 24) (.tmp 28) rfl w.heap.size sp' n' c' l' rfl (za hl') (by exact(za ho').later (za bA)) (some ⟨wr.heap.size,0,none⟩) 1 1 rfl [q] rfl (by exact za hlit) (fun h=>by cases h) (za hlen') (by exact Nat.le_trans (za hbr) (za bA).size) ?_;intro sp2 n2 c2 W2 hn2 ho2 hg2 hb2)
   have hbn:=((za hbw).trans ((za bA).mono (za hbr))).trans hb2;exact⟨⟨sp2,n2,c2,l'++[q],d,by have:=za HD;omega,rfl,rfl,hn2,ho2,za heq',hbn⟩,by have:=za HD;simp[intOf];omega⟩
end
end Go.Proofs.YtjcjleaicjhpeaaGreatDoor
