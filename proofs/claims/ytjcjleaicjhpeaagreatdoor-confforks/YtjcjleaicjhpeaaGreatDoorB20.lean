/- Conf: the document's note. -/
import Derived.Test.YtjcjleaicjhpeaaGreatDoorB10
import Derived.Test.YtjcjleaicjhpeaaGreatDoorB19
import Derived.Test.YtjcjleaicjhpeaaGreatDoorB18
set_option linter.unusedVariables false
set_option maxRecDepth 20000
set_option maxHeartbeats 16000000
namespace Go.Proofs.YtjcjleaicjhpeaaGreatDoor
section
open Go.ChangeShapes Go.WideShapes Go.ChangeAt Go.RowKit
theorem zcy {w:World} {ops:Array Oper} {rest:List Oper} {o:Oper} {a:Act} {Q:Exit→Act→World→Prop} (hgd:o.guard=none) (s x:Operand)
  (ho:o.op=.call { callee:=.builtin .append,args:=#[s,x],argTypes:=#[117,117] }) (base:Nat) (sp:Option Addr) (n c:Nat) (l:List Ls) (hs:a.eval s=.slice sp n c) (hn:l.length=n) (hown:zf base w sp c l)
  (B:Nat) (y:Ls) (hx:a.eval x=.slice (some ⟨B,0,none⟩) 1 1) (hB:w.heap[B]? = some (.cells (zgc y).toArray 123 (0,0))) (hsz:n≤100000) (hbase:base≤w.heap.size)
  (h:∀ sp' c' w',zf base w' sp' c' (l++[y])→Below base w w'→wpList Tryz.prog ops Q rest (a.put o.dst (.slice sp' (n+1) c')) w') :
  wpList Tryz.prog ops Q (o::rest) a w:=by
 subst hn;refine zc8 hgd s x _ _ ho znb Tryz.underlying117 rfl (by omega) base sp l.length c (ze6 l) hs hown B (zgc y) hx hB rfl (zf0 y) (by omega) (by omega) hbase ?_;intro sp' c' w' h1 hg;refine h sp' c' w' ?_ (zf2 hown hg hbase);unfold zf;rw[List.length_append,show ze6 (l++[y])=ze6 l++zgc y from by simp[ze6]];exact h1
def ltL (a b:Ls):Bool:=decide (a.id<b.id)
def wL (z:Ls) (l:List Ls):List Ls:=l.filter (fun x=>ltL x z)++z::l.filter (fun x=>ltL z x)
theorem zcw {base:Nat} {w:World} {a:Option Addr} {c r:Nat} {l:List Ls} {V0 V1 V2:Value} (h:zf base w a c l) (z:Ls) (m:Nat) (hm:l.length=m) (hn:m≤1000) (hr:w.heap[r]? = some (.cells #[V0,V1,V2,.slice a m c] 119 (0,0))) :
  Calls Tryz.prog 71 #[.pointer (some ⟨r,0,none⟩),.agg #[.int .i64 z.id,.int .i64 z.seq,.int .i64 z.e,.int .i64 z.ver]] w fun e w'=>e=.returned (.tuple #[])∧∃ a' c',zf w.heap.size w' a' c' (wL z l)∧w'.heap[r]? = some (.cells #[V0,V1,V2,.slice a' (wL z l).length c'] 119 (0,0))∧w.grownBy w' (some r):=by
 have WR:=zaa (show ∀ l1 l2,l1=l.filter (fun x=>ltL x z)→l2=l.filter (fun x=>ltL z x)→l1++[z]++l2=wL z l from fun l1 l2 h1 h2=>by rw[h1,h2,List.append_assoc];rfl);have FL:=zaa (show ∀ j,((l.take j).filter (fun x=>ltL x z)).length≤j from fun j=>za4 _ l j);have FD:=zaa (show ∀ j,((l.take j).filter (fun x=>ltL z x)).length≤j from fun j=>za4 _ l j);have HL:=zaa h;have HM:=zaa hm;have RL:=zaa (Array.getElem?_eq_some_iff.1 hr).1;have b1:Below w.heap.size w (w.alloc (.cells #[.int .i64 z.id,.int .i64 z.seq,.int .i64 z.e,.int .i64 z.ver] 123)):=(Below.refl _ _).alloc (Nat.le_refl _) _;have b2:=zaa (b1.alloc b1.size (.cells #[] 123));have s1:(w.alloc (.cells #[.int .i64 z.id,.int .i64 z.seq,.int .i64 z.e,.int .i64 z.ver] 123)).heap.size=w.heap.size+1:=by simp
 have X1:=zaa (show((w.alloc (.cells #[.int .i64 z.id,.int .i64 z.seq,.int .i64 z.e,.int .i64 z.ver] 123)).alloc (.cells #[] 123)).heap[w.heap.size]? = some (.cells #[.int .i64 z.id,.int .i64 z.seq,.int .i64 z.e,.int .i64 z.ver] 123 (0,0)) by rw[Below.heap_alloc _ _ _ (by simp)];exact zad _ _);have X2:=zaa (show((w.alloc (.cells #[.int .i64 z.id,.int .i64 z.seq,.int .i64 z.e,.int .i64 z.ver] 123)).alloc (.cells #[] 123)).heap[w.heap.size+1]? = some (.cells #[] 123 (0,0)) by rw[← s1];exact zad _ _);have Z2:=zaa (show((w.alloc (.cells #[.int .i64 z.id,.int .i64 z.seq,.int .i64 z.e,.int .i64 z.ver] 123)).alloc (.cells #[] 123)).heap.size=w.heap.size+2 by simp);have HR:=zaa hr;clear b1 s1 h hm hr;go_enter Tryz.func71,Tryz.ntmps71
 go_wp2_with fail
 generalize ((w.alloc (.cells #[.int .i64 z.id,.int .i64 z.seq,.int .i64 z.e,.int .i64 z.ver] 123)).alloc (.cells #[] 123))=V at *;have Z0:=zaa (show zf (w.heap.size+1) V (some ⟨w.heap.size+1,0,none⟩) 0 [] from zfn 4 (za X2) (Nat.le_refl _));have FB:=zaa (show ∀ W:World,Below (w.heap.size+1) V W→Below w.heap.size w W from fun W hb=>(za b2).trans (hb.mono (by omega)));have XP:=zaa (show ∀ W:World,Below (w.heap.size+1) V W→W.heap[w.heap.size]? = some (.cells #[.int .i64 z.id,.int .i64 z.seq,.int .i64 z.e,.int .i64 z.ver] 123 (0,0)) from fun W hb=>(hb.block _ (by omega)).trans (za X1));have XR:=zaa (show ∀ W:World,Below (w.heap.size+1) V W→W.heap[r]? = some (.cells #[V0,V1,V2,.slice a m c] 119 (0,0)) from fun W hb=>((za FB W hb).block r (za RL)).trans (za HR));go_loopw [4,5] (fun v i wr=>∃ (j:Nat) (sp:Option Addr) (n c':Nat),j≤m∧v=.slice sp n c'∧i=.int .i64 (j:Int)∧Hid (((l.take j).filter (fun x=>ltL x z)).length=n)∧Hid (zf (w.heap.size+1) wr sp c' ((l.take j).filter (fun x=>ltL x z)))∧Hid (Below (w.heap.size+1) V wr)) (fun _ i _=>m - (intOf i).toNat)
 case atStart=>exact⟨0,_,0,0,by omega,rfl,rfl,zaa rfl,Z0,zaa (Below.refl _ _)⟩
 case round =>
  obtain⟨j,sp,n,c',hj,rfl,rfl,NL,OW,BB⟩:=hrel;have PK:=zaa (za XP _ (za BB));have HB:=zaa (show w.heap.size+1≤wr.heap.size by have:=(za BB).size;have:=za Z2;omega);have e3:=zab (za XR _ (za BB)) 3 (.slice a m c) rfl;by_cases hjm:j<m
  ·as_aux_lemma =>
   have y0:(0:Int)≤(j:Int):=by omega
   have y1:(j:Int)<(m:Int):=by omega
   have hjl:j<l.length:=by rw[za HM];exact hjm
   have FT:=zaa (zbj (fun x=>ltL x z) l j hjl);obtain⟨g,rfl,hg1,q0,q1,q2,q3⟩:=(za HL).cell j hjl;have HN:=zaa (za FL j);generalize l[j]=x at *;have KP:=zaa (show ∀ W:World,Below wr.heap.size wr W→W.cell? ⟨r,3,none⟩=some (.slice (some ⟨g,0,none⟩) m c)∧W.cell? ⟨w.heap.size,0,none⟩=some (.int .i64 z.id)∧W.cell? ⟨g,j*4,none⟩=some (.int .i64 x.id)∧W.cell? ⟨g,j*4+1,none⟩=some (.int .i64 x.seq)∧W.cell? ⟨g,j*4+2,none⟩=some (.int .i64 x.e)∧W.cell? ⟨g,j*4+3,none⟩=some (.int .i64 x.ver) from fun W hb=>⟨cell_later hb e3,cell_later hb (zab (za PK) 0 _ rfl),cell_later hb (cell_later (za FB _ (za BB)) q0),cell_later hb (cell_later (za FB _ (za BB)) q1),cell_later hb (cell_later (za FB _ (za BB)) q2),cell_later hb (cell_later (za FB _ (za BB)) q3)⟩);clear q0 q1 q2 q3 e3;obtain⟨e3,z0,p0,p1,p2,p3⟩:=za KP _ (Below.refl _ _);have BN:∀ k,Below wr.heap.size wr (wr.drewN k):=fun k=>⟨(Below.refl wr.heap.size wr).os,(Below.refl wr.heap.size wr).tape,(Below.refl wr.heap.size wr).output,(Below.refl wr.heap.size wr).size,(Below.refl wr.heap.size wr).block⟩
   by_cases hlt:x.id<z.id
   ·as_aux_lemma =>
    rw[show ltL x z=true from decide_eq_true hlt,if_pos rfl] at FT
    go_wp2_with fail
    go_quiet (fail)
    generalize hVN:wr.drewN _=V1;have G:=zaa (show Below wr.heap.size wr V1 from hVN ▸ BN _);clear BN hVN;obtain⟨e3,z0,p0,p1,p2,p3⟩:=za KP _ (za G);have OA:=zaa (show zf (w.heap.size+1) (V1.alloc (.cells #[.int .i64 x.id,.int .i64 x.seq,.int .i64 x.e,.int .i64 x.ver] 123)) sp c' ((l.take j).filter (fun x=>ltL x z)) from zae (za OW) ((za G).alloc (za G).size _));have XA:=zaa (zad V1 (.cells #[.int .i64 x.id,.int .i64 x.seq,.int .i64 x.e,.int .i64 x.ver] 123));have GA:=zaa (show Below wr.heap.size wr (V1.alloc (.cells #[.int .i64 x.id,.int .i64 x.seq,.int .i64 x.e,.int .i64 x.ver] 123)) from(za G).alloc (za G).size _)
    go_wp2_with (at_builtin;refine zcy rfl (.tmp 28) (.tmp 36) rfl (w.heap.size+1) sp n c' _ rfl (za NL) (za OA) _ x rfl (za XA) (by have:=za HN;have:=za NL;omega) (by have:=(za GA).size;have:=za HB;omega) ?_;intro sp4 c4 W4 ho hb2;have O4:=zaa ho;have BW:=zaa hb2;clear ho hb2)
    exact⟨⟨j+1,sp4,n+1,c4,by omega,rfl,by go_num,zaa (by rw[za FT,List.length_append,za NL];rfl),zaa (by rw[za FT];exact za O4),zaa ((za BB).trans (((za GA).mono (za HB)).trans (za BW)))⟩,by simp[intOf];omega⟩
   ·as_aux_lemma =>
    rw[show ltL x z=false from decide_eq_false hlt,if_neg (by decide),List.append_nil] at FT
    go_wp2_with fail
    go_quiet (fail)
    generalize hVN:wr.drewN _=V1;have G:=zaa (show Below wr.heap.size wr V1 from hVN ▸ BN _);clear BN hVN
    go_wp2
    exact⟨⟨j+1,sp,n,c',by omega,rfl,by go_num,zaa (by rw[za FT];exact za NL),zaa (by rw[za FT];exact zae (za OW) (za G)),zaa ((za BB).trans ((za G).mono (za HB)))⟩,by simp[intOf];omega⟩
  ·as_aux_lemma =>
   have hjj:¬ (j:Int)<(m:Int):=by omega
   obtain rfl:m=j:=by omega
   have E1:=zaa (show(l.take m).filter (fun x=>ltL x z)=l.filter (fun x=>ltL x z) by rw[List.take_of_length_le (by rw[za HM];exact Nat.le_refl _)]);have HN:=zaa (za FL m);rw[za E1] at NL OW HN;have k0:=zab (za PK) 0 (.int .i64 z.id) rfl;have k1:=zab (za PK) 1 (.int .i64 z.seq) rfl;have k2:=zab (za PK) 2 (.int .i64 z.e) rfl;have k3:=zab (za PK) 3 (.int .i64 z.ver) rfl;have bA:=zaa (show Below wr.heap.size wr (wr.alloc (.cells #[.int .i64 z.id,.int .i64 z.seq,.int .i64 z.e,.int .i64 z.ver] 123)) from(Below.refl _ _).alloc (Nat.le_refl _) _);have OA:=zaa (show zf (w.heap.size+1) (wr.alloc (.cells #[.int .i64 z.id,.int .i64 z.seq,.int .i64 z.e,.int .i64 z.ver] 123)) sp c' (l.filter (fun x=>ltL x z)) from zae (za OW) (za bA));have XA:=zaa (zad wr (.cells #[.int .i64 z.id,.int .i64 z.seq,.int .i64 z.e,.int .i64 z.ver] 123))
   go_wp2_with (at_builtin;refine zcy rfl (.tmp 38) (.tmp 40) rfl (w.heap.size+1) sp n c' _ rfl (za NL) (za OA) _ z rfl (za XA) (by have:=za NL;have:=za HN;omega) (by have:=(za bA).size;have:=za HB;omega) ?_;intro sp2 c2 W2 ho hb2;have O2:=zaa ho;have BW:=zaa hb2;clear ho hb2)
   have B2:=zaa ((za BB).trans (((za bA).mono (za HB)).trans (za BW)));have N2:=zaa (show(l.filter (fun x=>ltL x z)++[z]).length=n+1 by rw[List.length_append,za NL];rfl);have WRE:=zaa (show l.filter (fun x=>ltL x z)++[z]++l.filter (fun x=>ltL z x)=wL z l from za WR _ _ rfl rfl);have LL:=zaa (show n≤m by have:=za NL;have:=za HN;omega);generalize l.filter (fun x=>ltL x z)++[z]=L1 at *;clear OA XA bA k0 k1 k2 k3 OW NL PK BW BB E1 e3;go_loopw [4,6] (fun v i wr=>∃ (k:Nat) (sp:Option Addr) (n2 c':Nat),k≤m∧v=.slice sp n2 c'∧i=.int .i64 (k:Int)∧Hid ((L1++(l.take k).filter (fun x=>ltL z x)).length=n2)∧Hid (zf (w.heap.size+1) wr sp c' (L1++(l.take k).filter (fun x=>ltL z x)))∧Hid (Below (w.heap.size+1) V wr)) (fun _ i _=>m - (intOf i).toNat)
   case atStart=>exact⟨0,_,n+1,_,by omega,rfl,rfl,zaa (by simpa using za N2),zaa (by simpa using za O2),B2⟩
   case round =>
    obtain⟨k,sp3,n2,c3,hk,rfl,rfl,NL,OW,BB⟩:=hrel;have PK:=zaa (za XP _ (za BB));have HB:=zaa (show w.heap.size+1≤wr.heap.size by have:=(za BB).size;have:=za Z2;omega);have e3:=zab (za XR _ (za BB)) 3 (.slice a m c) rfl;by_cases hjm:k<m
    ·as_aux_lemma =>
     have y0:(0:Int)≤(k:Int):=by omega
     have y1:(k:Int)<(m:Int):=by omega
     have hjl:k<l.length:=by rw[za HM];exact hjm
     have FT:=zaa (zbj (fun x=>ltL z x) l k hjl);obtain⟨g,rfl,hg1,q0,q1,q2,q3⟩:=(za HL).cell k hjl;have HN:=zaa (za FD k);generalize l[k]=x at *;have KP:=zaa (show ∀ W:World,Below wr.heap.size wr W→W.cell? ⟨r,3,none⟩=some (.slice (some ⟨g,0,none⟩) m c)∧W.cell? ⟨w.heap.size,0,none⟩=some (.int .i64 z.id)∧W.cell? ⟨g,k*4,none⟩=some (.int .i64 x.id)∧W.cell? ⟨g,k*4+1,none⟩=some (.int .i64 x.seq)∧W.cell? ⟨g,k*4+2,none⟩=some (.int .i64 x.e)∧W.cell? ⟨g,k*4+3,none⟩=some (.int .i64 x.ver) from fun W hb=>⟨cell_later hb e3,cell_later hb (zab (za PK) 0 _ rfl),cell_later hb (cell_later (za FB _ (za BB)) q0),cell_later hb (cell_later (za FB _ (za BB)) q1),cell_later hb (cell_later (za FB _ (za BB)) q2),cell_later hb (cell_later (za FB _ (za BB)) q3)⟩);clear q0 q1 q2 q3 e3;obtain⟨e3,z0,p0,p1,p2,p3⟩:=za KP _ (Below.refl _ _);have BN:∀ k,Below wr.heap.size wr (wr.drewN k):=fun k=>⟨(Below.refl wr.heap.size wr).os,(Below.refl wr.heap.size wr).tape,(Below.refl wr.heap.size wr).output,(Below.refl wr.heap.size wr).size,(Below.refl wr.heap.size wr).block⟩
     by_cases hlt:z.id<x.id
     ·as_aux_lemma =>
      rw[show ltL z x=true from decide_eq_true hlt,if_pos rfl] at FT
      go_wp2_with fail
      go_quiet (fail)
      generalize hVN:wr.drewN _=V1;have G:=zaa (show Below wr.heap.size wr V1 from hVN ▸ BN _);clear BN hVN;obtain⟨e3,z0,p0,p1,p2,p3⟩:=za KP _ (za G);have OA:=zaa (show zf (w.heap.size+1) (V1.alloc (.cells #[.int .i64 x.id,.int .i64 x.seq,.int .i64 x.e,.int .i64 x.ver] 123)) sp3 c3 (L1++(l.take k).filter (fun x=>ltL z x)) from zae (za OW) ((za G).alloc (za G).size _));have XA:=zaa (zad V1 (.cells #[.int .i64 x.id,.int .i64 x.seq,.int .i64 x.e,.int .i64 x.ver] 123));have GA:=zaa (show Below wr.heap.size wr (V1.alloc (.cells #[.int .i64 x.id,.int .i64 x.seq,.int .i64 x.e,.int .i64 x.ver] 123)) from(za G).alloc (za G).size _)
      go_wp2_with (at_builtin;refine zcy rfl (.tmp 62) (.tmp 70) rfl (w.heap.size+1) sp3 n2 c3 _ rfl (za NL) (za OA) _ x rfl (za XA) (by have h1:=za NL;have h2:=za HN;have h3:=za N2;have h4:=za LL;rw[List.length_append] at h1;omega) (by have:=(za GA).size;have:=za HB;omega) ?_;intro sp4 c4 W4 ho hb2;have O4:=zaa ho;have BW:=zaa hb2;clear ho hb2)
      exact⟨⟨k+1,sp4,n2+1,c4,by omega,rfl,by go_num,zaa (by rw[za FT,← List.append_assoc,List.length_append,za NL];rfl),zaa (by rw[za FT,← List.append_assoc];exact za O4),zaa ((za BB).trans (((za GA).mono (za HB)).trans (za BW)))⟩,by simp[intOf];omega⟩
     ·as_aux_lemma =>
      rw[show ltL z x=false from decide_eq_false hlt,if_neg (by decide),List.append_nil] at FT
      go_wp2_with fail
      go_quiet (fail)
      generalize hVN:wr.drewN _=V1;have G:=zaa (show Below wr.heap.size wr V1 from hVN ▸ BN _);clear BN hVN
      go_wp2
      exact⟨⟨k+1,sp3,n2,c3,by omega,rfl,by go_num,zaa (by rw[za FT];exact za NL),zaa (by rw[za FT];exact zae (za OW) (za G)),zaa ((za BB).trans ((za G).mono (za HB)))⟩,by simp[intOf];omega⟩
    ·as_aux_lemma =>
     have hjj:¬ (k:Int)<(m:Int):=by omega
     obtain rfl:m=k:=by omega
     have E2:=zaa (show(l.take m).filter (fun x=>ltL z x)=l.filter (fun x=>ltL z x) by rw[List.take_of_length_le (by rw[za HM];exact Nat.le_refl _)]);rw[za E2,za WRE] at NL OW;have XR9:=zaa (za XR _ (za BB));have fo:wr.frozen? ⟨r,3,none⟩=false:=by simp[World.frozen?,za XR9]
     have G4:=zaa (zag wr r 3 (.slice sp3 n2 c3));have A4:=zaa (show(wr.setCell ⟨r,3,none⟩ (.slice sp3 n2 c3)).heap[r]? = some (.cells #[V0,V1,V2,.slice sp3 n2 c3] 119 (0,0)) from heap_setCell_same wr r 3 _ 119 (.slice sp3 n2 c3) (za XR9));have O9:=zaa (zak (za OW) (za G4) (za XR9) (by decide));have HG:=zaa (show w.grownBy (wr.setCell ⟨r,3,none⟩ (.slice sp3 n2 c3)) (some r) from zai (zaf (zaw w (some r)) (za FB _ (za BB))) (za G4))
     go_wp2
     generalize wr.setCell ⟨r,3,none⟩ (.slice sp3 n2 c3)=W9 at *
     go_end0
     exact⟨rfl,sp3,c3,zbv (za O9) (by omega),by rw[za NL];exact za A4,za HG⟩
def za5 (r:Int×Sm):(Int×Int)×Sm:=if r.1=0 then ((0,r.2.ver+1),{ r.2 with ver:=r.2.ver+1 }) else ((r.1,r.2.ver),r.2)
theorem zke (c:Cmd) (a':Option Addr) (tc':Nat) (x:Sm):(zbp c a' tc' x).2.ver=x.ver:=by
 unfold zbp zc zba zbm zbd
 repeat' split
 all_goals rfl
theorem zml (c:Cmd) (a':Option Addr) (tc':Nat) (x:Sm):0≤(zbp c a' tc' x).1∧(zbp c a' tc' x).1≤13:=by
 unfold zbp zc zba zbm zbd
 repeat' split
 all_goals simp
theorem StAt.aside {w w':World} {h:StH} {x:Sm} (s:StAt w h x) {r:Nat} {cs:Array Value} {T:TypeId} (hg:w.grownBy w' (some r)) (hr:w.heap[r]? = some (.cells cs T (0,0))) (hcs:∀ (k:Nat) (t:ByteArray),cs[k]?≠some (Value.string t)) (hS:h.S≠r):StAt w' h x:=by
 have nm:∀ (g:Nat) (es:Array MapEntry) (k:Nat),w.heap[g]? = some (Obj.map es k)→w'.heap[g]? = w.heap[g]?:=fun g es k hm=>hg.block g (Array.getElem?_eq_some_iff.1 hm).1 (fun e=>by
  have:=Option.some.inj e;subst this;rw[hr] at hm
  cases hm)
 obtain⟨e1,k1,m1⟩:=s.pm.isMap;obtain⟨e2,k2,m2⟩:=s.rm.isMap;obtain⟨e3,k3,m3⟩:=s.cm.isMap;refine⟨(hg.block h.S (Array.getElem?_eq_some_iff.1 s.hd).1 (fun e=>hS (Option.some.inj e))).trans s.hd,s.pm.same (nm _ _ _ m1),s.rm.same (nm _ _ _ m2),s.cm.same (nm _ _ _ m3),fun p hp=>⟨(s.tg p hp).lt,fun i hi=>?_⟩,s.ne⟩;obtain⟨b,off,e,h1,h2⟩:=(s.tg p hp).cell i hi;have hb:b<w.heap.size:=(s.noText h1).1;have hne:b≠r:=fun e=>by
  subst e;rw[cell_of_row _ _ _ _ _ _ hr] at h1;exact hcs _ _ h1
 have hk:=hg.block b hb (fun e=>hne (Option.some.inj e));exact⟨b,off,e,(World.cell?_of_block hk).trans h1,(World.cell?_of_block hk).trans h2⟩
theorem Chg.newer {h:StH} {w w1 w2:World} {r:Nat} (c:Chg h w w1) (hg:w1.grownBy w2 (some r)) (hr:w.heap.size≤r):Chg h w w2 :=
 ⟨hg.os.trans c.os,hg.tape.trans c.tape,hg.output.trans c.output,Nat.le_trans c.size hg.size,fun g hl h1 h2 h3 h4=>(hg.block g (Nat.lt_of_lt_of_le hl c.size) (fun e=>by have:=Option.some.inj e;omega)).trans (c.block g hl h1 h2 h3 h4)⟩
theorem za1 (a b:Int):∀ (k:Nat) (t:ByteArray),(#[Value.int .i64 a,Value.int .i64 b]:Array Value)[k]?≠some (.string t):=by
 intro k t e
 match k with
 |0=>simp at e
 |1=>simp at e
 |_+2=>simp at e
theorem zk3 {w:World} {h:StH} {x:Sm} (s:StAt w h x) (hx:SmOk x) (hv:x.ver+1≤9223372036854775807) (c:Cmd) (a:Option Addr) (tc:Nat) (hc:CmdAt w c a tc) (hs:SmallCmd c) :
  Calls Tryz.prog 40 #[.pointer (some ⟨h.S,0,none⟩),zas c a tc] w fun e w'=>∃ a' tc',e=.returned (.agg #[.int .i64 (za5 (zbp c a' tc' x)).1.1,.int .i64 (za5 (zbp c a' tc' x)).1.2])∧StAt w' h (za5 (zbp c a' tc' x)).2∧Chg h w w':=by
 have b1:Below w.heap.size w (w.alloc (.cells (zal c a tc) 33)):=(Below.refl _ _).alloc (Nat.le_refl _) _;have b2:=b1.alloc b1.size (.cells #[.int .i64 0,.int .i64 0] 38);have s1:(w.alloc (.cells (zal c a tc) 33)).heap.size=w.heap.size+1:=by simp
 have X1:=zaa (show((w.alloc (.cells (zal c a tc) 33)).alloc (.cells #[.int .i64 0,.int .i64 0] 38)).heap[w.heap.size]? = some (.cells (zal c a tc) 33 (0,0)) by rw[Below.heap_alloc _ _ _ (by simp)];exact zad _ _);have X2:=zaa (show((w.alloc (.cells (zal c a tc) 33)).alloc (.cells #[.int .i64 0,.int .i64 0] 38)).heap[w.heap.size+1]? = some (.cells #[.int .i64 0,.int .i64 0] 38 (0,0)) by rw[← s1];exact zad _ _);have Z2:=zaa (show((w.alloc (.cells (zal c a tc) 33)).alloc (.cells #[.int .i64 0,.int .i64 0] 38)).heap.size=w.heap.size+2 by simp);have B2:=zaa b2;have LT:=zaa s.lts;have AC:=zaa (zlp (s.later b2) hx c a tc (hc.later b2) hs);have AV:=zaa (fun a' tc'=>zke c a' tc' x);have AE:=zaa (fun a' tc'=>zml c a' tc' x);have hv2:=hx.ver.1;clear b1 b2 s1;unfold zal at *;unfold zas at *;generalize zbp c=AA at *;obtain⟨act,cli,seq,exp,host,pre,pool,ts⟩:=c;simp only at *;have k0:=zab (za X1) 0 _ rfl;have k1:=zab (za X1) 1 _ rfl;have k2:=zab (za X1) 2 _ rfl;have k3:=zab (za X1) 3 _ rfl;have k4:=zab (za X1) 4 _ rfl;have k5:=zab (za X1) 5 _ rfl;have k6:=zab (za X1) 6 _ rfl;have k7:=zab (za X1) 7 _ rfl;go_enter Tryz.func40,Tryz.ntmps40
 go_wp2_with fail
 generalize ((w.alloc (.cells #[.int .i64 act,.int .i64 cli,.int .i64 seq,.int .i64 exp,.string host,.string pre,.string pool,.slice a ts.length tc] 33)).alloc (.cells #[.int .i64 0,.int .i64 0] 38))=V at *;clear k0 k1 k2 k3 k4 k5 k6 k7;refine(za AC).mono ?_;rintro e U ⟨a',tc',rfl,sd,cd⟩;obtain⟨t1,t2,t3,t4⟩:=za LT;have hR:=zaa (show U.heap[w.heap.size+1]? = some (.cells #[.int .i64 0,.int .i64 0] 38 (0,0)) from(cd.block (w.heap.size+1) (by have:=za Z2;omega) (by omega) (by omega) (by omega) (by omega)).trans (za X2));have CD:=zaa ((Chg.below (h:=h) (za B2)).trans cd);have sv:=za AV a' tc';have se:=za AE a' tc';generalize hr:AA a' tc' x=r at *;obtain⟨er,y⟩:=r;simp only at sd sv se ⊢;have SD:=zaa sd;have c0:=sd.cell.1;rw[sv] at c0;have SV:=zaa sv;have HR:=zaa hr;have L1:=zaa (show h.S≠w.heap.size+1 by omega);have z0:=zab (za hR) 0 _ rfl;have z1:=zab (za hR) 1 _ rfl;have f0:U.frozen? ⟨w.heap.size+1,0,none⟩=false:=by simp[World.frozen?,za hR]
 have f1:U.frozen? ⟨w.heap.size+1,1,none⟩=false:=by simp[World.frozen?,za hR]
 clear sd cd sv hr t1 t2 t3 t4 AC;by_cases he:er=0
 ·as_aux_lemma =>
  subst he;have hd:za5 (0,y)=((0,x.ver+1),{ y with ver:=x.ver+1 }):=by unfold za5;simp only[if_pos,za SV]
  have HD:=zaa hd;have sV:=(za SD).withV (x.ver+1);have SW:=zaa sV.1;have CW:=zaa ((za CD).trans sV.2);have hs0:=(za SD).hd;have fS:U.frozen? ⟨h.S,0,none⟩=false:=by simp[World.frozen?,hs0]
  have hR2:=zaa (show(U.setCell ⟨h.S,0,none⟩ (.int .i64 (x.ver+1))).heap[w.heap.size+1]? = some (.cells #[.int .i64 0,.int .i64 0] 38 (0,0)) from(heap_setCell_other U ⟨h.S,0,none⟩ (w.heap.size+1) _ (fun e=>za L1 e.symm)).trans (za hR));have y0:=sV.1.cell.1;have y1:=zab (za hR2) 0 _ rfl;have y2:=zab (za hR2) 1 _ rfl;have g0:(U.setCell ⟨h.S,0,none⟩ (.int .i64 (x.ver+1))).frozen? ⟨w.heap.size+1,0,none⟩=false:=by simp[World.frozen?,za hR2]
  have g1:(U.setCell ⟨h.S,0,none⟩ (.int .i64 (x.ver+1))).frozen? ⟨w.heap.size+1,1,none⟩=false:=by simp[World.frozen?,za hR2]
  obtain⟨a1,a2⟩:=zm4 (x:=.int .i64 0) (y:=.int .i64 (x.ver+1)) (za hR2);have A1:=zaa a1;have FS:=zaa ((za SW).aside a2 (za hR2) (za1 _ _) (za L1));have FC:=zaa ((za CW).newer a2 (by omega));clear a1 a2 sV hs0 hd z0 z1 f0 f1
  go_wp2
  generalize (((U.setCell ⟨h.S,0,none⟩ (.int .i64 (x.ver+1))).setCell ⟨w.heap.size+1,0,none⟩ (.int .i64 0)).setCell ⟨w.heap.size+1,1,none⟩ (.int .i64 (x.ver+1)))=W9 at *;clear y0 y1 y2 g0 g1 fS c0;have o0:W9.cell? ⟨w.heap.size+1,0,none⟩=some (.int .i64 0):=zab (za A1) 0 _ rfl;have o1:W9.cell? ⟨w.heap.size+1,1,none⟩=some (.int .i64 (x.ver+1)):=zab (za A1) 1 _ rfl;exact bodyPost_ret (v:=.agg #[.int .i64 0,.int .i64 (x.ver+1)]) (by simp[results,Tryz.results40,go_sem,o0,o1]) rfl ⟨a',tc',by rw[za HR,za HD],by rw[za HR,za HD];exact za FS,za FC⟩
 ·as_aux_lemma =>
  have hd:za5 (er,y)=((er,x.ver),y):=by unfold za5;simp only[if_neg he,za SV]
  have HD:=zaa hd;obtain⟨a1,a2⟩:=zm4 (x:=.int .i64 er) (y:=.int .i64 x.ver) (za hR);have A1:=zaa a1;have FS:=zaa ((za SD).aside a2 (za hR) (za1 _ _) (za L1));have FC:=zaa ((za CD).newer a2 (by omega));clear a1 a2 hd
  go_wp2
  generalize ((U.setCell ⟨w.heap.size+1,0,none⟩ (.int .i64 er)).setCell ⟨w.heap.size+1,1,none⟩ (.int .i64 x.ver))=W9 at *;clear z0 z1 f0 f1 c0;have o0:W9.cell? ⟨w.heap.size+1,0,none⟩=some (.int .i64 er):=zab (za A1) 0 _ rfl;have o1:W9.cell? ⟨w.heap.size+1,1,none⟩=some (.int .i64 x.ver):=zab (za A1) 1 _ rfl;exact bodyPost_ret (v:=.agg #[.int .i64 er,.int .i64 x.ver]) (by simp[results,Tryz.results40,go_sem,o0,o1]) rfl ⟨a',tc',by rw[za HR,za HD],by rw[za HR,za HD];exact za FS,za FC⟩
def xC3:Cmd:=⟨2,0,0,-1,⟨#[]⟩,⟨#[]⟩,⟨#[97]⟩,[]⟩
def xS1 (a:Option Addr) (t:Nat):Sm:=⟨1,[⟨⟨⟨#[97]⟩,[(⟨#[116]⟩,4607182418800017408)]⟩,a,t⟩],[],[]⟩
def xS2 (a:Option Addr) (t:Nat):Sm:=⟨2,[⟨⟨⟨#[97]⟩,[(⟨#[116]⟩,4607182418800017408)]⟩,a,t⟩],[⟨⟨#[120,46,121]⟩,⟨#[47]⟩,⟨#[97]⟩⟩],[]⟩
def zeu (nm:ByteArray):Cmd:=⟨1,0,0,-1,⟨#[]⟩,⟨#[]⟩,nm,[(⟨#[116]⟩,4607182418800017408)]⟩
def zed (h p l:ByteArray):Cmd:=⟨3,0,0,-1,h,p,l,[]⟩
theorem zjt (w:World) (nm:ByteArray):Calls Tryz.prog 20 #[.string nm] w fun e w'=>∃ B,e=.returned (zas (zeu nm) (some ⟨B,0,none⟩) 1)∧TgsAt w' (some ⟨B,0,none⟩) (zeu nm).ts∧Below w.heap.size w w':=by
 have b1:Below w.heap.size w (w.alloc (.cells #[.int .i64 1,.int .i64 0,.int .i64 0,.int .i64 (-1),.string ⟨#[]⟩,.string ⟨#[]⟩,.string nm,.slice (some ⟨w.heap.size+1,0,none⟩) 1 1] 33)):=(Below.refl _ _).alloc (Nat.le_refl _) _;have b2:=zaa (b1.alloc b1.size (.cells #[.string ⟨#[116]⟩,.float .f64 4607182418800017408] 70));have s1:(w.alloc (.cells #[.int .i64 1,.int .i64 0,.int .i64 0,.int .i64 (-1),.string ⟨#[]⟩,.string ⟨#[]⟩,.string nm,.slice (some ⟨w.heap.size+1,0,none⟩) 1 1] 33)).heap.size=w.heap.size+1:=by simp
 have X1:((w.alloc (.cells #[.int .i64 1,.int .i64 0,.int .i64 0,.int .i64 (-1),.string ⟨#[]⟩,.string ⟨#[]⟩,.string nm,.slice (some ⟨w.heap.size+1,0,none⟩) 1 1] 33)).alloc (.cells #[.string ⟨#[116]⟩,.float .f64 4607182418800017408] 70)).heap[w.heap.size]? = some (.cells #[.int .i64 1,.int .i64 0,.int .i64 0,.int .i64 (-1),.string ⟨#[]⟩,.string ⟨#[]⟩,.string nm,.slice (some ⟨w.heap.size+1,0,none⟩) 1 1] 33 (0,0)):=by rw[Below.heap_alloc _ _ _ (by simp)];exact zad _ _
 have X2:((w.alloc (.cells #[.int .i64 1,.int .i64 0,.int .i64 0,.int .i64 (-1),.string ⟨#[]⟩,.string ⟨#[]⟩,.string nm,.slice (some ⟨w.heap.size+1,0,none⟩) 1 1] 33)).alloc (.cells #[.string ⟨#[116]⟩,.float .f64 4607182418800017408] 70)).heap[w.heap.size+1]? = some (.cells #[.string ⟨#[116]⟩,.float .f64 4607182418800017408] 70 (0,0)):=by
  have h:=zad (w.alloc (.cells #[.int .i64 1,.int .i64 0,.int .i64 0,.int .i64 (-1),.string ⟨#[]⟩,.string ⟨#[]⟩,.string nm,.slice (some ⟨w.heap.size+1,0,none⟩) 1 1] 33)) (.cells #[.string ⟨#[116]⟩,.float .f64 4607182418800017408] 70);rw[s1] at h;exact h
 have g0:=zab X1 0 _ rfl;have g1:=zab X1 1 _ rfl;have g2:=zab X1 2 _ rfl;have g3:=zab X1 3 _ rfl;have g4:=zab X1 4 _ rfl;have g5:=zab X1 5 _ rfl;have g6:=zab X1 6 _ rfl;have g7:=zab X1 7 _ rfl;have t0:=zab X2 0 _ rfl;have t1:=zab X2 1 _ rfl
 have TG:=zaa (show TgsAt ((w.alloc (.cells #[.int .i64 1,.int .i64 0,.int .i64 0,.int .i64 (-1),.string ⟨#[]⟩,.string ⟨#[]⟩,.string nm,.slice (some ⟨w.heap.size+1,0,none⟩) 1 1] 33)).alloc (.cells #[.string ⟨#[116]⟩,.float .f64 4607182418800017408] 70)) (some ⟨w.heap.size+1,0,none⟩) (zeu nm).ts from⟨by simp[zeu],fun i hi=>by
  obtain rfl:i=0:=by simp[zeu] at hi;omega
  exact⟨w.heap.size+1,0,rfl,t0,t1⟩⟩)
 clear b1 s1 X1 X2 t0 t1;go_enter Tryz.func20,Tryz.ntmps20
 go_wp2
 exact bodyPost_ret (v:=.agg #[.int .i64 1,.int .i64 0,.int .i64 0,.int .i64 (-1),.string ⟨#[]⟩,.string ⟨#[]⟩,.string nm,.slice (some ⟨w.heap.size+1,0,none⟩) 1 1]) (by simp[results,Tryz.results20,go_sem,g0,g1,g2,g3,g4,g5,g6,g7]) rfl ⟨w.heap.size+1,rfl,za TG,za b2⟩
theorem ziz (w:World) (h p l:ByteArray):Calls Tryz.prog 23 #[.string h,.string p,.string l] w fun e w'=>e=.returned (zas (zed h p l) none 0)∧Below w.heap.size w w':=by
 have b1:=zaa (show Below w.heap.size w (w.alloc (.cells #[.int .i64 3,.int .i64 0,.int .i64 0,.int .i64 (-1),.string h,.string p,.string l,.slice none 0 0] 33)) from(Below.refl _ _).alloc (Nat.le_refl _) _);have X1:=zad w (.cells #[.int .i64 3,.int .i64 0,.int .i64 0,.int .i64 (-1),.string h,.string p,.string l,.slice none 0 0] 33);have g0:=zab X1 0 _ rfl;have g1:=zab X1 1 _ rfl;have g2:=zab X1 2 _ rfl;have g3:=zab X1 3 _ rfl;have g4:=zab X1 4 _ rfl;have g5:=zab X1 5 _ rfl;have g6:=zab X1 6 _ rfl;have g7:=zab X1 7 _ rfl;clear X1;go_enter Tryz.func23,Tryz.ntmps23
 go_wp2
 exact bodyPost_ret (v:=.agg #[.int .i64 3,.int .i64 0,.int .i64 0,.int .i64 (-1),.string h,.string p,.string l,.slice none 0 0]) (by simp[results,Tryz.results23,go_sem,g0,g1,g2,g3,g4,g5,g6,g7]) rfl ⟨rfl,za b1⟩
end
end Go.Proofs.YtjcjleaicjhpeaaGreatDoor
