/- Conf: the document's withPool. -/
import Derived.Test.YtjcjleaicjhpeaaGreatDoorB07
import Derived.Test.YtjcjleaicjhpeaaGreatDoorB02
import Derived.Test.YtjcjleaicjhpeaaGreatDoorB09
set_option linter.unusedVariables false
set_option maxRecDepth 20000
set_option maxHeartbeats 16000000
namespace Go.Proofs.YtjcjleaicjhpeaaGreatDoor
section
open Go.ChangeShapes Go.WideShapes Go.ChangeAt Go.RowKit
def ltN (a b:Pr):Bool:=decide (Kord.lt a.nm b.nm)
def wP (r:Pr) (l:List Pr):List Pr:=l.filter (fun x=>ltN x r)++r::l.filter (fun x=>ltN r x)
theorem zfw {base:Nat} {w:World} {a:Option Addr} {c:Nat} {l:List Pr} (h:za8 base w a c l) (r:Pr) (m:Nat) (hm:l.length=m) (hn:m≤1000) :
  Calls Tryz.prog 127 #[.slice a m c,.agg #[.string r.nm,.slice r.ta r.tn r.tc]] w fun e w'=>∃ a' c',e=.returned (.slice a' (wP r l).length c')∧za8 w.heap.size w' a' c' (wP r l)∧Below w.heap.size w w':=by
 have WR:=zaa (show ∀ l1 l2,l1=l.filter (fun x=>ltN x r)→l2=l.filter (fun x=>ltN r x)→l1++[r]++l2=wP r l from fun l1 l2 h1 h2=>by rw[h1,h2,List.append_assoc];rfl);have FL:=zaa (show ∀ j,((l.take j).filter (fun x=>ltN x r)).length≤j from fun j=>za6 _ l j);have FD:=zaa (show ∀ j,((l.take j).filter (fun x=>ltN r x)).length≤j from fun j=>za6 _ l j);have HL:=zaa h;have HM:=zaa hm;obtain⟨rn,ra,rt,rc⟩:=r;dsimp only at *;have b1:Below w.heap.size w (w.alloc (.cells #[.string rn,.slice ra rt rc] 54)):=(Below.refl _ _).alloc (Nat.le_refl _) _;have b2:=zaa (b1.alloc b1.size (.cells #[] 54));have s1:(w.alloc (.cells #[.string rn,.slice ra rt rc] 54)).heap.size=w.heap.size+1:=by simp
 have X1:=zaa (show((w.alloc (.cells #[.string rn,.slice ra rt rc] 54)).alloc (.cells #[] 54)).heap[w.heap.size]? = some (.cells #[.string rn,.slice ra rt rc] 54 (0,0)) by rw[Below.heap_alloc _ _ _ (by simp)];exact zac _ _);have X2:=zaa (show((w.alloc (.cells #[.string rn,.slice ra rt rc] 54)).alloc (.cells #[] 54)).heap[w.heap.size+1]? = some (.cells #[] 54 (0,0)) by rw[← s1];exact zac _ _);have Z2:=zaa (show((w.alloc (.cells #[.string rn,.slice ra rt rc] 54)).alloc (.cells #[] 54)).heap.size=w.heap.size+2 by simp);clear b1 s1 h hm;go_enter Tryz.func127,Tryz.ntmps127
 go_wp2_with fail
 generalize ((w.alloc (.cells #[.string rn,.slice ra rt rc] 54)).alloc (.cells #[] 54))=V at *;have Z0:=zaa (show za8 (w.heap.size+1) V (some ⟨w.heap.size+1,0,none⟩) 0 [] from zgg 2 (za X2) (Nat.le_refl _));have FB:=zaa (show ∀ W:World,Below (w.heap.size+1) V W→Below w.heap.size w W from fun W hb=>(za b2).trans (hb.mono (by omega)));have XP:=zaa (show ∀ W:World,Below (w.heap.size+1) V W→W.heap[w.heap.size]? = some (.cells #[.string rn,.slice ra rt rc] 54 (0,0)) from fun W hb=>(hb.block _ (by omega)).trans (za X1));go_loopw [5,6] (fun v i wr=>∃ (j:Nat) (sp:Option Addr) (n c':Nat),j≤m∧v=.slice sp n c'∧i=.int .i64 (j:Int)∧Hid (((l.take j).filter (fun x=>ltN x ⟨rn,ra,rt,rc⟩)).length=n)∧Hid (za8 (w.heap.size+1) wr sp c' ((l.take j).filter (fun x=>ltN x ⟨rn,ra,rt,rc⟩)))∧Hid (Below (w.heap.size+1) V wr)) (fun _ i _=>m - (intOf i).toNat)
 case atStart=>exact⟨0,_,0,0,by omega,rfl,rfl,zaa rfl,Z0,zaa (Below.refl _ _)⟩
 case round =>
  obtain⟨j,sp,n,c',hj,rfl,rfl,NL,OW,BB⟩:=hrel;have PK:=zaa (za XP _ (za BB));have HB:=zaa (show w.heap.size+1≤wr.heap.size by have:=(za BB).size;have:=za Z2;omega);by_cases hjm:j<m
  ·as_aux_lemma =>
   have y0:(0:Int)≤(j:Int):=by omega
   have y1:(j:Int)<(m:Int):=by omega
   have hjl:j<l.length:=by rw[za HM];exact hjm
   have FT:=zaa (zbr (fun x=>ltN x ⟨rn,ra,rt,rc⟩) l j hjl);obtain⟨g,rfl,hg1,q0,q1⟩:=(za HL).cell j hjl;have p0:=cell_later (za FB _ (za BB)) q0;have p1:=cell_later (za FB _ (za BB)) q1;have HN:=zaa (za FL j);generalize hx:l[j]=x at *;clear hx;have KP:=zaa (show ∀ W:World,Below wr.heap.size wr W→W.cell? ⟨w.heap.size,0,none⟩=some (.string rn)∧W.cell? ⟨g,j*2,none⟩=some (.string x.nm)∧W.cell? ⟨g,j*2+1,none⟩=some (.slice x.ta x.tn x.tc) from fun W hb=>⟨cell_later hb (zab (za PK) 0 _ rfl),cell_later hb p0,cell_later hb p1⟩);clear q0 q1 p0 p1;generalize hd:ltN x ⟨rn,ra,rt,rc⟩=d at *;have HD:=zaa hd;clear hd;cases d with
   |true =>
    rw[if_pos rfl] at FT;have tl:Op.bytesLess x.nm.toList rn.toList=true:=by rw[zj2];exact za HD
    have BN:∀ k,Below wr.heap.size wr (wr.drewN k):=fun k=>⟨(Below.refl wr.heap.size wr).os,(Below.refl wr.heap.size wr).tape,(Below.refl wr.heap.size wr).output,(Below.refl wr.heap.size wr).size,(Below.refl wr.heap.size wr).block⟩
    obtain⟨p0,q0,q1⟩:=za KP _ (Below.refl _ _)
    go_wp2_with fail
    go_quiet (fail)
    generalize hVN:wr.drewN _=V1;have G:=zaa (show Below wr.heap.size wr V1 from hVN ▸ BN _);clear BN hVN;obtain⟨p0,q0,q1⟩:=za KP _ (za G);have OA:=zaa (show za8 (w.heap.size+1) (V1.alloc (.cells #[.string x.nm,.slice x.ta x.tn x.tc] 54)) sp c' ((l.take j).filter (fun x=>ltN x ⟨rn,ra,rt,rc⟩)) from zae (za OW) ((za G).alloc (za G).size _));have XA:=zaa (zac V1 (.cells #[.string x.nm,.slice x.ta x.tn x.tc] 54));have GA:=zaa (show Below wr.heap.size wr (V1.alloc (.cells #[.string x.nm,.slice x.ta x.tn x.tc] 54)) from(za G).alloc (za G).size _)
    go_wp2_with (at_builtin;refine zcf rfl (.tmp 23) (.tmp 28) rfl (w.heap.size+1) sp n c' _ rfl (za NL) (za OA) _ x rfl (za XA) (by have:=za NL;have:=za HN;omega) (by have:=(za GA).size;have:=za HB;omega) ?_;intro sp2 c2 W2 ho hb2;have O2:=zaa ho;have BW:=zaa hb2;clear ho hb2)
    exact⟨⟨j+1,sp2,n+1,c2,by omega,rfl,by go_num,zaa (by rw[za FT,List.length_append,za NL];rfl),zaa (by rw[za FT];exact za O2),zaa ((za BB).trans (((za GA).mono (za HB)).trans (za BW)))⟩,by simp[intOf];omega⟩
   |false =>
    rw[if_neg (by decide),List.append_nil] at FT;have tl:Op.bytesLess x.nm.toList rn.toList=false:=by rw[zj2];exact za HD
    have BN:∀ k,Below wr.heap.size wr (wr.drewN k):=fun k=>⟨(Below.refl wr.heap.size wr).os,(Below.refl wr.heap.size wr).tape,(Below.refl wr.heap.size wr).output,(Below.refl wr.heap.size wr).size,(Below.refl wr.heap.size wr).block⟩
    obtain⟨p0,q0,q1⟩:=za KP _ (Below.refl _ _)
    go_wp2_with fail
    go_quiet (fail)
    generalize hVN:wr.drewN _=V1;have G:=zaa (show Below wr.heap.size wr V1 from hVN ▸ BN _);clear BN hVN;obtain⟨p0,q0,q1⟩:=za KP _ (za G)
    go_wp2
    exact⟨⟨j+1,sp,n,c',by omega,rfl,by go_num,zaa (by rw[za FT];exact za NL),zaa (by rw[za FT];exact zae (za OW) (za G)),zaa ((za BB).trans ((za G).mono (za HB)))⟩,by simp[intOf];omega⟩
  ·as_aux_lemma =>
   have hjj:¬ (j:Int)<(m:Int):=by omega
   obtain rfl:j=m:=by omega
   have E1:=zaa (show(l.take j).filter (fun x=>ltN x ⟨rn,ra,rt,rc⟩)=l.filter (fun x=>ltN x ⟨rn,ra,rt,rc⟩) by rw[List.take_of_length_le (by rw[za HM];exact Nat.le_refl _)]);have HN:=zaa (za FL j);rw[za E1] at NL OW HN;have k0:=zab (za PK) 0 _ rfl;have k1:=zab (za PK) 1 _ rfl;have bA:=zaa (show Below wr.heap.size wr (wr.alloc (.cells #[.string rn,.slice ra rt rc] 54)) from(Below.refl _ _).alloc (Nat.le_refl _) _);have OA:=zaa (show za8 (w.heap.size+1) (wr.alloc (.cells #[.string rn,.slice ra rt rc] 54)) sp c' (l.filter (fun x=>ltN x ⟨rn,ra,rt,rc⟩)) from zae (za OW) (za bA));have XA:=zaa (zac wr (.cells #[.string rn,.slice ra rt rc] 54))
   go_wp2_with (at_builtin;refine zcf rfl (.tmp 30) (.tmp 32) rfl (w.heap.size+1) sp n c' _ rfl (za NL) (za OA) _ ⟨rn,ra,rt,rc⟩ rfl (za XA) (by have:=za NL;have:=za HN;omega) (by have:=(za bA).size;have:=za HB;omega) ?_;intro sp2 c2 W2 ho hb2;have O2:=zaa ho;have BW:=zaa hb2;clear ho hb2)
   have B2:=zaa ((za BB).trans (((za bA).mono (za HB)).trans (za BW)));have N2:=zaa (show(l.filter (fun x=>ltN x ⟨rn,ra,rt,rc⟩)++[(⟨rn,ra,rt,rc⟩:Pr)]).length=n+1 by rw[List.length_append,za NL];rfl);have WRE:=zaa (show l.filter (fun x=>ltN x ⟨rn,ra,rt,rc⟩)++[(⟨rn,ra,rt,rc⟩:Pr)]++l.filter (fun x=>ltN ⟨rn,ra,rt,rc⟩ x)=wP ⟨rn,ra,rt,rc⟩ l from za WR _ _ rfl rfl);have LL:=zaa (show n≤j by have:=za NL;have:=za HN;omega);generalize l.filter (fun x=>ltN x ⟨rn,ra,rt,rc⟩)++[(⟨rn,ra,rt,rc⟩:Pr)]=L1 at *;clear OA XA bA k0 k1 OW NL PK BW BB E1;go_loopw [5,7] (fun v i wr=>∃ (k:Nat) (sp:Option Addr) (n2 c':Nat),k≤j∧v=.slice sp n2 c'∧i=.int .i64 (k:Int)∧Hid ((L1++(l.take k).filter (fun x=>ltN ⟨rn,ra,rt,rc⟩ x)).length=n2)∧Hid (za8 (w.heap.size+1) wr sp c' (L1++(l.take k).filter (fun x=>ltN ⟨rn,ra,rt,rc⟩ x)))∧Hid (Below (w.heap.size+1) V wr)) (fun _ i _=>j - (intOf i).toNat)
   case atStart=>exact⟨0,_,n+1,_,by omega,rfl,rfl,zaa (by simpa using za N2),zaa (by simpa using za O2),B2⟩
   case round =>
    obtain⟨k,sp3,n2,c3,hk,rfl,rfl,NL,OW,BB⟩:=hrel;have PK:=zaa (za XP _ (za BB));have HB:=zaa (show w.heap.size+1≤wr.heap.size by have:=(za BB).size;have:=za Z2;omega);by_cases hkj:k<j
    ·as_aux_lemma =>
     have y0:(0:Int)≤(k:Int):=by omega
     have y1:(k:Int)<(j:Int):=by omega
     have hjl:k<l.length:=by rw[za HM];exact hkj
     have FT:=zaa (zbr (fun x=>ltN ⟨rn,ra,rt,rc⟩ x) l k hjl);obtain⟨g,rfl,hg1,q0,q1⟩:=(za HL).cell k hjl;have p0:=cell_later (za FB _ (za BB)) q0;have p1:=cell_later (za FB _ (za BB)) q1;have HN:=zaa (za FD k);generalize hx:l[k]=x at *;clear hx;have KP:=zaa (show ∀ W:World,Below wr.heap.size wr W→W.cell? ⟨w.heap.size,0,none⟩=some (.string rn)∧W.cell? ⟨g,k*2,none⟩=some (.string x.nm)∧W.cell? ⟨g,k*2+1,none⟩=some (.slice x.ta x.tn x.tc) from fun W hb=>⟨cell_later hb (zab (za PK) 0 _ rfl),cell_later hb p0,cell_later hb p1⟩);clear q0 q1 p0 p1;generalize hd:ltN ⟨rn,ra,rt,rc⟩ x=d at *;have HD:=zaa hd;clear hd;cases d with
     |true =>
      rw[if_pos rfl] at FT;have tl:Op.bytesLess x.nm.toList rn.toList=false:=by rw[zj2];exact decide_eq_false (fun e=>Kord.irr _ (Kord.tr e (of_decide_eq_true (za HD))))
      have tm:(x.nm.toList==rn.toList)=false:=by rw[zc];exact decide_eq_false (fun e=>Kord.irr rn (by have:=of_decide_eq_true (za HD);rw[e] at this;exact this))
      have BN:∀ k,Below wr.heap.size wr (wr.drewN k):=fun k=>⟨(Below.refl wr.heap.size wr).os,(Below.refl wr.heap.size wr).tape,(Below.refl wr.heap.size wr).output,(Below.refl wr.heap.size wr).size,(Below.refl wr.heap.size wr).block⟩
      obtain⟨p0,q0,q1⟩:=za KP _ (Below.refl _ _)
      go_wp2_with fail
      go_quiet (fail)
      generalize hVN:wr.drewN _=V1;have G:=zaa (show Below wr.heap.size wr V1 from hVN ▸ BN _);clear BN hVN;obtain⟨p0,q0,q1⟩:=za KP _ (za G);have OA:=zaa (show za8 (w.heap.size+1) (V1.alloc (.cells #[.string x.nm,.slice x.ta x.tn x.tc] 54)) sp3 c3 (L1++(l.take k).filter (fun x=>ltN ⟨rn,ra,rt,rc⟩ x)) from zae (za OW) ((za G).alloc (za G).size _));have XA:=zaa (zac V1 (.cells #[.string x.nm,.slice x.ta x.tn x.tc] 54));have GA:=zaa (show Below wr.heap.size wr (V1.alloc (.cells #[.string x.nm,.slice x.ta x.tn x.tc] 54)) from(za G).alloc (za G).size _)
      go_wp2_with (at_builtin;refine zcf rfl (.tmp 48) (.tmp 53) rfl (w.heap.size+1) sp3 n2 c3 _ rfl (za NL) (za OA) _ x rfl (za XA) (by have:=za NL;have:=za HN;have:=za N2;have:=za LL;rw[List.length_append] at *;omega) (by have:=(za GA).size;have:=za HB;omega) ?_;intro sp2 c2 W2 ho hb2;have O2:=zaa ho;have BW:=zaa hb2;clear ho hb2)
      exact⟨⟨k+1,sp2,n2+1,c2,by omega,rfl,by go_num,zaa (by rw[za FT,← List.append_assoc,List.length_append,za NL];rfl),zaa (by rw[za FT,← List.append_assoc];exact za O2),zaa ((za BB).trans (((za GA).mono (za HB)).trans (za BW)))⟩,by simp[intOf];omega⟩
     |false =>
      rw[if_neg (by decide),List.append_nil] at FT;by_cases hlt:Kord.lt x.nm rn
      ·as_aux_lemma =>
       have tl:Op.bytesLess x.nm.toList rn.toList=true:=by rw[zj2];exact decide_eq_true hlt
       have BN:∀ k,Below wr.heap.size wr (wr.drewN k):=fun k=>⟨(Below.refl wr.heap.size wr).os,(Below.refl wr.heap.size wr).tape,(Below.refl wr.heap.size wr).output,(Below.refl wr.heap.size wr).size,(Below.refl wr.heap.size wr).block⟩
       obtain⟨p0,q0,q1⟩:=za KP _ (Below.refl _ _)
       go_wp2_with fail
       go_quiet (fail)
       generalize hVN:wr.drewN _=V1;have G:=zaa (show Below wr.heap.size wr V1 from hVN ▸ BN _);clear BN hVN;obtain⟨p0,q0,q1⟩:=za KP _ (za G)
       go_wp2
       exact⟨⟨k+1,sp3,n2,c3,by omega,rfl,by go_num,zaa (by rw[za FT];exact za NL),zaa (by rw[za FT];exact zae (za OW) (za G)),zaa ((za BB).trans ((za G).mono (za HB)))⟩,by simp[intOf];omega⟩
      ·as_aux_lemma =>
       have tl:Op.bytesLess x.nm.toList rn.toList=false:=by rw[zj2];exact decide_eq_false hlt
       have tm:(x.nm.toList==rn.toList)=true:=by rw[zc];exact decide_eq_true (((Kord.tri x.nm rn).resolve_left hlt).resolve_right (of_decide_eq_false (za HD)))
       have BN:∀ k,Below wr.heap.size wr (wr.drewN k):=fun k=>⟨(Below.refl wr.heap.size wr).os,(Below.refl wr.heap.size wr).tape,(Below.refl wr.heap.size wr).output,(Below.refl wr.heap.size wr).size,(Below.refl wr.heap.size wr).block⟩
       obtain⟨p0,q0,q1⟩:=za KP _ (Below.refl _ _)
       go_wp2_with fail
       go_quiet (fail)
       generalize hVN:wr.drewN _=V1;have G:=zaa (show Below wr.heap.size wr V1 from hVN ▸ BN _);clear BN hVN;obtain⟨p0,q0,q1⟩:=za KP _ (za G)
       go_wp2
       exact⟨⟨k+1,sp3,n2,c3,by omega,rfl,by go_num,zaa (by rw[za FT];exact za NL),zaa (by rw[za FT];exact zae (za OW) (za G)),zaa ((za BB).trans ((za G).mono (za HB)))⟩,by simp[intOf];omega⟩
    ·as_aux_lemma =>
     have hjj:¬ (k:Int)<(j:Int):=by omega
     obtain rfl:k=j:=by omega
     have E2:=zaa (show(l.take k).filter (fun x=>ltN ⟨rn,ra,rt,rc⟩ x)=l.filter (fun x=>ltN ⟨rn,ra,rt,rc⟩ x) by rw[List.take_of_length_le (by rw[za HM];exact Nat.le_refl _)]);rw[za E2,za WRE] at NL OW
     go_wp2
     go_ret
     exact⟨sp3,c3,by first|(rw[za NL];done)|(rw[za NL];rfl),zb4 (za OW) (by omega),za FB _ (za BB)⟩
theorem zj8 (n:Nat) (w:World) (hn:n≤1099511627776) :
  Calls Tryz.prog 129 #[.int .i64 (n:Int)] w fun e w'=>∃ sp n' c',e=.returned (.tuple #[.slice sp n' c',.int .i64 0])∧Hid ((zao n).length=n')∧OwnB w.heap.size w' sp c' (zao n)∧Below w.heap.size w w':=by
 have HLen:=zaa (show(zao n).length≤2199023255553 by have:=(zb n).2;omega);have o1:=zaa (OwnB.empty w w.heap.size (Nat.le_refl _));have b1:=zaa (show Below w.heap.size w (w.alloc (.cells #[] 5)) from(Below.refl _ _).alloc (Nat.le_refl _) _);go_enter Tryz.func129,Tryz.ntmps129
 go_wp2
 go_loopw [0,4] (fun i v wr=>∃ (sp':Option Addr) (n' c':Nat) (l':List Nat) (m:Nat),m≤1099511627776∧v=.slice sp' n' c'∧i=.int .i64 (m:Int)∧Hid (l'.length=n')∧Hid (OwnB w.heap.size wr sp' c' l')∧Hid (l'++zao m=zao n)∧Hid (Below w.heap.size w wr)) (fun i _ _=>(intOf i).toNat)
 case atStart=>exact⟨_,0,0,[],n,hn,rfl,rfl,rfl,za o1,by simp[Hid],za b1⟩
 case round =>
  obtain⟨sp',n',c',l',m,hm,rfl,rfl,hl',ho',heq,hbw⟩:=hrel
  have hlen':=zaa (show l'.length+1≤140737488355328 by
   have h1:=za HLen;rw[← za heq,List.length_append] at h1;have:=(zb m).1
   omega)
  have hbr:=zaa (show w.heap.size≤wr.heap.size from(za hbw).size);by_cases h128:m<128
  ·have hlit:=zaa (zbu (l:=[m]) (zac wr (.cells #[.int .u8 (m:Int)] 5)) (by intro c hc;simp only[List.mem_cons,List.not_mem_nil,or_false] at hc;omega));have bA:=zaa (show Below wr.heap.size wr (wr.alloc (.cells #[.int .u8 (m:Int)] 5)) from(Below.refl _ _).alloc (Nat.le_refl _) _);have heq':=zaa (show l'++[m]=zao n by rw[← za heq,zbo h128]);have hmod:(m:Int) % 128=(m:Int):=by omega
   have hdiv:(m:Int) / 128=0:=by omega
   go_wp2_with (at_builtin;refine zfx rfl (.tmp 19) (.tmp 22) rfl w.heap.size sp' n' c' l' rfl (za hl') (by exact(za ho').later (za bA)) (some ⟨wr.heap.size,0,none⟩) 1 1 rfl [m] rfl (by exact za hlit) (fun h=>by cases h) (za hlen') (by exact Nat.le_trans (za hbr) (za bA).size) ?_;intro sp2 n2 c2 W2 hn2 ho2 hg2 hb2)
   rw[za heq'] at hn2 ho2
   go_ret2
   exact⟨sp2,n2,c2,rfl,hn2,ho2,((za hbw).trans ((za bA).mono (za hbr))).trans hb2⟩
  ·obtain⟨q,hq⟩:∃ q,q=m % 128+128:=⟨_,rfl⟩
   obtain⟨d,hd⟩:∃ d,d=m / 128:=⟨_,rfl⟩
   have hlit:=zaa (zbu (l:=[q]) (zac wr (.cells #[.int .u8 (q:Int)] 5)) (by intro c hc;simp only[List.mem_cons,List.not_mem_nil,or_false] at hc;omega));have bA:=zaa (show Below wr.heap.size wr (wr.alloc (.cells #[.int .u8 (q:Int)] 5)) from(Below.refl _ _).alloc (Nat.le_refl _) _);have heq':=zaa (show l'++[q]++zao d=zao n by rw[← za heq,zb8 h128,hq,hd,List.append_assoc];rfl);have hmod:(m:Int) % 128+128=(q:Int):=by omega
   have hdiv:(m:Int) / 128=(d:Int):=by omega
   have hd0:¬ (d:Int)=0:=by omega
   have hq256:(q:Int)<256:=by omega
   have HD:=zaa hd;have HQ:=zaa hq;clear hd hq
   go_wp2_with (at_builtin;refine zfx rfl (.tmp 24) (.tmp 28) rfl w.heap.size sp' n' c' l' rfl (za hl') (by exact(za ho').later (za bA)) (some ⟨wr.heap.size,0,none⟩) 1 1 rfl [q] rfl (by exact za hlit) (fun h=>by cases h) (za hlen') (by exact Nat.le_trans (za hbr) (za bA).size) ?_;intro sp2 n2 c2 W2 hn2 ho2 hg2 hb2)
   have hbn:=((za hbw).trans ((za bA).mono (za hbr))).trans hb2;exact⟨⟨sp2,n2,c2,l'++[q],d,by have:=za HD;omega,rfl,rfl,hn2,ho2,za heq',hbn⟩,by have:=za HD;simp[intOf];omega⟩
def zjk (base:Nat) (w:World) (sp:Option Addr) (l:List Nat) (e:Ending) (w':World):Prop:=∃ sp' n' c',e=.returned (.slice sp' n' c')∧Hid (l.length=n')∧OwnB base w' sp' c' l∧Grew w sp w' sp'
theorem zed (base:Nat) {w:World} {sp:Option Addr} {n0 c:Nat} {l:List Nat} (hn0:l.length=n0) (hown:OwnB base w sp c l) (x:Nat) (hx:x≤1099511627776) (hsz:l.length+6≤140737488355328) (hbase:base≤w.heap.size) :
  Calls Tryz.prog 72 #[.slice sp n0 c,.int .i64 (x:Int)] w (zjk base w sp (l++zao x)):=by
 have HO:=zaa hown;have HN:=zaa hn0;have NC:=zaa (zj8 x w hx);have L6:=zaa (zay x hx);unfold zjk;clear hown hn0;go_enter Tryz.func72,Tryz.ntmps72
 go_wp2_with fail
 refine(za NC).mono ?_;rintro e V ⟨xp,xn,xc,rfl,hxn,hxo,hxb⟩;have ho2:=zaa ((za HO).later hxb);have HV:=zaa hxb;have XB:=zaa hxo.bytes;have X0:=zaa hxo.cap0;have hvs:base≤V.heap.size:=Nat.le_trans hbase hxb.size;have hs2:=zaa (show l.length+xn≤140737488355328 by rw[← za hxn];have:=za L6;omega);clear hxb hxo hx
 go_wp2_with (at_builtin;refine zbh rfl (.tmp 12) (.tmp 13) rfl base sp n0 c _ rfl (za HN) (za ho2) xp xn xc rfl (zao x) (za hxn) (za XB) (za X0) (za hs2) hvs ?_;intro sp2 n2 c2 W2 hn2 ho3 hg2 hb2;have HO3:=zaa ho3;clear ho3)
 have hbn:=zaa (Grew.aside (za HV) ⟨hg2,hb2⟩);go_ret
 exact⟨sp2,n2,c2,rfl,by first|exact hn2|exact zaa (by simpa using za hn2),za HO3,za hbn⟩
theorem za9 (base:Nat) {w:World} {sp:Option Addr} {n0 c:Nat} {l:List Nat} (hn0:l.length=n0) (hown:OwnB base w sp c l) (s:ByteArray) (hx:s.size≤1000000) (hsz:l.length+1000006≤140737488355328) (hbase:base≤w.heap.size) :
  Calls Tryz.prog 131 #[.slice sp n0 c,.string s] w (zjk base w sp (l++txB s)):=by
 have NC:=zaa (zed base hn0 hown s.size (by omega) (by omega) hbase);have HO:=zaa hown;unfold zjk at NC ⊢;clear hown;go_enter Tryz.func131,Tryz.ntmps131
 go_wp2_with fail
 refine(za NC).mono ?_;rintro e V ⟨s1,m1,c1,rfl,hn1,ho1,hg1⟩;have hV:=zaa hg1;have hvs:base≤V.heap.size:=Nat.le_trans hbase hg1.grown.size;have HO1:=zaa ho1;have hne1:=zaa (ho1.some_ (by rw[List.length_append];have:=(zb s.size).1;omega))
 have hs2:=zaa (show m1+s.size≤140737488355328 by
  rw[← za hn1,List.length_append];have h2:=zay s.size (by omega)
  omega)
 clear ho1 hg1 NC
 go_wp2_with (at_builtin;refine zfb rfl (.tmp 9) (.tmp 10) rfl s1 m1 c1 _ rfl (za hn1) (za HO1) (za hne1) s rfl (za hs2) hvs ?_;intro sp2 n2 c2 W2 hn2 ho3 hg2 hnn;rw[List.append_assoc,show zao s.size++bsT s=txB s from rfl] at hn2 ho3;have HO3:=zaa ho3;clear ho3)
 have hbn:=zaa ((za hV).trans hg2);go_ret
 exact⟨sp2,n2,c2,rfl,by first|exact hn2|exact zaa (by simpa using za hn2),za HO3,za hbn⟩
theorem ze6 (base:Nat) {w0 w:World} {a:Option Addr} {ts:List Tgt} (hT:TgsAt w0 a ts) (h0:Below w0.heap.size w0 w) (hb0:w0.heap.size≤base) {sp:Option Addr} {n0 c:Nat} {l:List Nat} (hn0:l.length=n0) (hown:OwnB base w sp c l) (m mc:Nat) (hm:ts.length=m)
  (hts:∀ t∈ts,t.1.size≤1000000) (hsz:l.length+6+1000014*m≤140737488355328) (hm2:m≤1000) (hbase:base≤w.heap.size) :
  Calls Tryz.prog 130 #[.slice sp n0 c,.slice a m mc] w (zjk base w sp (l++zlx ts)):=by
 have HTT:=zaa hT;have HM:=zaa hm;have H0:=zaa h0;have HNS:=zaa hts;have hsF:=zc5 .plain;have hbits:=zdu;have L0:=zaa (zay m (by omega));have E0:=zaa (show zao m++ts.flatMap tgB=zlx ts by unfold zlx;rw[hm]);have CN:=zaa (zed base hn0 hown m (by omega) (by omega) hbase);have HO:=zaa hown;unfold zjk at CN ⊢;clear hn0 hm hts hT h0 hown;go_enter Tryz.func130,Tryz.ntmps130
 go_wp2_with fail
 refine(za CN).mono ?_;rintro e V0 ⟨s0,m0,c0,rfl,hn1,ho1,hg1⟩;have hV:=zaa hg1;have HW0:=zaa (zau hb0 (za HO) (za hV) hbase (za H0));have HO1:=zaa ho1;have hvs:base≤V0.heap.size:=Nat.le_trans hbase (za hV).grown.size;clear ho1 hg1 CN
 go_wp2_with fail
 go_loopw [0,5,6,7] (fun v i _ _ wr=>∃ (j:Nat) (sp':Option Addr) (n' c':Nat),j≤m∧v=.slice sp' n' c'∧i=.int .i64 (j:Int)∧Hid ((l++zao m++(ts.take j).flatMap tgB).length=n')∧Hid (OwnB base wr sp' c' (l++zao m++(ts.take j).flatMap tgB))∧Hid (Grew w sp wr sp')∧Hid (Below w0.heap.size w0 wr)) (fun _ i _ _ _=>m - (intOf i).toNat)
 case atStart=>exact⟨0,s0,m0,c0,by omega,rfl,rfl,zaa (by simpa using za hn1),zaa (by simpa using za HO1),hV,HW0⟩
 case round =>
  obtain⟨j,sp',n',c',hj,rfl,rfl,hl',ho',hg',hw'⟩:=hrel;by_cases hjm:j<m
  ·as_aux_lemma =>
   have y0:(0:Int)≤(j:Int):=by omega
   have y1:(j:Int)<(m:Int):=by omega
   have hj1:j+1≤m:=by omega
   have hjl:j<ts.length:=by rw[za HM];exact hjm
   obtain⟨b1,o1,rfl,q0,q1⟩:=(za HTT).cell j hjl;have hlt:=(za HTT).lt _ (List.getElem_mem hjl);have hx:=za HNS ts[j] (List.getElem_mem hjl);have FT:=zaa (zcb tgB ts j hjl)
   have LJ:=zaa (show(l++zao m++(ts.take j).flatMap tgB).length+1000014≤140737488355328 by
    have h3:=zca tgB 1000014 (ts.take j) (fun x hx=>zm5 x (za HNS x (List.mem_of_mem_take hx)));have h4:(ts.take j).length≤j:=by rw[List.length_take];omega
    have h5:1000014*(j+1)≤1000014*m:=Nat.mul_le_mul_left _ (by omega);have h6:=za L0;have h7:1000014*(ts.take j).length≤1000014*j:=Nat.mul_le_mul_left _ h4
    rw[List.length_append,List.length_append];omega)
   generalize ts[j]=t at *;obtain⟨s,x⟩:=t;dsimp only at q0 q1 hx hlt FT;generalize (ts.take j).flatMap tgB=done at *;have p0:=cell_later (za hw') q0;have CT:=zaa (za9 base (za hl') (za ho') s hx (by have:=za LJ;omega) (Nat.le_trans hbase (za hg').grown.size));unfold zjk at CT;have Q1:=zaa q1;have hbw:=zaa (show base≤wr.heap.size from Nat.le_trans hbase (za hg').grown.size);clear q0 q1
   go_wp2_with fail
   refine(za CT).mono ?_;rintro e V2 ⟨s2,m2,c2,rfl,hn2,ho2,hg2⟩;have hw2:=zaa (zau hb0 (za ho') hg2 (za hbw) (za hw'));have hG2:=zaa ((za hg').trans hg2);have HO2:=zaa ho2;have p1:=cell_later (za hw2) (za Q1)
   have S8:=zaa (show(l++zao m++done++txB s).length+8≤140737488355328 by
    rw[List.length_append];have:=zcl s (by omega);have:=za LJ
    omega)
   have FT2:=zaa (show l++zao m++done++txB s++zgt x=l++zao m++(ts.take (j+1)).flatMap tgB by
    rw[za FT]
    simp[tgB,List.append_assoc])
   generalize l++zao m++done++txB s=L at *;obtain⟨wp,hwp⟩:∃ wp,wp=wr:=⟨_,rfl⟩
   subst hwp;clear ho2 hg2 CT p0 hl' ho' hg' hw' LJ FT
   go_wp2_with fail
   go_loopw [0,7] (fun v i wr=>∃ (k:Nat) (sp':Option Addr) (n' c':Nat),k≤8∧v=.slice sp' n' c'∧i=.int .i64 (k:Int)∧Hid ((L++(zgt x).take k).length=n')∧Hid (OwnB base wr sp' c' (L++(zgt x).take k))∧Hid (Grew w sp wr sp')∧Hid (Below w0.heap.size w0 wr)) (fun _ i _=>8 - (intOf i).toNat)
   case atStart=>exact⟨0,s2,m2,c2,by omega,rfl,rfl,zaa (by simpa using za hn2),zaa (by simpa using za HO2),hG2,hw2⟩
   case round =>
    obtain⟨k,sp',n',c',hk,rfl,rfl,hl',ho',hg',hw'⟩:=hrel;by_cases hk8:k<8
    ·obtain⟨sh,hs⟩:∃ sh:Nat,sh=56 - 8*k:=⟨_,rfl⟩
     have z1:(k:Int)<8:=by omega
     have hmul:IntKind.i64.wrap (8*(k:Int))=8*(k:Int):=by rw[IntKind.wrap_i64];omega
     have hsub:IntKind.i64.wrap (56 - 8*(k:Int))=(sh:Int):=by rw[IntKind.wrap_i64];omega
     have hcv:IntKind.u64.wrap (sh:Int)=(sh:Int):=by rw[IntKind.wrap_u64];omega
     have y2:sh≤64:=by omega
     have hmin:min sh 64=sh:=by omega
     have hby:=znz x sh;have FK:=zaa (zlu x k hk8);rw[← hs] at FK;have hw8:IntKind.u8.wrap ((x:Int) / 2 ^ sh)=((x / 2 ^ sh % 256:Nat):Int):=by rw[← hby,IntKind.wrap_u8]
     have hq2:x / 2 ^ sh % 256<256:=Nat.mod_lt _ (by decide);generalize hq:x / 2 ^ sh % 256=q at *;have hlit:=zaa (zbu (l:=[q]) (zac wr (.cells #[.int .u8 (q:Int)] 5)) (by intro c hc;simp only[List.mem_cons,List.not_mem_nil,or_false] at hc;omega));have bA:=zaa (show Below wr.heap.size wr (wr.alloc (.cells #[.int .u8 (q:Int)] 5)) from(Below.refl _ _).alloc (Nat.le_refl _) _);have hbr:base≤wr.heap.size:=Nat.le_trans hbase (za hg').grown.size
     have hs2:=zaa (show(L++(zgt x).take k).length+1≤140737488355328 by
      rw[List.length_append];have:((zgt x).take k).length≤7:=by rw[List.length_take];omega
      have:=za S8
      omega)
     have hk1:k+1≤8:=by omega
     clear hs hq hk8 hby
     go_wp2_with (at_builtin;refine zbh rfl (.tmp 35) (.tmp 43) rfl base sp' n' c' _ rfl (za hl') (by exact(za ho').later (za bA)) (some ⟨wr.heap.size,0,none⟩) 1 1 rfl [q] rfl (by exact za hlit) (fun h=>by cases h) (za hs2) (Nat.le_trans hbr (za bA).size) ?_;intro sp2 n2 c2 W2 hn2 ho2 hg2 hb2;rw[List.append_assoc,← za FK] at hn2 ho2;have HO2:=zaa ho2;have HG2:=zaa hg2;have HB2:=zaa hb2;clear ho2 hg2 hb2)
     have hga:=zaa (Grew.aside (za bA) ⟨za HG2,za HB2⟩);have hbn:=zaa ((za hg').trans (za hga));have hw3:=zaa (zau hb0 (za ho') (za hga) hbr (za hw'));exact⟨⟨k+1,sp2,n2,c2,hk1,rfl,by go_num,by first|exact hn2|exact zaa (by rw[List.length_append];exact za hn2),HO2,hbn,hw3⟩,by simp[intOf];omega⟩
    ·have z1:¬ (k:Int)<8:=by omega
     have E:=zaa (show(zgt x).take k=zgt x from List.take_of_length_le (by rw[zej];omega));rw[za E,za FT2] at hl' ho';clear FT2 hn2 HO2 hG2 hw2
     go_wp2
     exact⟨⟨j+1,sp',n',c',hj1,rfl,by go_num,by first|exact hl'|exact zaa (by simpa using za hl'),ho',hg',hw'⟩,by simp[intOf];omega⟩
  ·as_aux_lemma =>
   have hjj:¬ (j:Int)<(m:Int):=by omega
   have E:=zaa (show zao m++(ts.take j).flatMap tgB=zlx ts by rw[List.take_of_length_le (by rw[za HM];omega)];exact za E0);rw[List.append_assoc,za E] at hl' ho'
   go_wp2
   go_ret
   exact⟨sp',n',c',rfl,by first|exact hl'|exact zaa (by simpa using za hl'),za ho',za hg'⟩
end
end Go.Proofs.YtjcjleaicjhpeaaGreatDoor
