/- The document's number behind a word in a name. -/
import Derived.Test.YtofllbpfajppeaaGreatDoorB29
import Derived.Test.YtofllbpfajppeaaGreatDoorB24
import Derived.Test.YtofllbpfajppeaaGreatDoorB16
set_option linter.unusedVariables false
set_option maxRecDepth 20000
set_option maxHeartbeats 16000000
namespace Go.Proofs.YtofllbpfajppeaaGreatDoor
section
open Go.ChangeShapes Go.WideShapes Go.ChangeAt Go.RowKit
def zrh:List UInt8→Nat→Nat
 |[],n=>n
 |c::r,n=>zrh r (n*10+(c.toNat - 48))
theorem zo1:∀ (a b:List UInt8) (n:Nat),zrh (a++b) n=zrh b (zrh a n)
 |[],b,n=>rfl
 |c::r,b,n=>zo1 r b _
theorem zA7 (n:Nat):zrh (Lib.decDigits n) 0=n:=by
 induction n using Nat.strongRecOn with
 |_ n ih =>
  by_cases h:n<10
  ·rw[ze3 h];show 0*10+((UInt8.ofNat (48+n)).toNat - 48)=n
   have:(UInt8.ofNat (48+n)).toNat=48+n:=by simp;omega
   rw[this];omega
  ·rw[zi9 h,zo1,ih (n / 10) (by omega)];show n / 10*10+((UInt8.ofNat (48+n % 10)).toNat - 48)=n
   have:(UInt8.ofNat (48+n % 10)).toNat=48+n % 10:=by simp;omega
   rw[this];omega
theorem zyi:∀ (l:List UInt8) (n k:Nat),(∀ c∈l,c.toNat≤57)→n<10 ^ k→zrh l n<10 ^ (k+l.length)
 |[],n,k,_,h=>h
 |c::r,n,k,hc,h=>by
  have h1:=hc c List.mem_cons_self;have h2:n*10+(c.toNat - 48)<10 ^ (k+1):=by rw[Nat.pow_succ];omega
  have:=zyi r _ (k+1) (fun x hx=>hc x (List.mem_cons_of_mem _ hx)) h2;rw[List.length_cons,show k+(r.length+1)=k+1+r.length by omega];exact this
def zy1 (l:List UInt8):Bool:=l.all (fun c=>decide (48≤c.toNat∧c.toNat≤57))
def zg6 (wd s:Nm):Nat:=if wd.length<s.length∧s.length≤wd.length+13∧s.take wd.length=wd∧zy1 (s.drop wd.length)=true∧zrh (s.drop wd.length) 0≤1099511627776∧Lib.decDigits (zrh (s.drop wd.length) 0)=s.drop wd.length then zrh (s.drop wd.length) 0 else 0
theorem zAv (n:Nat):zy1 (Lib.decDigits n)=true:=List.all_eq_true.2 (fun c hc=>decide_eq_true (zj n c hc))
theorem zv (wd:Nm) (k:Nat) (h2:k≤1099511627776):zg6 wd (wd++Lib.decDigits k)=k:=by
 have hl:=zga 12 k (by omega);have h0:0<(Lib.decDigits k).length:=List.length_pos_iff.2 (zAg k);unfold zg6;rw[List.drop_left,List.take_left,zA7,if_pos ⟨by rw[List.length_append];omega,by rw[List.length_append];omega,rfl,zAv k,h2,rfl⟩]
theorem zzk {wd s:Nm} (h:0<zg6 wd s):s=wd++Lib.decDigits (zg6 wd s)∧zg6 wd s≤1099511627776:=by
 unfold zg6 at h ⊢;split at h
 ·rename_i hc
  rw[if_pos hc];obtain⟨_,_,h3,_,h5,h6⟩:=hc;refine⟨?_,h5⟩;rw[h6]
  conv=>lhs;rw[← List.take_append_drop wd.length s,h3]
 ·omega
theorem zx {wd s:Nm} {f:Nm→Nat} (h1:∀ s,0<f s→s=wd++Lib.decDigits (f s)∧f s≤1099511627776) (h2:∀ k,1≤k→k≤1099511627776→f (wd++Lib.decDigits k)=k):zg6 wd s=f s:=by
 rcases Nat.eq_zero_or_pos (f s) with h|h
 ·rcases Nat.eq_zero_or_pos (zg6 wd s) with q|q
  ·omega
  ·obtain⟨e1,e2⟩:=zzk q;have:=h2 _ q e2;rw[← e1] at this;omega
 ·obtain⟨e1,e2⟩:=h1 s h;have:=zv wd (f s) e2;rw[← e1] at this;exact this
theorem zwx (s:Nm) (j:Nat):(str s).extract 0 j=str (s.take j):=by
 apply ByteArray.ext
 apply Array.ext'
 simp[ByteArray.data_extract,str]
theorem zww (s:Nm) (j:Nat):(str s).extract j (str s).size=str (s.drop j):=by
 apply ByteArray.ext
 apply Array.ext'
 simp[ByteArray.data_extract,str];rw[List.take_of_length_le (by simp[ByteArray.size])]
theorem zx6 (a b:Nm):((str a).toList==(str b).toList)=decide (a=b):=by
 have h1:∀ x:Nm,(str x).toList=x:=fun x=>by rw[ByteArray.toList_eq];rfl
 rw[h1,h1];by_cases h:a=b
 ·subst h;simp
 ·rw[decide_eq_false h]
  simpa using h
theorem zB1 (s:Nm) (j:Nat) (hj:j<s.length) (h:j<(str s).size):(str s)[j]'h=s[j]:=rfl
theorem zv6 {l:List UInt8} (hd:zy1 l=true) (hl:l.length≤13):zrh l 0<10000000000000:=by
 have h:=zyi l 0 0 (fun c hc=>by have:=List.all_eq_true.1 hd c hc;simp at this;omega) (by decide);rw[Nat.zero_add] at h;exact Nat.lt_of_lt_of_le h (Nat.pow_le_pow_right (n:=10) (by omega) hl)
theorem zwn (l:List UInt8) (c:UInt8):zy1 (l++[c])=(zy1 l&&decide (48≤c.toNat∧c.toNat≤57)):=by
 unfold zy1;rw[List.all_append];simp
theorem zh3 (wd s:Nm) (hw:wd.length≤8) (hs:s.length≤64) (w:World):Calls Tryz.prog 99 #[.string (str wd),.string (str s)] w fun e w'=>e=.returned (.int .i64 (zg6 wd s:Int))∧Below w.heap.size w w':=by
 have z1:(str s).size=s.length:=rfl;have z2:(str wd).size=wd.length:=rfl;have NO:=zaa (show(¬ (wd.length<s.length∧s.length≤wd.length+13∧s.take wd.length=wd∧zy1 (s.drop wd.length)=true∧zrh (s.drop wd.length) 0≤1099511627776∧Lib.decDigits (zrh (s.drop wd.length) 0)=s.drop wd.length))→(zg6 wd s:Int)=0 from fun h=>by unfold zg6;rw[if_neg h];rfl);by_cases c1:s.length≤wd.length
 ·have N0:=zaa (za NO (fun h=>by omega));have y1:((str s).size:Int)≤((str wd).size:Int):=by omega
  generalize str s=bs at *;generalize str wd=bw at *;clear NO;go_enter Tryz.func99,Tryz.ntmps99
  go_wp2
  go_ret
  exact⟨by rw[za N0];rfl,Below.refl _ _⟩
 by_cases c2:s.length > wd.length+13
 ·have N0:=zaa (za NO (fun h=>by omega));have y1:¬ ((str s).size:Int)≤((str wd).size:Int):=by omega
  have y2:((str wd).size:Int)+13<((str s).size:Int):=by omega
  generalize str s=bs at *;generalize str wd=bw at *;clear NO;go_enter Tryz.func99,Tryz.ntmps99
  go_wp2
  go_ret
  exact⟨by rw[za N0];rfl,Below.refl _ _⟩
 have y1:¬ ((str s).size:Int)≤((str wd).size:Int):=by omega
 have y2:¬ ((str wd).size:Int)+13<((str s).size:Int):=by omega
 have hs1:∀ W,(Instr.slice 9 (.string (str s)) none (some (.int .i64 ((str wd).size:Int))) none).run Tryz.prog W=.ok (.string (str (s.take wd.length))) W:=fun W=>by
  rw[run_slice_string_h _ _ _ Tryz.underlying9 _ _ (by omega) (by omega),Int.toNat_natCast,zwx,z2]
 have hs2:∀ W,(Instr.slice 9 (.string (str s)) (some (.int .i64 ((str wd).size:Int))) none none).run Tryz.prog W=.ok (.string (str (s.drop wd.length))) W:=fun W=>by
  rw[run_slice_string_l _ _ _ Tryz.underlying9 _ _ (by omega) (by omega),Int.toNat_natCast,zww,z2]
 have hq:=zx6 (s.take wd.length) wd;have hz1:(str (s.take wd.length)).size≤64:=by rw[zb,List.length_take];omega
 by_cases c3:s.take wd.length=wd
 ·rw[decide_eq_true c3] at hq;have T3:=zaa c3;have ZZ1:=zaa z1;have ZZ2:=zaa z2;have hb1:(str s).size≤64:=by omega
  have hb2:(str wd).size≤8:=by omega
  have hb3:(str wd).size<(str s).size:=by omega
  have DR:=zaa (show ∀ j (hj:j<s.length),wd.length≤j→(s.drop wd.length).take (j+1 - wd.length)=(s.drop wd.length).take (j - wd.length)++[s[j]] from fun j hj hle=>by
   rw[show j+1 - wd.length=(j - wd.length)+1 by omega,List.take_succ_eq_append_getElem (by rw[List.length_drop];omega)];have:wd.length+(j - wd.length)=j:=by omega
   simp only[List.getElem_drop,this])
  have DA:=zaa (show(s.drop wd.length).take (s.length - wd.length)=s.drop wd.length from List.take_of_length_le (by rw[List.length_drop];omega));have DL:=zaa (show(s.drop wd.length).length≤13 from by rw[List.length_drop];omega);have DC:=zaa (fun n hn=>zfh n hn);have hzd:(str (s.drop wd.length)).size≤64:=by rw[zb,List.length_drop];omega
  have QD:=zaa (show ∀ n,((str (Lib.decDigits n)).toList==(str (s.drop wd.length)).toList)=decide (Lib.decDigits n=s.drop wd.length) from fun n=>zx6 _ _);generalize str (s.take wd.length)=bt at *;generalize hbs:str s=bs at *;have AT:=zaa (show ∀ j (hj:j<s.length) (h:j<bs.size),bs[j]'h=s[j] from fun j hj h=>by subst hbs;exact zB1 s j hj h);generalize hbw:str wd=bw at *;generalize str (s.drop wd.length)=bd at *;clear z1 z2 c3 hbs hbw;go_enter Tryz.func99,Tryz.ntmps99
  go_wp2_with fail
  go_loopw [5,6] (fun v i wr=>∃ (j n:Nat),bw.size≤j∧j≤bs.size∧v=.int .i64 (n:Int)∧i=.int .i64 (j:Int)∧n<10000000000000∧Hid (n=zrh ((s.drop wd.length).take (j - wd.length)) 0)∧Hid (zy1 ((s.drop wd.length).take (j - wd.length))=true)∧Hid (wr=w)) (fun _ i _=>bs.size - (intOf i).toNat)
  case atStart=>exact⟨bw.size,0,by omega,by omega,rfl,rfl,by omega,(by rw[za ZZ2,Nat.sub_self];rfl),(by rw[za ZZ2,Nat.sub_self];rfl),zaa rfl⟩
  case round =>
   obtain⟨j,n,hj0,hj,rfl,rfl,hn,hN,hD,hWW⟩:=hrel;have hWW':=za hWW;subst hWW';by_cases hjs:j<bs.size
   ·have y3:(j:Int)<(bs.size:Int):=by omega
    have hjl:j<s.length:=by rw[← za ZZ1];exact hjs
    have hx2:∀ hh,(bs[j]'hh)=s[j]:=fun hh=>za AT j hjl hh;have DRj:=zaa (za DR j hjl (by rw[← za ZZ2];exact hj0))
    have MEM:=zaa (show s[j]∈s.drop wd.length from by
     have e:s[j]=(s.drop wd.length)[j - wd.length]'(by rw[List.length_drop];have:=za ZZ2;omega):=by
      have:wd.length+(j - wd.length)=j:=by have:=za ZZ2;omega
      simp only[List.getElem_drop,this]
     rw[e]
     exact List.getElem_mem _)
    generalize s[j]=x at *;have x0:(0:Int)≤(j:Int):=by omega
    have xb:x.toNat<256:=x.toNat_lt;by_cases h48:x.toNat<48
    ·have N0:=zaa (za NO (fun h=>by
      have:=List.all_eq_true.1 h.2.2.2.1 x (za MEM);simp at this
      omega))
     have q1:((x.toNat:Nat):Int)<48:=by omega
     go_wp2_with fail
     go_ret
     exact⟨by rw[za N0];rfl,Below.refl _ _⟩
    by_cases h57:57<x.toNat
    ·have N0:=zaa (za NO (fun h=>by
      have:=List.all_eq_true.1 h.2.2.2.1 x (za MEM);simp at this
      omega))
     have q1:¬ ((x.toNat:Nat):Int)<48:=by omega
     have q2:(57:Int)<((x.toNat:Nat):Int):=by omega
     go_wp2_with fail
     go_ret
     exact⟨by rw[za N0];rfl,Below.refl _ _⟩
    have q1:¬ ((x.toNat:Nat):Int)<48:=by omega
    have q2:¬ (57:Int)<((x.toNat:Nat):Int):=by omega
    have q3:IntKind.u8.wrap (((x.toNat:Nat):Int) - 48)=((x.toNat - 48:Nat):Int):=by rw[IntKind.wrap_u8];omega
    have DS:=zaa (show zy1 ((s.drop wd.length).take (j+1 - wd.length))=true from by rw[za DRj,zwn,za hD,decide_eq_true ⟨by omega,by omega⟩];rfl);have VS:=zaa (show n*10+(x.toNat - 48)=zrh ((s.drop wd.length).take (j+1 - wd.length)) 0 from by rw[za DRj,zo1,← za hN];rfl);have hn2:n*10+(x.toNat - 48)<10000000000000:=by
     rw[za VS];exact zv6 (za DS) (by rw[List.length_take];have:=za DL;omega)
    generalize x.toNat - 48=dx at *;have hw1:IntKind.i64.wrap ((n:Int)*10+(dx:Int))=((n*10+dx:Nat):Int):=by rw[IntKind.wrap_i64];omega
    go_wp2_with fail
    exact⟨⟨j+1,n*10+dx,by omega,by omega,by go_num,by go_num,hn2,VS,DS,by first|exact zaa trivial|exact zaa rfl⟩,by simp[intOf];omega⟩
   ·have y3:¬ (j:Int)<(bs.size:Int):=by omega
    have JE:=zaa (show j - wd.length=s.length - wd.length from by have h1:=za ZZ1;have h2:=za ZZ2;omega);rw[za JE,za DA] at hN hD
    have YES:=zaa (show zrh (s.drop wd.length) 0≤1099511627776→Lib.decDigits (zrh (s.drop wd.length) 0)=s.drop wd.length→zg6 wd s=zrh (s.drop wd.length) 0 from fun h1 h2=>by
     unfold zg6
     exact if_pos ⟨by have h3:=za ZZ1;have h4:=za ZZ2;omega,by omega,za T3,za hD,h1,h2⟩)
    rw[← za hN] at YES NO;by_cases hmx:1099511627776<n
    ·have N0:=zaa (za NO (fun h=>by omega));have q1:decide ((1099511627776:Int)<(n:Int))=true:=decide_eq_true (by omega)
     go_wp2_with fail
     go_quiet (fail)
     go_wp2_with fail
     go_ret
     exact⟨by rw[za N0];rfl,_root_.Go.below_drewN (Below.refl _ _) nq⟩
    ·have q1:decide ((1099511627776:Int)<(n:Int))=false:=decide_eq_false (by omega);have QE:=za QD n;have DC':=zaa (za DC n (by omega));have hzn:(str (Lib.decDigits n)).size≤64:=by rw[zb];exact Nat.le_trans (zga 12 n (by omega)) (by omega)
     have F:=zaa (show Below wr.heap.size wr wr.drew from(Below.refl _ _).drew);generalize str (Lib.decDigits n)=bn at *;by_cases heq:Lib.decDigits n=s.drop wd.length
     ·rw[decide_eq_true heq] at QE;have NY:=zaa (za YES (by omega) heq);clear heq YES NO QD
      go_wp2_with fail
      refine wp_region_held_drew (S:=fun _=>True) (by kernel_rfl) ?_ (fun hHeld=>?_)
      ·try dsimp only
       all_goals exact trivial
      refine hT 0 ?_;refine hT 1 ?_;refine hT 2 ?_;refine hT 3 ?_;refine hT 5 ?_;refine hT 6 ?_;refine hT 7 ?_;refine hT 8 ?_;refine hO 4 (fun K hK=>?_);go_simp
      (refine(za DC' _).mono ?_;rintro e W4 ⟨rfl,b4⟩;have F:=zaa ((za F).trans (b4.mono (za F).size));clear b4)
      go_wp2_with fail
      refine hK.out _ _ ?_ (fun hHeld=>?_)
      ·try dsimp only
       all_goals exact trivial
      clear hK K;refine hP ?_;refine hT 9 ?_;refine hT 10 ?_;refine wpAnyH_done (by kernel_rfl) ?_ _
      go_wp2_with fail
      go_ret
      exact⟨by rw[za NY];rfl,za F⟩
     ·rw[decide_eq_false heq] at QE;have N0:=zaa (za NO (fun h=>heq h.2.2.2.2.2));clear heq YES NO QD
      go_wp2_with fail
      refine wp_region_held_drew (S:=fun _=>True) (by kernel_rfl) ?_ (fun hHeld=>?_)
      ·try dsimp only
       all_goals exact trivial
      refine hT 0 ?_;refine hT 1 ?_;refine hT 2 ?_;refine hT 3 ?_;refine hT 5 ?_;refine hT 6 ?_;refine hT 7 ?_;refine hT 8 ?_;refine hO 4 (fun K hK=>?_);go_simp
      (refine(za DC' _).mono ?_;rintro e W4 ⟨rfl,b4⟩;have F:=zaa ((za F).trans (b4.mono (za F).size));clear b4)
      go_wp2_with fail
      refine hK.out _ _ ?_ (fun hHeld=>?_)
      ·try dsimp only
       all_goals exact trivial
      clear hK K;refine hP ?_;refine hT 9 ?_;refine hT 10 ?_;refine wpAnyH_done (by kernel_rfl) ?_ _
      go_wp2_with fail
      go_ret
      exact⟨by rw[za N0];rfl,za F⟩
 ·rw[decide_eq_false c3] at hq;have N0:=zaa (za NO (fun h=>c3 h.2.2.1));generalize str (s.take wd.length)=bt at *;generalize str s=bs at *;generalize str wd=bw at *;have hb1:bs.size≤64:=by omega
  have hb2:bw.size≤8:=by omega
  clear NO c3 hs2 z1 z2;go_enter Tryz.func99,Tryz.ntmps99
  go_wp2
  go_ret
  exact⟨by rw[za N0];rfl,Below.refl _ _⟩
def zcb (room n:Nat) (b:List Nat) (ss:Ds):Nat×Ds :=
 if (zai room zau 0 b ss).1≠0 then ((zai room zau 0 b ss).1,(zat zau (zai room zau 0 b ss).2).2) else
 if (zak zau (walNm (n+1)) (zax zau (zai room zau 0 b ss).2).2).1≠0 then ((zak zau (walNm (n+1)) (zax zau (zai room zau 0 b ss).2).2).1,(zat zau (zak zau (walNm (n+1)) (zax zau (zai room zau 0 b ss).2).2).2).2) else
 if 0<n then (0,(zat (walNm n) (zak zau (walNm (n+1)) (zax zau (zai room zau 0 b ss).2).2).2).2) else
 (0,(zak zau (walNm (n+1)) (zax zau (zai room zau 0 b ss).2).2).2)
theorem Grew2.ofGrown {B R:Nat} {w w':World} (h:w.grownBy w' (some R)):Grew2 B (some R) w w':=⟨h.os,h.tape,h.output,h.size,fun i hi _ h2=>h.block i hi (fun e=>h2 e.symm)⟩
theorem zao {w w':World} {R j:Nat} {o:Obj} (g:w.grownBy w' (some R)) (h:w.heap[j]? = some o) (hne:j≠R):w'.heap[j]? = some o:=(g.block j (Array.getElem?_eq_some_iff.1 h).1 (fun e=>hne (Option.some.inj e))).trans h
theorem znd {u:World} {j:Nat} {x0 x1 x2 x3 x4 x5 x6:Value} {T:TypeId} (h:u.heap[j]? = some (.cells #[x0,x1,x2,x3,x4,x5,x6] T (0,0))) (a1 a2 a3 a4 a5 a6:Value):∃ W,W.heap[j]? = some (.cells #[x0,a1,a2,a3,a4,a5,a6] T (0,0))∧u.grownBy W (some j) ∧
  (((((u.setCell ⟨j,1,none⟩ a1).setCell ⟨j,2,none⟩ a2).setCell ⟨j,3,none⟩ a3).setCell ⟨j,4,none⟩ a4).setCell ⟨j,5,none⟩ a5).setCell ⟨j,6,none⟩ a6=W:=by
 have h1:=heap_setCell_same u j 1 _ T a1 h;have h2:=heap_setCell_same _ j 2 _ T a2 h1;have h3:=heap_setCell_same _ j 3 _ T a3 h2;have h4:=heap_setCell_same _ j 4 _ T a4 h3;have h5:=heap_setCell_same _ j 5 _ T a5 h4;have h6:=heap_setCell_same _ j 6 _ T a6 h5;exact⟨_,h6,zag (zag (zag (zag (zag (zaf u j 1 a1) (zaf _ j 2 a2)) (zaf _ j 3 a3)) (zaf _ j 4 a4)) (zaf _ j 5 a5)) (zaf _ j 6 a6),rfl⟩
def zkd (Fv:Nat→Prop) (w:World) (Lr R room n:Nat) (c:Wc) (sp:Option Addr) (k:Nat) (r:Nat×Ds) (e:Ending) (w':World):Prop :=
 e=.returned (.int .i64 (r.1:Int))∧RAt (fun g=>Fv g∨(w.heap.size≤g∧g<w'.heap.size)) w' R room r.2∧Grew2 Lr (some R) w w'∧((r.1≠0∧w'.heap[Lr]? = w.heap[Lr]?)∨(r.1=0∧w'.heap[Lr]? = some (.cells #[.pointer (some ⟨R,0,none⟩),.int .i64 ((n+1:Nat):Int),.int .i64 (c.bi:Int),.int .i64 (c.bt:Int),.int .i64 (c.ht:Int),.int .i64 (c.hv:Int),.slice sp c.es.length k] 79 (0,0))))
theorem zk3 {Fv:Nat→Prop} {w:World} {Lr R room n:Nat} {ss:Ds} (h:RAt Fv w R room ss) (hc:zht 300 ss) (hne:Lr≠R) (hF:¬ Fv Lr) {x2 x3 x4 x5 x6:Value} (hL:w.heap[Lr]? = some (.cells #[.pointer (some ⟨R,0,none⟩),.int .i64 (n:Int),x2,x3,x4,x5,x6] 79 (0,0))) (hn:n≤1099511627776) (c:Wc) (sp:Option Addr) (k:Nat) (hE:EntsAt w sp (c.es.map toI)) (hk:WOk c) (hl:c.es.length≤1000000) :
  Calls Tryz.prog 76 #[.pointer (some ⟨Lr,0,none⟩),.agg (zb1 c sp k)] w (zkd Fv w Lr R room n c sp k (zcb room n (za7 c) ss)):=by
 have H0:=zaa (RSo.start h);have RW:=zaa (show R<w.heap.size from h.ltR);have LW:=zaa (show Lr<w.heap.size from(Array.getElem?_eq_some_iff.1 hL).1);have HL:=zaa hL;have HE:=zaa (fun V (u:Below w.heap.size w V)=>hE.later u);have HK:=zaa hk;have FC:=zaa hc;have HF:=zaa hF;have HNE:=zaa hne
 have LA:=zaa (show(za7 c).length≤10000000000 from by
  have h1:=zkv c.bi c.bt hk.bi hk.bt;have h2:=zg2 c.ht c.hv hk.ht hk.hv;have h3:=zgx c.es hk.es;unfold za7;rw[List.length_append,List.length_append]
  omega)
 have RA:=zaa (show zcb room n (za7 c) ss=(if (zai room zau 0 (za7 c) ss).1≠0 then ((zai room zau 0 (za7 c) ss).1,(zat zau (zai room zau 0 (za7 c) ss).2).2) else
  if (zak zau (walNm (n+1)) (zax zau (zai room zau 0 (za7 c) ss).2).2).1≠0 then ((zak zau (walNm (n+1)) (zax zau (zai room zau 0 (za7 c) ss).2).2).1,(zat zau (zak zau (walNm (n+1)) (zax zau (zai room zau 0 (za7 c) ss).2).2).2).2) else
  if 0<n then (0,(zat (walNm n) (zak zau (walNm (n+1)) (zax zau (zai room zau 0 (za7 c) ss).2).2).2).2) else
  (0,(zak zau (walNm (n+1)) (zax zau (zai room zau 0 (za7 c) ss).2).2).2)) from rfl)
 generalize zcb room n (za7 c) ss=RR at *;unfold zb1;generalize hen:c.es.length=en at *;have HEN:=zaa hen;have A1:=zaa (show Below w.heap.size w (w.alloc (.cells #[.int .i64 (c.bi:Int),.int .i64 (c.bt:Int),.int .i64 (c.ht:Int),.int .i64 (c.hv:Int),.slice sp en k] 51)) from(Below.refl _ _).alloc (Nat.le_refl _) _);have X1:=zaa (zad w (.cells #[.int .i64 (c.bi:Int),.int .i64 (c.bt:Int),.int .i64 (c.ht:Int),.int .i64 (c.hv:Int),.slice sp en k] 51));have L1:=zaa (zac (za A1) hL);clear h hc hF hL hE hk hne hen;go_enter Tryz.func76,Tryz.ntmps76
 go_wp2_with fail
 generalize w.alloc _=W1 at *;have LSX:=zaa (show ∀ V,Below w.heap.size w V→w.heap.size≤V.heap.size from fun V u=>u.size);generalize hD:w.heap.size=D at *;have HDD:=zaa hD;have DNR:=zaa (show D≠R by have:=za RW;omega);have AF:=zaa ((za A1).drew);have H:=zaa (show RSo Fv w W1.drew R room ss from(za H0).below (by rw[hD];exact za AF));have XD:=zaa (show W1.drew.heap[D]? = some (.cells #[.int .i64 (c.bi:Int),.int .i64 (c.bt:Int),.int .i64 (c.ht:Int),.int .i64 (c.hv:Int),.slice sp en k] 51 (0,0)) from za X1);have XL:=zaa (show W1.drew.heap[Lr]? = some (.cells #[.pointer (some ⟨R,0,none⟩),.int .i64 (n:Int),x2,x3,x4,x5,x6] 79 (0,0)) from za L1);clear hD X1 L1 H0
 have BAD:=zaa (show ∀ V x (uu:Ds),RR=(x,uu)→x≠0→RSo Fv w V R room uu→V.heap[Lr]? = some (.cells #[.pointer (some ⟨R,0,none⟩),.int .i64 (n:Int),x2,x3,x4,x5,x6] 79 (0,0))→zkd Fv w Lr R room n c sp k RR (.returned (.int .i64 (x:Int))) V from fun V x uu h1 h2 h3 h4=>by
  unfold zkd;rw[h1]
  exact⟨rfl,h3.at_,Grew2.ofGrown h3.grown,.inl ⟨h2,h4.trans (za HL).symm⟩⟩)
 refine wp_region_held_drew (S:=fun u=>u.cell? ⟨Lr,0,none⟩=some (.pointer (some ⟨R,0,none⟩))∧u.cell? ⟨D,0,none⟩=some (.int .i64 (c.bi:Int))∧u.cell? ⟨D,1,none⟩=some (.int .i64 (c.bt:Int))∧u.cell? ⟨D,2,none⟩=some (.int .i64 (c.ht:Int))∧u.cell? ⟨D,3,none⟩=some (.int .i64 (c.hv:Int))∧u.cell? ⟨D,4,none⟩=some (.slice sp en k)) (by kernel_rfl) ?_ (fun hHeld=>?_)
 ·try dsimp only
  exact⟨zab (za XL) 0 _ rfl,zab (za XD) 0 _ rfl,zab (za XD) 1 _ rfl,zab (za XD) 2 _ rfl,zab (za XD) 3 _ rfl,zab (za XD) 4 _ rfl⟩
 refine hT 0 ?_;refine hT 1 ?_;refine hT 2 ?_;refine hT 3 ?_;refine hT 4 ?_;refine hO 5 (fun K hK=>?_);go_simp
 first
  |(have hV:NB=NB:=rfl;clear hV;refine(zd3 (za H) (za FC) (str zau) (by rw[zb];decide) 0 (by decide) bq bm bz (za7 c) (za NB) (za OB).bytes (by rw[← za NB];exact za LA)).mono ?_;rintro e V ⟨rfl,h3,g3⟩;have H:=zaa h3;have XL:=zaa (zao g3 (za XL) (za HNE));have XD:=zaa (zao g3 (za XD) (za DNR));clear h3 g3)
  |(rw[← za HEN];refine(zla c sp k _ (za HE _ (za AF)) (za HK) (by rw[za HEN];exact hl)).mono ?_;rintro e V ⟨bq,bm,bz,rfl,hm,ob,v⟩;have NB:=zaa (za hm);have OB:=zaa ob;have H:=zaa ((za H).below v);have XL:=zaa (zac v (za XL));have XD:=zaa (zac v (za XD));clear ob v hm)
 go_wp2_with fail
 refine hK.out _ _ ?_ (fun hHeld=>?_)
 ·try dsimp only
  exact⟨zab (za XL) 0 _ rfl,zab (za XD) 0 _ rfl,zab (za XD) 1 _ rfl,zab (za XD) 2 _ rfl,zab (za XD) 3 _ rfl,zab (za XD) 4 _ rfl⟩
 clear hK K;refine hP ?_;refine hO 6 (fun K hK=>?_);go_simp
 first
  |(have hV:NB=NB:=rfl;clear hV;refine(zd3 (za H) (za FC) (str zau) (by rw[zb];decide) 0 (by decide) bq bm bz (za7 c) (za NB) (za OB).bytes (by rw[← za NB];exact za LA)).mono ?_;rintro e V ⟨rfl,h3,g3⟩;have H:=zaa h3;have XL:=zaa (zao g3 (za XL) (za HNE));have XD:=zaa (zao g3 (za XD) (za DNR));clear h3 g3)
  |(rw[← za HEN];refine(zla c sp k _ (za HE _ (za AF)) (za HK) (by rw[za HEN];exact hl)).mono ?_;rintro e V ⟨bq,bm,bz,rfl,hm,ob,v⟩;have NB:=zaa (za hm);have OB:=zaa ob;have H:=zaa ((za H).below v);have XL:=zaa (zac v (za XL));have XD:=zaa (zac v (za XD));clear ob v hm)
 go_wp2_with fail
 refine hK.out _ _ ?_ (fun hHeld=>?_)
 ·try dsimp only
  exact⟨zab (za XL) 0 _ rfl,zab (za XD) 0 _ rfl,zab (za XD) 1 _ rfl,zab (za XD) 2 _ rfl,zab (za XD) 3 _ rfl,zab (za XD) 4 _ rfl⟩
 clear hK K;refine hP ?_;refine hT 7 ?_;refine wpAnyH_done (by kernel_rfl) ?_ _;simp only[zam] at H ⊢;clear OB NB AF;generalize zai room zau 0 (za7 c) ss=B at *;obtain⟨b1,b2⟩:=B;try dsimp only at *
 by_cases hb0:b1≠0
 ·as_aux_lemma =>
  rw[if_pos hb0] at RA;have C3:=zaa (zea (za H) (str zau));rw[zam] at C3;have y1:¬ ((b1:Nat):Int)=0:=by omega
  have y2:(((b1:Nat):Int)==0)=false:=by simp;omega
  have FF:=zaa (fun V=>za BAD V b1 _ (za RA) hb0);have l0:=zab (za XL) 0 _ rfl;generalize ((b1:Nat):Int)=ei at *;clear hb0
  go_wp2_with fail
  go_at_call 98
  refine(za C3).mono ?_;rintro e V4 ⟨rfl,h4,g4⟩;have FF2:=zaa (za FF V4 h4 (zao g4 (za XL) (za HNE)));clear h4 g4 FF l0
  go_wp2_with fail
  go_ret
  exact za FF2
 have hb1:b1=0:=by omega
 subst hb1;rw[if_neg (by omega)] at RA;rw[show((0:Nat):Int)=0 from rfl];have C3:=zaa (zgk (za H) (str zau));rw[zam] at C3;generalize zax zau b2=CC at *;obtain⟨c1,c2⟩:=CC;try dsimp only at *
 have l0:=zab (za XL) 0 _ rfl;clear hb0 H
 go_wp2_with fail
 go_at_call 74
 refine(za C3).mono ?_;rintro e V4 ⟨rfl,h4,g4⟩;have XL4:=zaa (zao g4 (za XL) (za HNE));have XD4:=zaa (zao g4 (za XD) (za DNR));have H4:=zaa h4;have DC:=zaa (zfh (n+1) (by omega));have NE:(⟨#[119,97,108,45]⟩:ByteArray)++str (Lib.decDigits (n+1))=str (walNm (n+1)):=zho walW _;have NS:=zaa (show(walNm (n+1)).length≤17 from walNm_len (n+1) (by omega));have hsz:(str (Lib.decDigits (n+1))).size≤13:=by rw[zb];exact zga 12 (n+1) (by omega)
 have DC0:=zaa (zfh n (by omega));have NE0:(⟨#[119,97,108,45]⟩:ByteArray)++str (Lib.decDigits n)=str (walNm n):=zho walW _;have NS0:=zaa (show(walNm n).length≤17 from walNm_len n (by omega));have hsz0:(str (Lib.decDigits n)).size≤13:=by rw[zb];exact zga 12 n (by omega)
 have hw1:IntKind.i64.wrap ((n:Int)+1)=((n+1:Nat):Int):=by rw[IntKind.wrap_i64];omega
 have NN:=zaa (show((n+1:Nat):Int)=(n:Int)+1 by omega);generalize str (Lib.decDigits (n+1))=dk at *;generalize str (Lib.decDigits n)=dk0 at *;have hz5:¬ 9223372036854775807<4+dk.size:=by omega
 have hz6:¬ 9223372036854775807<4+dk0.size:=by omega
 generalize hn1:((n+1:Nat):Int)=ni at *;have HNI:=zaa hn1;clear hn1;have qd1:¬ D=Lr:=by have:=za LW;omega
 have qd2:¬ Lr=D:=by have:=za LW;omega
 clear h4 g4 C3 l0 XL XD
 go_wp2_with fail
 have H:=zaa ((za H4).below ((Below.refl _ _).drew:Below V4.heap.size V4 V4.drew));have XL:=zaa (show V4.drew.heap[Lr]? = some (.cells #[.pointer (some ⟨R,0,none⟩),.int .i64 (n:Int),x2,x3,x4,x5,x6] 79 (0,0)) from za XL4);have XD:=zaa (show V4.drew.heap[D]? = some (.cells #[.int .i64 (c.bi:Int),.int .i64 (c.bt:Int),.int .i64 (c.ht:Int),.int .i64 (c.hv:Int),.slice sp en k] 51 (0,0)) from za XD4);clear H4 XL4 XD4;refine wp_region_held_drew (S:=fun u=>u.cell? ⟨Lr,0,none⟩=some (.pointer (some ⟨R,0,none⟩))∧u.cell? ⟨Lr,1,none⟩=some (.int .i64 (n:Int))) (by kernel_rfl) ?_ (fun hHeld=>?_)
 ·try dsimp only
  exact⟨zab (za XL) 0 _ rfl,zab (za XL) 1 _ rfl⟩
 refine hT 0 ?_;refine hT 1 ?_;refine hT 2 ?_;refine hT 3 ?_;refine hT 4 ?_;refine hT 5 ?_;refine hT 6 ?_;refine hT 7 ?_;refine hT 8 ?_;refine hO 9 (fun K hK=>?_);go_simp
 first
  |(have hV:ND=ND:=rfl;clear hV;refine(zi0 (za H) (str zau) (str (walNm (n+1))) (by rw[zb];have:=za NS;simp only[maxLen];omega)).mono ?_;rintro e V ⟨rfl,h3,g3⟩;have H:=zaa h3;have XL:=zaa (zao g3 (za XL) (za HNE));have XD:=zaa (zao g3 (za XD) (za DNR));clear h3 g3)
  |(refine(za DC _).mono ?_;rintro e V ⟨rfl,v⟩;have ND:=zaa (rfl:V=V);have H:=zaa ((za H).below v);have XL:=zaa (zac v (za XL));have XD:=zaa (zac v (za XD));clear v)
 go_wp2_with fail
 refine hK.out _ _ ?_ (fun hHeld=>?_)
 ·try dsimp only
  exact⟨zab (za XL) 0 _ rfl,zab (za XL) 1 _ rfl⟩
 clear hK K;refine hP ?_;refine hT 10 ?_;refine hO 11 (fun K hK=>?_);go_simp
 first
  |(have hV:ND=ND:=rfl;clear hV;refine(zi0 (za H) (str zau) (str (walNm (n+1))) (by rw[zb];have:=za NS;simp only[maxLen];omega)).mono ?_;rintro e V ⟨rfl,h3,g3⟩;have H:=zaa h3;have XL:=zaa (zao g3 (za XL) (za HNE));have XD:=zaa (zao g3 (za XD) (za DNR));clear h3 g3)
  |(refine(za DC _).mono ?_;rintro e V ⟨rfl,v⟩;have ND:=zaa (rfl:V=V);have H:=zaa ((za H).below v);have XL:=zaa (zac v (za XL));have XD:=zaa (zac v (za XD));clear v)
 go_wp2_with fail
 refine hK.out _ _ ?_ (fun hHeld=>?_)
 ·try dsimp only
  exact⟨zab (za XL) 0 _ rfl,zab (za XL) 1 _ rfl⟩
 clear hK K;refine hP ?_;refine hT 12 ?_;refine wpAnyH_done (by kernel_rfl) ?_ _;simp only[zam] at H ⊢;clear ND;generalize zak zau (walNm (n+1)) c2=EE at *;obtain⟨d1,d2⟩:=EE;try dsimp only at *
 by_cases hd0:d1≠0
 ·as_aux_lemma =>
  rw[if_pos hd0] at RA;have C3:=zaa (zea (za H) (str zau));rw[zam] at C3;have y1:¬ ((d1:Nat):Int)=0:=by omega
  have y2:(((d1:Nat):Int)==0)=false:=by simp;omega
  have FF:=zaa (fun V=>za BAD V d1 _ (za RA) hd0);have l0:=zab (za XL) 0 _ rfl;generalize ((d1:Nat):Int)=ei at *;clear hd0
  go_wp2_with fail
  go_at_call 98
  refine(za C3).mono ?_;rintro e V4 ⟨rfl,h4,g4⟩;have FF2:=zaa (za FF V4 h4 (zao g4 (za XL) (za HNE)));clear h4 g4 FF l0
  go_wp2_with fail
  go_ret
  exact za FF2
 have hd1:d1=0:=by omega
 subst hd1;rw[if_neg (by omega)] at RA;rw[show((0:Nat):Int)=0 from rfl];have l0:=zab (za XL) 0 _ rfl;have l1:=zab (za XL) 1 _ rfl;clear hd0;by_cases hn0:0<n
 ·as_aux_lemma =>
  rw[if_pos hn0] at RA;have y1:(0:Int)<(n:Int):=by omega
  go_wp2_with fail
  clear l0 l1;have H:=zaa ((za H).below ((Below.refl _ _).drew:Below V.heap.size V V.drew));have XL:=zaa (show V.drew.heap[Lr]? = some (.cells #[.pointer (some ⟨R,0,none⟩),.int .i64 (n:Int),x2,x3,x4,x5,x6] 79 (0,0)) from za XL);have XD:=zaa (show V.drew.heap[D]? = some (.cells #[.int .i64 (c.bi:Int),.int .i64 (c.bt:Int),.int .i64 (c.ht:Int),.int .i64 (c.hv:Int),.slice sp en k] 51 (0,0)) from za XD);refine wp_region_held_drew (S:=fun u=>u.cell? ⟨Lr,0,none⟩=some (.pointer (some ⟨R,0,none⟩))∧u.cell? ⟨Lr,1,none⟩=some (.int .i64 (n:Int))) (by kernel_rfl) ?_ (fun hHeld=>?_)
  ·try dsimp only
   exact⟨zab (za XL) 0 _ rfl,zab (za XL) 1 _ rfl⟩
  refine hT 0 ?_;refine hT 1 ?_;refine hT 2 ?_;refine hT 3 ?_;refine hT 4 ?_;refine hT 5 ?_;refine hT 6 ?_;refine hT 7 ?_;refine hO 8 (fun K hK=>?_);go_simp
  first
   |(have hV:ND=ND:=rfl;clear hV;refine(zea (za H) (str (walNm n))).mono ?_;rintro e V ⟨rfl,h3,g3⟩;have H:=zaa h3;have XL:=zaa (zao g3 (za XL) (za HNE));have XD:=zaa (zao g3 (za XD) (za DNR));clear h3 g3)
   |(refine(za DC0 _).mono ?_;rintro e V ⟨rfl,v⟩;have ND:=zaa (rfl:V=V);have H:=zaa ((za H).below v);have XL:=zaa (zac v (za XL));have XD:=zaa (zac v (za XD));clear v)
  go_wp2_with fail
  refine hK.out _ _ ?_ (fun hHeld=>?_)
  ·try dsimp only
   exact⟨zab (za XL) 0 _ rfl,zab (za XL) 1 _ rfl⟩
  clear hK K;refine hP ?_;refine hT 9 ?_;refine hO 10 (fun K hK=>?_);go_simp
  first
   |(have hV:ND=ND:=rfl;clear hV;refine(zea (za H) (str (walNm n))).mono ?_;rintro e V ⟨rfl,h3,g3⟩;have H:=zaa h3;have XL:=zaa (zao g3 (za XL) (za HNE));have XD:=zaa (zao g3 (za XD) (za DNR));clear h3 g3)
   |(refine(za DC0 _).mono ?_;rintro e V ⟨rfl,v⟩;have ND:=zaa (rfl:V=V);have H:=zaa ((za H).below v);have XL:=zaa (zac v (za XL));have XD:=zaa (zac v (za XD));clear v)
  go_wp2_with fail
  refine hK.out _ _ ?_ (fun hHeld=>?_)
  ·try dsimp only
   exact⟨zab (za XL) 0 _ rfl,zab (za XL) 1 _ rfl⟩
  clear hK K;refine hP ?_;refine wpAnyH_done (by kernel_rfl) ?_ _;simp only[zam] at H ⊢;obtain⟨W,hwr,gW,hW⟩:=znd (za XL) (.int .i64 ni) (.int .i64 (c.bi:Int)) (.int .i64 (c.bt:Int)) (.int .i64 (c.ht:Int)) (.int .i64 (c.hv:Int)) (.slice sp en k);have HW:=zaa hW
  have FF:=zaa (show zkd Fv w Lr R room n c sp k RR (.returned (.int .i64 0)) W from by
   unfold zkd;rw[za RA];have hR:=(za H).at_;have hR2:=hR.ltR;refine⟨rfl,?_,⟨gW.os.trans (za H).grown.os,gW.tape.trans (za H).grown.tape,gW.output.trans (za H).grown.output,Nat.le_trans (za H).grown.size gW.size,fun i hi h1 h2=>(gW.block i (Nat.lt_of_lt_of_le hi (za H).grown.size) (fun e=>h1 (Option.some.inj e))).trans ((za H).grown.block i hi (fun e=>h2 e.symm))⟩,.inr ⟨rfl,by rw[za HEN,za HNI];exact hwr⟩⟩;obtain⟨sp',c',rs,q1,q2,q3⟩:=hR;refine⟨sp',c',rs,q1.same (gW.block R hR2 (fun e=>za HNE (Option.some.inj e).symm)) (fun g hg=>gW.block g (q1.own.lt hg).2 (fun e=>?_)),q2,fun g hg=>(q3 g hg).imp id (fun z=>⟨z.1,Nat.lt_of_lt_of_le z.2 gW.size⟩)⟩;have e2:=Option.some.inj e;rcases q3 g hg with z|z
   ·rw[e2] at z;exact za HF z
   ·have h7:=za LW;have h8:=za HDD
    omega)
  have k0:=zab (za XL) 0 _ rfl;have k1:=zab (za XL) 1 _ rfl;have k2:=zab (za XL) 2 _ rfl;have k3:=zab (za XL) 3 _ rfl;have k4:=zab (za XL) 4 _ rfl;have k5:=zab (za XL) 5 _ rfl;have k6:=zab (za XL) 6 _ rfl;have f0:=zae (za XL) 0;have f1:=zae (za XL) 1;have f2:=zae (za XL) 2;have f3:=zae (za XL) 3;have f4:=zae (za XL) 4;have f5:=zae (za XL) 5;have f6:=zae (za XL) 6;have d0:=zab (za XD) 0 _ rfl;have d1:=zab (za XD) 1 _ rfl;have d2:=zab (za XD) 2 _ rfl;have d3:=zab (za XD) 3 _ rfl;have d4:=zab (za XD) 4 _ rfl;clear hW hwr gW
  go_wp2_with fail
  rw[za HW];go_ret
  exact za FF
 ·as_aux_lemma =>
  rw[if_neg hn0] at RA;have y1:¬ (0:Int)<(n:Int):=by omega
  clear l0 l1;obtain⟨W,hwr,gW,hW⟩:=znd (za XL) (.int .i64 ni) (.int .i64 (c.bi:Int)) (.int .i64 (c.bt:Int)) (.int .i64 (c.ht:Int)) (.int .i64 (c.hv:Int)) (.slice sp en k);have HW:=zaa hW
  have FF:=zaa (show zkd Fv w Lr R room n c sp k RR (.returned (.int .i64 0)) W from by
   unfold zkd;rw[za RA];have hR:=(za H).at_;have hR2:=hR.ltR;refine⟨rfl,?_,⟨gW.os.trans (za H).grown.os,gW.tape.trans (za H).grown.tape,gW.output.trans (za H).grown.output,Nat.le_trans (za H).grown.size gW.size,fun i hi h1 h2=>(gW.block i (Nat.lt_of_lt_of_le hi (za H).grown.size) (fun e=>h1 (Option.some.inj e))).trans ((za H).grown.block i hi (fun e=>h2 e.symm))⟩,.inr ⟨rfl,by rw[za HEN,za HNI];exact hwr⟩⟩;obtain⟨sp',c',rs,q1,q2,q3⟩:=hR;refine⟨sp',c',rs,q1.same (gW.block R hR2 (fun e=>za HNE (Option.some.inj e).symm)) (fun g hg=>gW.block g (q1.own.lt hg).2 (fun e=>?_)),q2,fun g hg=>(q3 g hg).imp id (fun z=>⟨z.1,Nat.lt_of_lt_of_le z.2 gW.size⟩)⟩;have e2:=Option.some.inj e;rcases q3 g hg with z|z
   ·rw[e2] at z;exact za HF z
   ·have h7:=za LW;have h8:=za HDD
    omega)
  have k0:=zab (za XL) 0 _ rfl;have k1:=zab (za XL) 1 _ rfl;have k2:=zab (za XL) 2 _ rfl;have k3:=zab (za XL) 3 _ rfl;have k4:=zab (za XL) 4 _ rfl;have k5:=zab (za XL) 5 _ rfl;have k6:=zab (za XL) 6 _ rfl;have f0:=zae (za XL) 0;have f1:=zae (za XL) 1;have f2:=zae (za XL) 2;have f3:=zae (za XL) 3;have f4:=zae (za XL) 4;have f5:=zae (za XL) 5;have f6:=zae (za XL) 6;have d0:=zab (za XD) 0 _ rfl;have d1:=zab (za XD) 1 _ rfl;have d2:=zab (za XD) 2 _ rfl;have d3:=zab (za XD) 3 _ rfl;have d4:=zab (za XD) 4 _ rfl;clear hW hwr gW
  go_wp2_with fail
  rw[za HW];go_ret
  exact za FF
def zhw (R n:Nat) (c:Wc) (sp:Option Addr) (k:Nat):Array Value:=#[.pointer (some ⟨R,0,none⟩),.int .i64 (n:Int),.int .i64 (c.bi:Int),.int .i64 (c.bt:Int),.int .i64 (c.ht:Int),.int .i64 (c.hv:Int),.slice sp c.es.length k]
structure RL (Fv:Nat→Prop) (w:World) (Lr R room:Nat) (ss:Ds) (n:Nat) (c:Wc):Prop where
 dk:RAt Fv w R room ss
 ne:Lr≠R
 nL:¬ Fv Lr
 nR:¬ Fv R
 lg:∃ sp k,w.heap[Lr]? = some (.cells (zhw R n c sp k) 79 (0,0))∧EntsIn Fv w sp (c.es.map toI)
 ok:WOk c
 ix:Ix c
 le:c.es.length≤1000000
 nn:n<1099511627776
section
variable {Fv:Nat→Prop} {w w':World} {Lr R room n:Nat} {ss:Ds} {c:Wc}
theorem RL.later (h:RL Fv w Lr R room ss n c) (hb:Below w.heap.size w w'):RL Fv w' Lr R room ss n c:=by
 obtain⟨sp,k,h1,h2⟩:=h.lg;exact⟨h.dk.later hb,h.ne,h.nL,h.nR,⟨sp,k,zac hb h1,h2.later hb⟩,h.ok,h.ix,h.le,h.nn⟩
theorem RL.ltL (h:RL Fv w Lr R room ss n c):Lr<w.heap.size:=by
 obtain⟨sp,k,h1,h2⟩:=h.lg;exact(Array.getElem?_eq_some_iff.1 h1).1
theorem RL.disk (h:RL Fv w Lr R room ss n c) {uu:Ds} (hs:RSo Fv w w' R room uu):RL (fun g=>Fv g∨(w.heap.size≤g∧g<w'.heap.size)) w' Lr R room uu n c:=by
 obtain⟨sp,k,h1,h2⟩:=h.lg;have hl:=h.ltL;have hR:=h.dk.ltR;refine⟨hs.at_,h.ne,fun q=>?_,fun q=>?_,⟨sp,k,zao hs.grown h1 h.ne,(h2.both.same (fun g hg=>hs.grown.block g hg.2 (fun e=>?_))).sub (fun g hg=>.inl hg.1)⟩,h.ok,h.ix,h.le,h.nn⟩
 ·rcases q with q|q
  ·exact h.nL q
  ·omega
 ·rcases q with q|q
  ·exact h.nR q
  ·omega
 ·have:=Option.some.inj e;rw[this] at hg;exact h.nR hg.1
def zc7 (Fv:Nat→Prop) (w:World) (Lr R room:Nat) (r:Nat×Ds×Wc×Nat) (e:Ending) (w':World):Prop:=e=.returned (.int .i64 (r.1:Int))∧RL (fun g=>Fv g∨(w.heap.size≤g∧g<w'.heap.size)) w' Lr R room r.2.1 r.2.2.2 r.2.2.1∧Grew2 Lr (some R) w w'
theorem RL.stay (h:RL Fv w Lr R room ss n c) (hb:Below w.heap.size w w') {x:Nat} : zc7 Fv w Lr R room (x,ss,c,n) (.returned (.int .i64 (x:Int))) w' :=
 ⟨rfl,h.disk ((RSo.start h.dk).below hb),Grew2.ofBelow hb⟩
theorem zdv (h:RL Fv w Lr R room ss n c):Calls Tryz.prog 42 #[.pointer (some ⟨Lr,0,none⟩)] w fun e w'=>e=.returned (.string (str (walNm n)))∧Below w.heap.size w w':=by
 obtain⟨sp,k,h1,h2⟩:=h.lg;have l1:=zab h1 1 _ rfl;have hnn:=h.nn;have DC:=zaa (zfh n (by omega));have NE:(⟨#[119,97,108,45]⟩:ByteArray)++str (Lib.decDigits n)=str (walNm n):=zho walW _;have hsz:(str (Lib.decDigits n)).size≤13:=by rw[zb];exact zga 12 n (by omega)
 generalize str (Lib.decDigits n)=dk at *;generalize str (walNm n)=nm at *;have hz5:¬ 9223372036854775807<4+dk.size:=by omega
 clear h h1 h2;go_enter Tryz.func42,Tryz.ntmps42
 go_wp2_with fail
 go_at_call 80
 refine(za DC w).mono ?_;rintro e V ⟨rfl,v⟩;have B1:=zaa v;clear v
 go_wp2
 go_ret
 exact⟨by first|rfl|(rw[NE];rfl),za B1⟩
theorem zgi (h:RL Fv w Lr R room ss n c):Calls Tryz.prog 43 #[.pointer (some ⟨Lr,0,none⟩)] w fun e w'=>e=.returned (.int .i64 ((c.bi+c.es.length:Nat):Int))∧Below w.heap.size w w':=by
 obtain⟨sp,k,h1,h2⟩:=h.lg;have l2:w.cell? ⟨Lr,2,none⟩=some (.int .i64 (c.bi:Int)):=zab h1 2 _ rfl;have l6:w.cell? ⟨Lr,6,none⟩=some (.slice sp c.es.length k):=zab h1 6 _ rfl;have hb:=h.ok.bi;have hl:=h.le;have EQ:=zaa (show((c.bi+c.es.length:Nat):Int)=(c.bi:Int)+(c.es.length:Int) by omega);generalize c.es.length=en at *;have hw:IntKind.i64.wrap ((c.bi:Int)+(en:Int))=(c.bi:Int)+(en:Int):=by rw[IntKind.wrap_i64];omega
 clear h h1 h2;go_enter Tryz.func43,Tryz.ntmps43
 go_wp2_with fail
 go_quiet (fail)
 go_wp2
 go_ret
 exact⟨by rw[za EQ];rfl,_root_.Go.below_drewN (Below.refl _ _) nq⟩
theorem zqu (h:RL Fv w Lr R room ss n c):Calls Tryz.prog 33 #[.pointer (some ⟨Lr,0,none⟩)] w (zc7 Fv w Lr R room ((zax (walNm n) ss).1,(zax (walNm n) ss).2,c,n)):=by
 obtain⟨sp,k,h1,h2⟩:=h.lg;have FC:=zaa (fun V (u:Below w.heap.size w V)=>zdv (h.later u));have HH:=zaa h;have H:=zaa ((RSo.start h.dk).below ((Below.refl _ _).drew:Below w.heap.size w w.drew));have U:=zaa ((Below.refl _ _).drew:Below w.heap.size w w.drew);have XL:=zaa (show w.drew.heap[Lr]? = some (.cells (zhw R n c sp k) 79 (0,0)) from h1);have HNE:=zaa h.ne;clear h h1 h2;go_enter Tryz.func33,Tryz.ntmps33
 go_wp2_with fail
 refine wp_region_held_drew (S:=fun u=>u.cell? ⟨Lr,0,none⟩=some (.pointer (some ⟨R,0,none⟩))) (by kernel_rfl) ?_ (fun hHeld=>?_)
 ·try dsimp only
  exact zab (za XL) 0 _ rfl
 refine hT 0 ?_;refine hT 1 ?_;refine hT 2 ?_;refine hT 3 ?_;refine hT 4 ?_;refine hO 5 (fun K hK=>?_);go_simp
 first
  |(have hV:ND=ND:=rfl;clear hV;refine(zgk (za H) (str (walNm n))).mono ?_;rintro e V ⟨rfl,h3,g3⟩;have H:=zaa h3;have XL:=zaa (zao g3 (za XL) (za HNE));clear h3 g3)
  |(refine(za FC _ (za U)).mono ?_;rintro e V ⟨rfl,v⟩;have ND:=zaa (rfl:V=V);have H:=zaa ((za H).below v);have XL:=zaa (zac v (za XL));clear v)
 go_wp2_with fail
 refine hK.out _ _ ?_ (fun hHeld=>?_)
 ·try dsimp only
  exact zab (za XL) 0 _ rfl
 clear hK K;refine hP ?_;refine hO 6 (fun K hK=>?_);go_simp
 first
  |(have hV:ND=ND:=rfl;clear hV;refine(zgk (za H) (str (walNm n))).mono ?_;rintro e V ⟨rfl,h3,g3⟩;have H:=zaa h3;have XL:=zaa (zao g3 (za XL) (za HNE));clear h3 g3)
  |(refine(za FC _ (za U)).mono ?_;rintro e V ⟨rfl,v⟩;have ND:=zaa (rfl:V=V);have H:=zaa ((za H).below v);have XL:=zaa (zac v (za XL));clear v)
 go_wp2_with fail
 refine hK.out _ _ ?_ (fun hHeld=>?_)
 ·try dsimp only
  exact zab (za XL) 0 _ rfl
 clear hK K;refine hP ?_;refine hT 7 ?_;refine wpAnyH_done (by kernel_rfl) ?_ _;rw[zam] at H ⊢;have FF:=zaa (show zc7 Fv w Lr R room ((zax (walNm n) ss).1,(zax (walNm n) ss).2,c,n) (.returned (.int .i64 ((zax (walNm n) ss).1:Int))) V from⟨rfl,(za HH).disk (za H),Grew2.ofGrown (za H).grown⟩)
 go_wp2_with fail
 go_ret
 exact za FF
end
end
end Go.Proofs.YtofllbpfajppeaaGreatDoor
