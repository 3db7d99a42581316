/- The contract of a reader's number. -/
import Derived.Test.YtofllbpfajppeaaGreatDoorB07
import Derived.WalkMore
import Derived.ScopeJumps
import Derived.Recover
import Derived.Deep.RegionHeld3
import Derived.Test.YtofllbpfajppeaaGreatDoorB01
set_option linter.unusedVariables false
set_option maxRecDepth 20000
set_option maxHeartbeats 16000000
namespace Go.Proofs.YtofllbpfajppeaaGreatDoor
section
open Go.ChangeShapes Go.WideShapes Go.ChangeAt Go.RowKit
theorem zo4 {P:Program} {Q:Exit→Act→World→Prop} {a:Act} {w:World} {x R:Code} (l:Nat) (J:Act→World→Prop) (μ:Act→World→Nat) (hx:findLabel x l=none)
  (first:∀ K:Exit→Act→World→Prop,(∀ a w,J a w→K .normal a w)→x.wp P K a w)
  (pass:∀ a w,J a w→R.wp P (Exit.jump l (fun a' w'=>J a' w'∧μ a' w'<μ a w) Q) a w):(Code.scope (x.seq ((Code.label l).seq R))).wp P Q a w:=by
 refine wp_scope_jumps (rest:=Code.seq .skip R) l J μ (by simp[findLabel,hx]) ?_ ?_
 ·refine wp_seq (first _ fun a w hJ=>?_);refine wp_seq (wp_label ?_);refine wp_mono (pass a w hJ) ?_;intro e a w h;cases e <;> first|exact h|exact⟨h.1,h.2.1⟩
 ·intro a w hJ;refine wp_seq (wp_skip ?_);exact pass a w hJ
theorem zwi (x:Nat) (hx:x<256):bits .and .u8 (x:Int) 127=((x % 128:Nat):Int):=by
 have:=u8_and_nat x 127 hx (by decide);rw[show(127:Int)=((127:Nat):Int) from rfl,this,show(127:Nat)=2 ^ 7 - 1 from rfl,Nat.and_two_pow_sub_one_eq_mod]
theorem zA0 (m y s:Nat) (hs:s≤5) (hm:m<128 ^ s) (hy:y<128):bits .or .i64 (m:Int) ((y*128 ^ s:Nat):Int)=((m+y*128 ^ s:Nat):Int):=by
 have hc:bits .or .i64 (m:Int) ((y*128 ^ s:Nat):Int)=bits .or .i64 ((y*128 ^ s:Nat):Int) (m:Int):=by simp only[bits,BitVec.or_comm]
 rw[hc];rcases(by omega:s=0∨s=1∨s=2∨s=3∨s=4∨s=5) with rfl|rfl|rfl|rfl|rfl|rfl <;> simp only[Nat.reducePow] at hm ⊢
 ·rw[bits_join .i64 63 (by decide) zih 0 _ _ (by omega) (by omega) (by omega) (by omega) (by omega) (by omega)];omega
 ·rw[bits_join .i64 63 (by decide) zih 7 _ _ (by omega) (by omega) (by omega) (by omega) (by omega) (by omega)];omega
 ·rw[bits_join .i64 63 (by decide) zih 14 _ _ (by omega) (by omega) (by omega) (by omega) (by omega) (by omega)];omega
 ·rw[bits_join .i64 63 (by decide) zih 21 _ _ (by omega) (by omega) (by omega) (by omega) (by omega) (by omega)];omega
 ·rw[bits_join .i64 63 (by decide) zih 28 _ _ (by omega) (by omega) (by omega) (by omega) (by omega) (by omega)];omega
 ·rw[bits_join .i64 63 (by decide) zih 35 _ _ (by omega) (by omega) (by omega) (by omega) (by omega) (by omega)];omega
def NumJ (R:Nat) (a:Option Addr) (c:Nat) (l:List Nat) (k:Nat) (w:World) (a':Act) (wr:World):Prop :=
 ∃ (m s k':Nat) (u5 u6 u7 u8 u9 u10 u11 u12 u13 u14 u15 u16 u17 u18 u19 u20 u21:Value),a' = { tmps:=#[.pointer (some ⟨R,0,none⟩),undef,.int .i64 0,.int .i64 (m:Int),.int .i64 (s:Int),u5,u6,u7,u8,u9,u10,u11,u12,u13,u14,u15,u16,u17,u18,u19,u20,u21,undef,undef,undef,undef,undef,undef,undef,undef,undef,undef,undef,undef],defers:=[] }∧s≤5∧m<128 ^ s∧Hid (zd6 l (6 - s) s m k'=zdw l k)∧Hid (RdAt R wr a c l k')∧Hid (w.grownBy wr (some R))
def zBc (a':Act) (_:World):Nat:=6 - (intOf (a'.tmps.getD 4 undef)).toNat
theorem zg7 (R:Nat) (a:Option Addr) (c:Nat) (l:List Nat) (k:Nat) (w:World) (h:RdAt R w a c l k) (hl:l.length≤maxLen) :
  Calls Tryz.prog 211 #[.pointer (some ⟨R,0,none⟩)] w fun e w'=>w.grownBy w' (some R) ∧
   ((zdw l k).1=0∧e=.returned (.int .i64 ((zdw l k).2.1:Int))∧RdAt R w' a c l (zdw l k).2.2 ∨
    (zdw l k).1≠0∧e=.panicked (given (zdw l k).1)∧∃ k',RdAt R w' a c l k'):=by
 have H:=zaa h;have HL:=zaa hl;clear h hl;go_enter Tryz.func211,Tryz.ntmps211
 go_wp2
 refine zo4 0 (NumJ R a c l k w) zBc rfl ?_ ?_
 ·intro K hK
  go_wp2
  exact⟨0,0,k,_,_,_,_,_,_,_,_,_,_,_,_,_,_,_,_,_,rfl,by omega,by decide,rfl,za H,zdf _ _⟩
 ·rintro a' wr ⟨m,s,k',u5,u6,u7,u8,u9,u10,u11,u12,u13,u14,u15,u16,u17,u18,u19,u20,u21,rfl,hs,hm,heq,hr,hg⟩;by_cases hk:k'<l.length
  ·have hx:=zcv (za hr).bytes.lt k'
   go_wp2_with fail
   refine(zAi R a c l k' wr (za hr) hk (za HL)).mono ?_;rintro e w1 ⟨rfl,hr1,hg1⟩;have Hr1:=zaa hr1;have Hg1:=zaa (zag (za hg) hg1);generalize hxx:l.getD k' 0=x at *;have HX:=zaa hxx;have hA:=zwi x hx;have hO:=zA0 m (x % 128) s hs hm (Nat.mod_lt _ (by decide));have hy:x % 128<128:=Nat.mod_lt _ (by decide);generalize hyy:x % 128=y at *;have HY:=zaa hyy;clear hr1 hg1 hr hg hxx H hyy;rcases(by omega:s=0∨s=1∨s=2∨s=3∨s=4∨s=5) with rfl|rfl|rfl|rfl|rfl|rfl
   ·obtain⟨n,hn⟩:∃ n,n=m+y*128 ^ 0:=⟨_,rfl⟩
    have e:((y*128 ^ 0:Nat):Int)=(y:Int):=by simp only[Nat.reducePow];omega
    rw[e,← hn] at hO;have hlt:=zaa (show n<128 ^ 1 by rw[hn];simp only[Nat.reducePow] at hm ⊢;omega);have HN:=zaa hn;clear e hn hm hs;by_cases h128:128≤x
    ·have ht:=zaa ((zcs 5 0 m (za HX) hk h128 (by decide)).symm.trans (za heq))
     go_wp2_with fail
     go_step3
     refine⟨rfl,⟨n,1,k'+1,_,_,_,_,_,_,_,_,_,_,_,_,_,_,_,_,_,rfl,by omega,za hlt,?_,za Hr1,za Hg1⟩,by simp[zBc,intOf]⟩;rw[za HN,← za HY];exact za ht
    ·have hyx:y=x:=by have:=za HY;omega
     subst hyx;by_cases hb:1099511627776<n
     ·have ht:=zaa ((ze7 5 0 m (za HX) hk h128 (fun h=>absurd h.2 (by decide)) (by rw[← za HN];exact hb)).symm.trans (za heq))
      go_wp2_with fail
      all_goals (have:=za hlt;omega)
     ·have ht:=zaa ((zdk 5 0 m (za HX) hk h128 (fun h=>absurd h.2 (by decide)) (by rw[← za HN];exact hb)).symm.trans (za heq));rw[← za HN] at ht
      go_wp2_with fail
      all_goals (simp only[Exit.jump];go_ret;exact⟨za Hg1,.inl ⟨by rw[← za ht],by first|(rw[← za ht];done)|(rw[← za ht];rfl),by rw[← za ht];exact za Hr1⟩⟩)
   ·obtain⟨n,hn⟩:∃ n,n=m+y*128 ^ 1:=⟨_,rfl⟩
    have e:((y*128 ^ 1:Nat):Int)=((y:Int)*128):=by simp only[Nat.reducePow];omega
    rw[e,← hn] at hO;have hlt:=zaa (show n<128 ^ 2 by rw[hn];simp only[Nat.reducePow] at hm ⊢;omega);have HN:=zaa hn;clear e hn hm hs;by_cases h128:128≤x
    ·have ht:=zaa ((zcs 4 1 m (za HX) hk h128 (by decide)).symm.trans (za heq))
     go_wp2_with fail
     go_step3
     refine⟨rfl,⟨n,2,k'+1,_,_,_,_,_,_,_,_,_,_,_,_,_,_,_,_,_,rfl,by omega,za hlt,?_,za Hr1,za Hg1⟩,by simp[zBc,intOf]⟩;rw[za HN,← za HY];exact za ht
    ·have hyx:y=x:=by have:=za HY;omega
     subst hyx;by_cases h0:y=0
     ·have ht:=zaa ((zc3 4 1 m (za HX) hk h0 (by decide)).symm.trans (za heq))
      go_wp2_with fail
      refine(za0 4 _).mono ?_;rintro e w2 ⟨rfl,rfl⟩
      go_wp2
      simp only[Exit.jump];refine⟨rfl,za Hg1,.inr ⟨by rw[← za ht];simp,by first|(rw[← za ht];done)|(rw[← za ht];rfl),k'+1,za Hr1⟩⟩
     ·by_cases hb:1099511627776<n
      ·have ht:=zaa ((ze7 4 1 m (za HX) hk h128 (fun h=>h0 h.1) (by rw[← za HN];exact hb)).symm.trans (za heq))
       go_wp2_with fail
       refine(za0 6 _).mono ?_;rintro e w2 ⟨rfl,rfl⟩
       go_wp2
       simp only[Exit.jump];refine⟨rfl,za Hg1,.inr ⟨by rw[← za ht];simp,by first|(rw[← za ht];done)|(rw[← za ht];rfl),k'+1,za Hr1⟩⟩
      ·have ht:=zaa ((zdk 4 1 m (za HX) hk h128 (fun h=>h0 h.1) (by rw[← za HN];exact hb)).symm.trans (za heq));rw[← za HN] at ht
       go_wp2_with fail
       simp only[Exit.jump];go_ret
       refine⟨za Hg1,.inl ⟨by rw[← za ht],by first|(rw[← za ht];done)|(rw[← za ht];rfl),by rw[← za ht];exact za Hr1⟩⟩
   ·obtain⟨n,hn⟩:∃ n,n=m+y*128 ^ 2:=⟨_,rfl⟩
    have e:((y*128 ^ 2:Nat):Int)=((y:Int)*16384):=by simp only[Nat.reducePow];omega
    rw[e,← hn] at hO;have hlt:=zaa (show n<128 ^ 3 by rw[hn];simp only[Nat.reducePow] at hm ⊢;omega);have HN:=zaa hn;clear e hn hm hs;by_cases h128:128≤x
    ·have ht:=zaa ((zcs 3 2 m (za HX) hk h128 (by decide)).symm.trans (za heq))
     go_wp2_with fail
     go_step3
     refine⟨rfl,⟨n,3,k'+1,_,_,_,_,_,_,_,_,_,_,_,_,_,_,_,_,_,rfl,by omega,za hlt,?_,za Hr1,za Hg1⟩,by simp[zBc,intOf]⟩;rw[za HN,← za HY];exact za ht
    ·have hyx:y=x:=by have:=za HY;omega
     subst hyx;by_cases h0:y=0
     ·have ht:=zaa ((zc3 3 2 m (za HX) hk h0 (by decide)).symm.trans (za heq))
      go_wp2_with fail
      refine(za0 4 _).mono ?_;rintro e w2 ⟨rfl,rfl⟩
      go_wp2
      simp only[Exit.jump];refine⟨rfl,za Hg1,.inr ⟨by rw[← za ht];simp,by first|(rw[← za ht];done)|(rw[← za ht];rfl),k'+1,za Hr1⟩⟩
     ·by_cases hb:1099511627776<n
      ·have ht:=zaa ((ze7 3 2 m (za HX) hk h128 (fun h=>h0 h.1) (by rw[← za HN];exact hb)).symm.trans (za heq))
       go_wp2_with fail
       refine(za0 6 _).mono ?_;rintro e w2 ⟨rfl,rfl⟩
       go_wp2
       simp only[Exit.jump];refine⟨rfl,za Hg1,.inr ⟨by rw[← za ht];simp,by first|(rw[← za ht];done)|(rw[← za ht];rfl),k'+1,za Hr1⟩⟩
      ·have ht:=zaa ((zdk 3 2 m (za HX) hk h128 (fun h=>h0 h.1) (by rw[← za HN];exact hb)).symm.trans (za heq));rw[← za HN] at ht
       go_wp2_with fail
       simp only[Exit.jump];go_ret
       refine⟨za Hg1,.inl ⟨by rw[← za ht],by first|(rw[← za ht];done)|(rw[← za ht];rfl),by rw[← za ht];exact za Hr1⟩⟩
   ·obtain⟨n,hn⟩:∃ n,n=m+y*128 ^ 3:=⟨_,rfl⟩
    have e:((y*128 ^ 3:Nat):Int)=((y:Int)*2097152):=by simp only[Nat.reducePow];omega
    rw[e,← hn] at hO;have hlt:=zaa (show n<128 ^ 4 by rw[hn];simp only[Nat.reducePow] at hm ⊢;omega);have HN:=zaa hn;clear e hn hm hs;by_cases h128:128≤x
    ·have ht:=zaa ((zcs 2 3 m (za HX) hk h128 (by decide)).symm.trans (za heq))
     go_wp2_with fail
     go_step3
     refine⟨rfl,⟨n,4,k'+1,_,_,_,_,_,_,_,_,_,_,_,_,_,_,_,_,_,rfl,by omega,za hlt,?_,za Hr1,za Hg1⟩,by simp[zBc,intOf]⟩;rw[za HN,← za HY];exact za ht
    ·have hyx:y=x:=by have:=za HY;omega
     subst hyx;by_cases h0:y=0
     ·have ht:=zaa ((zc3 2 3 m (za HX) hk h0 (by decide)).symm.trans (za heq))
      go_wp2_with fail
      refine(za0 4 _).mono ?_;rintro e w2 ⟨rfl,rfl⟩
      go_wp2
      simp only[Exit.jump];refine⟨rfl,za Hg1,.inr ⟨by rw[← za ht];simp,by first|(rw[← za ht];done)|(rw[← za ht];rfl),k'+1,za Hr1⟩⟩
     ·by_cases hb:1099511627776<n
      ·have ht:=zaa ((ze7 2 3 m (za HX) hk h128 (fun h=>h0 h.1) (by rw[← za HN];exact hb)).symm.trans (za heq))
       go_wp2_with fail
       refine(za0 6 _).mono ?_;rintro e w2 ⟨rfl,rfl⟩
       go_wp2
       simp only[Exit.jump];refine⟨rfl,za Hg1,.inr ⟨by rw[← za ht];simp,by first|(rw[← za ht];done)|(rw[← za ht];rfl),k'+1,za Hr1⟩⟩
      ·have ht:=zaa ((zdk 2 3 m (za HX) hk h128 (fun h=>h0 h.1) (by rw[← za HN];exact hb)).symm.trans (za heq));rw[← za HN] at ht
       go_wp2_with fail
       simp only[Exit.jump];go_ret
       refine⟨za Hg1,.inl ⟨by rw[← za ht],by first|(rw[← za ht];done)|(rw[← za ht];rfl),by rw[← za ht];exact za Hr1⟩⟩
   ·obtain⟨n,hn⟩:∃ n,n=m+y*128 ^ 4:=⟨_,rfl⟩
    have e:((y*128 ^ 4:Nat):Int)=((y:Int)*268435456):=by simp only[Nat.reducePow];omega
    rw[e,← hn] at hO;have hlt:=zaa (show n<128 ^ 5 by rw[hn];simp only[Nat.reducePow] at hm ⊢;omega);have HN:=zaa hn;clear e hn hm hs;by_cases h128:128≤x
    ·have ht:=zaa ((zcs 1 4 m (za HX) hk h128 (by decide)).symm.trans (za heq))
     go_wp2_with fail
     go_step3
     refine⟨rfl,⟨n,5,k'+1,_,_,_,_,_,_,_,_,_,_,_,_,_,_,_,_,_,rfl,by omega,za hlt,?_,za Hr1,za Hg1⟩,by simp[zBc,intOf]⟩;rw[za HN,← za HY];exact za ht
    ·have hyx:y=x:=by have:=za HY;omega
     subst hyx;by_cases h0:y=0
     ·have ht:=zaa ((zc3 1 4 m (za HX) hk h0 (by decide)).symm.trans (za heq))
      go_wp2_with fail
      refine(za0 4 _).mono ?_;rintro e w2 ⟨rfl,rfl⟩
      go_wp2
      simp only[Exit.jump];refine⟨rfl,za Hg1,.inr ⟨by rw[← za ht];simp,by first|(rw[← za ht];done)|(rw[← za ht];rfl),k'+1,za Hr1⟩⟩
     ·by_cases hb:1099511627776<n
      ·have ht:=zaa ((ze7 1 4 m (za HX) hk h128 (fun h=>h0 h.1) (by rw[← za HN];exact hb)).symm.trans (za heq))
       go_wp2_with fail
       refine(za0 6 _).mono ?_;rintro e w2 ⟨rfl,rfl⟩
       go_wp2
       simp only[Exit.jump];refine⟨rfl,za Hg1,.inr ⟨by rw[← za ht];simp,by first|(rw[← za ht];done)|(rw[← za ht];rfl),k'+1,za Hr1⟩⟩
      ·have ht:=zaa ((zdk 1 4 m (za HX) hk h128 (fun h=>h0 h.1) (by rw[← za HN];exact hb)).symm.trans (za heq));rw[← za HN] at ht
       go_wp2_with fail
       simp only[Exit.jump];go_ret
       refine⟨za Hg1,.inl ⟨by rw[← za ht],by first|(rw[← za ht];done)|(rw[← za ht];rfl),by rw[← za ht];exact za Hr1⟩⟩
   ·obtain⟨n,hn⟩:∃ n,n=m+y*128 ^ 5:=⟨_,rfl⟩
    have e:((y*128 ^ 5:Nat):Int)=((y:Int)*34359738368):=by simp only[Nat.reducePow];omega
    rw[e,← hn] at hO;have hlt:=zaa (show n<128 ^ 6 by rw[hn];simp only[Nat.reducePow] at hm ⊢;omega);have HN:=zaa hn;clear e hn hm hs;by_cases h128:128≤x
    ·have ht:=zaa ((zng 5 m (za HX) hk h128).symm.trans (za heq))
     go_wp2_with fail
     refine(za0 6 _).mono ?_;rintro e w2 ⟨rfl,rfl⟩
     go_wp2
     simp only[Exit.jump];refine⟨rfl,za Hg1,.inr ⟨by rw[← za ht];simp,by first|(rw[← za ht];done)|(rw[← za ht];rfl),k'+1,za Hr1⟩⟩
    ·have hyx:y=x:=by have:=za HY;omega
     subst hyx;by_cases h0:y=0
     ·have ht:=zaa ((zc3 0 5 m (za HX) hk h0 (by decide)).symm.trans (za heq))
      go_wp2_with fail
      refine(za0 4 _).mono ?_;rintro e w2 ⟨rfl,rfl⟩
      go_wp2
      simp only[Exit.jump];refine⟨rfl,za Hg1,.inr ⟨by rw[← za ht];simp,by first|(rw[← za ht];done)|(rw[← za ht];rfl),k'+1,za Hr1⟩⟩
     ·by_cases hb:1099511627776<n
      ·have ht:=zaa ((ze7 0 5 m (za HX) hk h128 (fun h=>h0 h.1) (by rw[← za HN];exact hb)).symm.trans (za heq))
       go_wp2_with fail
       refine(za0 6 _).mono ?_;rintro e w2 ⟨rfl,rfl⟩
       go_wp2
       simp only[Exit.jump];refine⟨rfl,za Hg1,.inr ⟨by rw[← za ht];simp,by first|(rw[← za ht];done)|(rw[← za ht];rfl),k'+1,za Hr1⟩⟩
      ·have ht:=zaa ((zdk 0 5 m (za HX) hk h128 (fun h=>h0 h.1) (by rw[← za HN];exact hb)).symm.trans (za heq));rw[← za HN] at ht
       go_wp2_with fail
       simp only[Exit.jump];go_ret
       refine⟨za Hg1,.inl ⟨by rw[← za ht],by first|(rw[← za ht];done)|(rw[← za ht];rfl),by rw[← za ht];exact za Hr1⟩⟩
  ·go_wp2_with fail
   have hkl:k'=l.length:=Nat.le_antisymm (za hr).le (by omega);refine(zp6 R a c l k' wr (za hr) hkl).mono ?_;rintro e w1 ⟨rfl,hr1,hg1⟩
   go_wp2
   have ht:(zdw l k).1=3:=by
    rw[← za heq];obtain⟨f,hf⟩:∃ f,6 - s=f+1:=⟨5 - s,by omega⟩
    rw[hf,zd6,if_pos (by omega)]
   simp only[Exit.jump];refine⟨rfl,zag (za hg) hg1,.inr ⟨by omega,by rw[ht],k',hr1⟩⟩
theorem zxd (R:Nat) (a:Option Addr) (c:Nat) (l:List Nat) (k n k2:Nat) (w:World) (h:RdAt R w a c l k) (hl:l.length≤maxLen) (ht:zdw l k=(0,n,k2)) :
  Calls Tryz.prog 211 #[.pointer (some ⟨R,0,none⟩)] w fun e w'=>e=.returned (.int .i64 (n:Int))∧RdAt R w' a c l k2∧w.grownBy w' (some R):=by
 refine(zg7 R a c l k w h hl).mono ?_;rw[ht];rintro e w' ⟨hg,⟨_,rfl,hr⟩|⟨h0,_⟩⟩
 ·exact⟨rfl,hr,hg⟩
 ·exact absurd rfl h0
theorem zvb (R:Nat) (a:Option Addr) (c:Nat) (l:List Nat) (k x:Nat) (w:World) (h:RdAt R w a c l k) (hl:l.length≤maxLen) (ht:(zdw l k).1=x) (hx:x≠0) :
  Calls Tryz.prog 211 #[.pointer (some ⟨R,0,none⟩)] w fun e w'=>e=.panicked (given x)∧(∃ k',RdAt R w' a c l k')∧w.grownBy w' (some R):=by
 refine(zg7 R a c l k w h hl).mono ?_;rw[ht];rintro e w' ⟨hg,⟨h0,_⟩|⟨_,rfl,hr⟩⟩
 ·exact absurd h0 hx
 ·exact⟨rfl,hr,hg⟩
def zAn {α:Type} (R:Nat) (a:Option Addr) (c:Nat) (l:List Nat) (w:World) (V:α→World→Value→Prop) (r:Except Nat (α×Nat)) (e:Ending) (w':World):Prop :=
 w.grownBy w' (some R) ∧
 match r with
 |.ok (x,k)=>(∃ v,e=.returned v∧V x w' v)∧RdAt R w' a c l k
 |.error x=>e=.panicked (given x)
theorem zkb (R:Nat) (a:Option Addr) (c:Nat) (l:List Nat) (k:Nat) (w:World) (h:RdAt R w a c l k) (hl:l.length≤maxLen) :
  Calls Tryz.prog 211 #[.pointer (some ⟨R,0,none⟩)] w (zAn R a c l w (fun n _ v=>v=.int .i64 ((n:Nat):Int)) (zbh l k)):=by
 refine(zg7 R a c l k w h hl).mono ?_;rintro e w' ⟨hg,⟨h0,rfl,hr⟩|⟨h0,rfl,hr⟩⟩
 ·refine⟨hg,?_⟩;rw[zbh,if_pos h0];exact⟨⟨_,rfl,rfl⟩,hr⟩
 ·refine⟨hg,?_⟩;rw[zbh,if_neg h0]
theorem zj8 (v:Value) (w:World):(Instr.typeAssert (.iface 253 v) 20 253 true).run Tryz.prog w=.ok (.tuple #[v,.bool true]) w:=by
 simp[Instr.typeAssert,go_sem]
theorem zrq (B k:Nat) (w:World) (hb:w.heap[B]? = some (.cells #[.int .i64 0] 48 (0,0))) :
  CallsD Tryz.prog 224 #[.pointer (some ⟨B,0,none⟩)] (.panicking (given k)) w fun e u' w' =>
   e=.returned (.tuple #[])∧u'=.panicking [{ v:=.iface 253 (.agg #[.int .i64 (k:Int)]),recovered:=true }]∧w'=(w.alloc (.cells #[.int .i64 (k:Int)] 253)).setCell ⟨B,0,none⟩ (.int .i64 (k:Int)):=by
 have hlt:=(Array.getElem?_eq_some_iff.1 hb).1;have hb':(w.alloc (.cells #[.int .i64 (k:Int)] 253)).heap[B]? = some (.cells #[.int .i64 0] 48 (0,0)):=(Below.heap_alloc w _ B hlt).trans hb;have hc:(w.alloc (.cells #[.int .i64 (k:Int)] 253)).cell? ⟨B,0,none⟩=some (.int .i64 0):=by rw[cell_of_row _ B 0 _ _ _ hb'];rfl
 have hz:(w.alloc (.cells #[.int .i64 (k:Int)] 253)).frozen? ⟨B,0,none⟩=false:=by simp[World.frozen?,hb']
 clear hb hb' hlt;refine callsD_of_wpS Tryz.func224 rfl fun c₀ cs hu=>?_;apply wpS_seq
 apply wpS_region
 simp[wpOpsS,go_sem,recoverD,hu,Tryz.ntmps224,Exit.thenS];simp only[Array.replicate,List.replicate];have ha:=zj8;apply wpS_of_wp
 go_wp2
 simp[bodyPostS,results,Tryz.results224]
theorem zuf (B:Nat) (w:World) :
  CallsD Tryz.prog 224 #[.pointer (some ⟨B,0,none⟩)] .returning w fun e u' w'=>e=.returned (.tuple #[])∧u'=.returning∧w'=w:=by
 refine callsD_of_wpS Tryz.func224 rfl fun c₀ cs hu=>?_;apply wpS_seq
 apply wpS_region
 simp[wpOpsS,go_sem,recoverD,hu,Tryz.ntmps224,Exit.thenS];apply wpS_of_wp
 go_wp2
 cases c₀
 simp_all [bodyPostS,results,Tryz.results224]
theorem zff (K:Nat) (caps:Array Value) (w:World) (hK:∀ (c:Array Value) (w:World),(callFunc K c).run Tryz.prog w=.ok (.enter K c) w) (S:Ending→World→Prop) (hS:Calls Tryz.prog K caps (w.alloc (.cells #[.int .i64 0] 48)) S)
  (hb:∀ e w',S e w'→w'.heap[w.heap.size]? = some (.cells #[.int .i64 0] 48 (0,0))) (he:∀ e w',S e w'→e=.returned (.tuple #[])∨∃ k:Nat,e=.panicked (given k)) :
  Calls Tryz.prog 209 #[.func (.func K) #[] caps] w fun e w'=>∃ e1 w1,S e1 w1∧w1.grownBy w' (some w.heap.size)∧(e1=.returned (.tuple #[])∧e=.returned (.int .i64 0)∨∃ k:Nat,e1=.panicked (given k)∧e=.returned (.int .i64 (k:Int))):=by
 have hmf:∀ (fn:Fn) (first cap:Array Value) (w:World),(Instr.makeFunc fn first cap).run Tryz.prog w=.ok (.func fn first cap) w:=fun _ _ _ _=>rfl;have HS:=zaa hS;have HB:=zaa hb;have HE:=zaa he;clear hS hb he
 go_enter_defers Tryz.func209,Tryz.ntmps209
 go_wp2_with fail
 refine(za HS).mono ?_;intro e w1 hs;have hb1:=za HB _ _ hs;have hlt:=(Array.getElem?_eq_some_iff.1 hb1).1;have hc:w1.cell? ⟨w.heap.size,0,none⟩=some (.int .i64 0):=by rw[cell_of_row _ _ 0 _ _ _ hb1];rfl
 have hz:w1.frozen? ⟨w.heap.size,0,none⟩=false:=by simp[World.frozen?,hb1]
 rcases za HE _ _ hs with rfl|⟨k,rfl⟩
 ·have H1:=zaa hb1;have HS1:=zaa hs;clear hb1 hs;have hc2:(w1.setCell ⟨w.heap.size,0,none⟩ (.int .i64 0)).cell? ⟨w.heap.size,0,none⟩=some (.int .i64 0):=by
   have:=heap_setCell_same w1 w.heap.size 0 _ 48 (.int .i64 0) (za H1);rw[cell_of_row _ _ 0 _ _ _ this];rfl
  go_wp2_with fail
  refine leaves_cons (f:=224) (args:=#[.pointer (some ⟨w.heap.size,0,none⟩)]) (by simp) (by simp[go_sem]) ?_;refine(zuf w.heap.size _).mono ?_;rintro e u' w'' ⟨rfl,rfl,rfl⟩;simp[Leaves,settle,results,Tryz.results209,go_sem,hc2];exact⟨_,w1,za HS1,zaf _ _ _ _,.inl rfl⟩
 ·have H1:=zaa hb1;have HS1:=zaa hs;clear hb1 hs;have hb2:=(Below.heap_alloc w1 (.cells #[.int .i64 (k:Int)] 253) _ hlt).trans (za H1);have hc2:((w1.alloc (.cells #[.int .i64 (k:Int)] 253)).setCell ⟨w.heap.size,0,none⟩ (.int .i64 (k:Int))).cell? ⟨w.heap.size,0,none⟩=some (.int .i64 (k:Int)):=by
   have:=heap_setCell_same _ w.heap.size 0 _ 48 (.int .i64 (k:Int)) hb2;rw[cell_of_row _ _ 0 _ _ _ this];rfl
  clear hb2
  go_wp2_with fail
  refine leaves_cons (f:=224) (args:=#[.pointer (some ⟨w.heap.size,0,none⟩)]) (by simp) (by simp[go_sem]) ?_;refine(zrq w.heap.size k _ (za H1)).mono ?_;rintro e u' w'' ⟨rfl,rfl,rfl⟩;simp[Leaves,settle,results,Tryz.results209,go_sem,hc2];exact⟨_,w1,za HS1,zag (zb0 _ ((Below.refl _ _).alloc (Nat.le_refl _) _)) (zaf _ _ _ _),.inr ⟨k,rfl,rfl⟩⟩
theorem zm7 (n:Nat) (w:World) (h:n≤1099511627776) :
  Calls Tryz.prog 155 #[.int .i64 (n:Int)] w fun e w'=>∃ sp n' c',e=.returned (.tuple #[.slice sp n' c',.int .i64 0])∧Hid ((za2 n).length=n')∧OwnB w.heap.size w' sp c' (za2 n)∧Below w.heap.size w w':=by
 go_enter Tryz.func155,Tryz.ntmps155
 go_wp2_with fail
 refine(zb6 n 0 1099511627776 _ ⟨by omega,by omega⟩).mono ?_;rintro e w1 ⟨rfl,rfl⟩
 go_wp2_with fail
 refine(ze1 w1.heap.size none 0 0 [] n _ rfl (OwnB.ofNil _ _) (by simp) h (Nat.le_refl _)).mono ?_;rintro e w' ⟨sp,n',c',rfl,hn,ho,hb⟩;rw[List.nil_append] at hn ho
 go_wp2
 go_ret2
 exact⟨sp,n',c',rfl,hn,ho,hb⟩
theorem size_alloc (w:World) (o:Obj):(w.alloc o).heap.size=w.heap.size+1:=by simp
theorem zbp {w:World} {g:Nat} {x:Obj} (o:Obj) (h:w.heap[g]? = some x):(w.alloc o).heap[g]? = some x :=
 (Below.heap_alloc w o g (Array.getElem?_eq_some_iff.1 h).1).trans h
theorem zcd (n:Nat) (h:n≤1099511627776):(za2 n).length≤6:=by
 have key:∀ (s m:Nat),m<128 ^ (s+1)→(za2 m).length≤s+1:=by
  intro s;induction s with
  |zero=>intro m hm;rw[zc2 (by simpa using hm)];simp
  |succ s ih =>
   intro m hm;by_cases h:m<128
   ·rw[zc2 h];simp
   ·rw[zdz h,List.length_cons];have:=ih (m / 128) (by rw[Nat.div_lt_iff_lt_mul (by decide)];rw[Nat.pow_succ] at hm;exact hm);omega
 exact key 5 n (by omega)
theorem zse (t v:Nat) (w:World) (ht:t≤1099511627776) (hv:v≤9) :
  Calls Tryz.prog 111 #[.agg #[.int .i64 (t:Int),.int .i64 (v:Int)]] w fun e w'=>∃ sp n c,e=.returned (.tuple #[.slice sp n c,.int .i64 0])∧Hid ((za2 t++za2 v).length=n)∧OwnB w.heap.size w' sp c (za2 t++za2 v)∧Below w.heap.size w w':=by
 have h0:=zad w (.cells #[.int .i64 (t:Int),.int .i64 (v:Int)] 29);have c0:(w.alloc (.cells #[.int .i64 (t:Int),.int .i64 (v:Int)] 29)).cell? ⟨w.heap.size,0,none⟩=some (.int .i64 (t:Int)):=by rw[cell_of_row _ _ 0 _ _ _ h0];rfl
 have c1:(w.alloc (.cells #[.int .i64 (t:Int),.int .i64 (v:Int)] 29)).cell? ⟨w.heap.size,1,none⟩=some (.int .i64 (v:Int)):=by rw[cell_of_row _ _ 1 _ _ _ h0];rfl
 have bA:=zaa (show Below w.heap.size w (w.alloc (.cells #[.int .i64 (t:Int),.int .i64 (v:Int)] 29)) from(Below.refl _ _).alloc (Nat.le_refl _) _);have hsz:=zaa (size_alloc w (.cells #[.int .i64 (t:Int),.int .i64 (v:Int)] 29));have hl6:=zaa (zcd t ht);clear h0;go_enter Tryz.func111,Tryz.ntmps111
 go_wp2_with fail
 generalize w.alloc _=W at *;refine(zb6 t 0 1099511627776 _ ⟨by omega,by omega⟩).mono ?_;rintro e w1 ⟨rfl,rfl⟩
 go_wp2_with fail
 refine(zb6 v 0 9 _ ⟨by omega,by omega⟩).mono ?_;rintro e w2 ⟨rfl,rfl⟩
 go_wp2_with fail
 go_region_held3 (fun w'=>w'.cell? ⟨w.heap.size,0,none⟩=some (.int .i64 (t:Int))∧w'.cell? ⟨w.heap.size,1,none⟩=some (.int .i64 (v:Int)))
  (first
   |exact⟨((hb1.trans hb2).cell (p:=⟨w.heap.size,0,none⟩) (Nat.lt_succ_self _)).trans c0,((hb1.trans hb2).cell (p:=⟨w.heap.size,1,none⟩) (Nat.lt_succ_self _)).trans c1⟩
   |exact⟨(hb1.cell (p:=⟨w.heap.size,0,none⟩) (Nat.lt_succ_self _)).trans c0,(hb1.cell (p:=⟨w.heap.size,1,none⟩) (Nat.lt_succ_self _)).trans c1⟩
   |exact⟨c0,c1⟩)
  (first
   |(go_at_call_of 147 (Value.slice none 0 0);refine(ze1 (w.heap.size+1) none 0 0 [] t _ rfl (OwnB.ofNil _ _) (by simp) ht (by exact Nat.le_of_eq (za hsz).symm)).mono ?_;rintro e W1 ⟨sp1,n1,k1,rfl,hn1,ho1,hb1⟩)
   |(go_at_call_of 147 (Value.slice sp1 n1 k1);refine(ze1 (w.heap.size+1) sp1 n1 k1 ([]++za2 t) v _ (za hn1) ho1 (by have:=za hl6;simp only[List.nil_append];omega) (by omega) (by exact Nat.le_trans (Nat.le_of_eq (za hsz).symm) hb1.size)).mono ?_;rintro e W2 ⟨sp2,n2,k2,rfl,hn2,ho2,hb2⟩))
 rw[List.nil_append] at hn2 ho2;have HF:=zaa ((za bA).drew.trans ((hb1.trans hb2).mono (Nat.le_succ _)));have HO:=zaa (ho2.mono (Nat.le_succ _));clear hb1 hb2 ho1 ho2 hn1
 go_wp2
 go_ret2
 exact⟨sp2,n2,k2,rfl,hn2,za HO,za HF⟩
theorem zvd (t v:Int) (w:World) (h:¬ (0≤t∧t≤1099511627776∧0≤v∧v≤9)) :
  Calls Tryz.prog 111 #[.agg #[.int .i64 t,.int .i64 v]] w fun e w'=>e=.returned (.tuple #[.slice none 0 0,.int .i64 2])∧Below w.heap.size w w':=by
 have h0:=zad w (.cells #[.int .i64 t,.int .i64 v] 29);have c0:(w.alloc (.cells #[.int .i64 t,.int .i64 v] 29)).cell? ⟨w.heap.size,0,none⟩=some (.int .i64 t):=by rw[cell_of_row _ _ 0 _ _ _ h0];rfl
 have c1:(w.alloc (.cells #[.int .i64 t,.int .i64 v] 29)).cell? ⟨w.heap.size,1,none⟩=some (.int .i64 v):=by rw[cell_of_row _ _ 1 _ _ _ h0];rfl
 have bA:=zaa (show Below w.heap.size w (w.alloc (.cells #[.int .i64 t,.int .i64 v] 29)) from(Below.refl _ _).alloc (Nat.le_refl _) _);have H:=zaa h;clear h0 h;go_enter Tryz.func111,Tryz.ntmps111
 go_wp2_with fail
 generalize w.alloc _=W at *;by_cases ht:0≤t∧t≤1099511627776
 ·have hv:¬ (0≤v∧v≤9):=fun hv=>za H ⟨ht.1,ht.2,hv.1,hv.2⟩;refine(zb6 t 0 1099511627776 _ ht).mono ?_;rintro e w1 ⟨rfl,rfl⟩;have HV:=zaa hv;clear hv
  go_wp2_with fail
  refine(zf6 v 0 9 _ (za HV)).mono ?_;rintro e w2 ⟨rfl,rfl⟩
  go_wp2
  go_ret2
  exact⟨rfl,za bA⟩
 ·refine(zf6 t 0 1099511627776 _ ht).mono ?_;rintro e w1 ⟨rfl,rfl⟩;clear ht
  go_wp2
  go_ret2
  exact⟨rfl,za bA⟩
structure Kept (R N:Nat) (w w':World):Prop where
 os:w'.os=w.os
 tape:w'.tape=w.tape
 output:w'.output=w.output
 size:w.heap.size≤w'.heap.size
 block:∀ j,j<w.heap.size→j≠R→j≠N→w'.heap[j]? = w.heap[j]?
theorem Kept.ofGrown {R N:Nat} {w w':World} (h:w.grownBy w' (some R)):Kept R N w w' :=
 ⟨h.os,h.tape,h.output,h.size,fun j hj hR _=>h.block j hj (fun e=>hR (Option.some.inj e))⟩
theorem Kept.ofGrown' {R N:Nat} {w w':World} (h:w.grownBy w' (some N)):Kept R N w w' :=
 ⟨h.os,h.tape,h.output,h.size,fun j hj _ hN=>h.block j hj (fun e=>hN (Option.some.inj e))⟩
theorem Kept.trans {R N:Nat} {a b c:World} (h:Kept R N a b) (k:Kept R N b c):Kept R N a c :=
 ⟨k.os.trans h.os,k.tape.trans h.tape,k.output.trans h.output,Nat.le_trans h.size k.size,fun j hj h1 h2=>(k.block j (Nat.lt_of_lt_of_le hj h.size) h1 h2).trans (h.block j hj h1 h2)⟩
theorem Kept.below {R N B:Nat} {w w':World} (h:Kept R N w w') (hB:B≤w.heap.size) (hR:B≤R) (hN:B≤N):Below B w w' :=
 ⟨h.os,h.tape,h.output,h.size,fun j hj=>h.block j (by omega) (by omega) (by omega)⟩
theorem ztr {w W:World} {a:Option Addr} {c:Nat} {l:List Nat} {k R:Nat} (hb:BytesAt w a l) (hW:Below w.heap.size w W) (hR:w.heap.size≤R) (hblk:W.heap[R]? = some (.cells #[.slice a l.length c,.int .i64 (k:Int)] 239 (0,0))) (hk:k≤l.length):RdAt R W a c l k :=
 ⟨hblk,hb.later hW,fun b off h0 e=>by have:=zfe hb h0 b off e;omega,hk⟩
theorem RdAt.later {R:Nat} {w w':World} {a:Option Addr} {c:Nat} {l:List Nat} {k:Nat} (h:RdAt R w a c l k) (hb:Below w.heap.size w w'):RdAt R w' a c l k :=
 ⟨(hb.block R (Array.getElem?_eq_some_iff.1 h.blk).1).trans h.blk,h.bytes.later hb,h.low,h.le⟩
theorem RdAt.lt {R:Nat} {w:World} {a:Option Addr} {c:Nat} {l:List Nat} {k:Nat} (h:RdAt R w a c l k):R<w.heap.size:=(Array.getElem?_eq_some_iff.1 h.blk).1
theorem zah {w w':World} {R j:Nat} {o:Obj} (hg:w.grownBy w' (some R)) (hj:w.heap[j]? = some o) (hne:j≠R):w'.heap[j]? = some o :=
 (hg.block j (Array.getElem?_eq_some_iff.1 hj).1 (fun e=>hne (Option.some.inj e))).trans hj
theorem RdAt.far {R:Nat} {w w':World} {a:Option Addr} {c:Nat} {l:List Nat} {k j:Nat} (h:RdAt R w a c l k) (hg:w.grownBy w' (some j)) (hj:j≠R) (hb:∀ b off,0<l.length→a=some ⟨b,off,none⟩→b≠j):RdAt R w' a c l k:=by
 refine⟨zah hg h.blk (fun e=>hj e.symm),⟨h.bytes.lt,fun i hi=>?_⟩,h.low,h.le⟩;obtain⟨b,off,h1,h2⟩:=h.bytes.cell i hi;refine⟨b,off,h1,?_⟩;rw[hg.cell_far ⟨b,off+i,none⟩ (World.block_lt_of_cell? _ _ h2) (by simpa using hb b off (by omega) h1)];exact h2
theorem zch {w w1 w2:World} {R j:Nat} (h:w.grownBy w1 (some R)) (k:w1.grownBy w2 (some j)) (hj:w.heap.size≤j):w.grownBy w2 (some R) :=
 ⟨k.os.trans h.os,k.tape.trans h.tape,k.output.trans h.output,Nat.le_trans h.size k.size,fun i hi hne=>(k.block i (Nat.lt_of_lt_of_le hi h.size) (fun e=>by have:=Option.some.inj e;omega)).trans (h.block i hi hne)⟩
theorem zaz {w:World} {j:Nat} {x y:Value} {T:TypeId} (h:w.heap[j]? = some (.cells #[x,y] T (0,0))):w.cell? ⟨j,0,none⟩=some x∧w.cell? ⟨j,1,none⟩=some y∧w.frozen? ⟨j,0,none⟩=false∧w.frozen? ⟨j,1,none⟩=false:=by
 refine⟨?_,?_,?_,?_⟩
 ·rw[cell_of_row _ _ _ _ _ _ h];rfl
 ·rw[cell_of_row _ _ _ _ _ _ h];rfl
 ·simp[World.frozen?,h]
 ·simp[World.frozen?,h]
theorem zBm (R:Nat) (a:Option Addr) (c:Nat) (l:List Nat) (k:Nat) (w:World) (h:RdAt R w a c l k) (hl:l.length≤maxLen) :
  Calls Tryz.prog 213 #[.pointer (some ⟨R,0,none⟩)] w (zAn R a c l w (fun (p:Nat×Nat) _ v=>v=.agg #[.int .i64 (p.1:Int),.int .i64 (p.2:Int)]) (zd9 l k)):=by
 have HL:=zaa hl;have b2:Below w.heap.size w ((w.alloc (.cells #[.int .i64 0,.int .i64 0] 29)).alloc (.cells #[.int .i64 0,.int .i64 0] 29)):=((Below.refl _ _).alloc (Nat.le_refl _) _).alloc (by rw[size_alloc];omega) _;have HR:=zaa (h.later b2);have Hlt:=zaa h.lt;have HBlt:=zaa (fun b off h0 e=>zfe h.bytes h0 b off e);have HG:=zaa (zb0 (some R) b2);have h1:=zbp (.cells #[.int .i64 0,.int .i64 0] 29) (zad w (.cells #[.int .i64 0,.int .i64 0] 29));have h2:=zad (w.alloc (.cells #[.int .i64 0,.int .i64 0] 29)) (.cells #[.int .i64 0,.int .i64 0] 29);rw[size_alloc] at h2;have H1:=zaa h1;have H2:=zaa h2;clear h hl b2 h1 h2;go_enter Tryz.func213,Tryz.ntmps213
 go_wp2_with fail
 generalize (w.alloc (.cells #[.int .i64 0,.int .i64 0] 29)).alloc (.cells #[.int .i64 0,.int .i64 0] 29)=W at *;refine(zkb R a c l k W (za HR) (za HL)).mono ?_;rintro e W1 ⟨hg1,hm1⟩;have G1:=zaa (zag (za HG) hg1);cases ht1:zbh l k with
 |error x =>
  rw[ht1] at hm1;obtain rfl:=hm1
  go_wp2
  refine⟨rfl,za G1,?_⟩;rw[zd9,ht1]
 |ok p =>
  obtain⟨t,k2⟩:=p;rw[ht1] at hm1;obtain⟨⟨v,rfl,rfl⟩,hr1⟩:=hm1;have q1:=zah hg1 (za H1) (by have:=za Hlt;omega);have q2:=zah hg1 (za H2) (by have:=za Hlt;omega);obtain⟨c0,c1,f0,f1⟩:=zaz q2;have q3:=heap_setCell_same W1 (w.heap.size+1) 0 _ 29 (.int .i64 (t:Int)) q2;have gs:=zaf W1 (w.heap.size+1) 0 (.int .i64 (t:Int));have q1':=zah gs q1 (by omega);have G1':=zaa (zch (za G1) gs (by omega));have hr1':=zaa (hr1.far gs (by have:=za Hlt;omega) (fun b off h0 e=>by have:=za HBlt b off h0 e;omega));have Q1:=zaa q1';have Q3:=zaa q3;clear q1 q2 q3 gs q1' hg1 hr1 G1
  go_wp2_with fail
  generalize W1.setCell ⟨w.heap.size+1,0,none⟩ (.int .i64 (t:Int))=W2 at *;clear c0 c1 f0 f1;refine(zkb R a c l k2 W2 (za hr1') (za HL)).mono ?_;rintro e W3 ⟨hg3,hm3⟩;have G3:=zaa (zag (za G1') hg3);cases ht2:zbh l k2 with
  |error x =>
   rw[ht2] at hm3;obtain rfl:=hm3
   go_wp2
   refine⟨rfl,za G3,?_⟩;rw[zd9,ht1];simp only[ht2]
  |ok p =>
   obtain⟨v,k3⟩:=p;rw[ht2] at hm3;obtain⟨⟨_,rfl,rfl⟩,hr3⟩:=hm3;have q1:=zah hg3 (za Q1) (by have:=za Hlt;omega);have q2:=zah hg3 (za Q3) (by have:=za Hlt;omega);obtain⟨c0,c1,f0,f1⟩:=zaz q2;have q4:=heap_setCell_same W3 (w.heap.size+1) 1 _ 29 (.int .i64 (v:Int)) q2;have gs:=zaf W3 (w.heap.size+1) 1 (.int .i64 (v:Int));have q1':=zah gs q1 (by omega);have G4:=zaa (zch (za G3) gs (by omega));have hr4:=zaa (hr3.far gs (by have:=za Hlt;omega) (fun b off h0 e=>by have:=za HBlt b off h0 e;omega));obtain⟨d0,d1,_,_⟩:=zaz q4;obtain⟨g0,g1,e0,e1⟩:=zaz q1';have Q5:=zaa q1';clear q1 q2 q4 gs q1' hg3 hr3 G3 Q1 Q3 c0 f0;by_cases h9:9<v
   ·go_wp2_with fail
    refine(za0 4 _).mono ?_;rintro e W5 ⟨rfl,rfl⟩
    go_wp2
    refine⟨rfl,za G4,?_⟩;rw[zd9,ht1];simp only[ht2,if_pos h9]
   ·go_wp2_with fail
    generalize W3.setCell ⟨w.heap.size+1,1,none⟩ (.int .i64 (v:Int))=W4 at *;have q5:=heap_setCell_same W4 w.heap.size 0 _ 29 (.int .i64 (t:Int)) (za Q5);have q6:=heap_setCell_same _ w.heap.size 1 _ 29 (.int .i64 (v:Int)) q5;have s5:=zaf W4 w.heap.size 0 (.int .i64 (t:Int));have s6:=zaf (W4.setCell ⟨w.heap.size,0,none⟩ (.int .i64 (t:Int))) w.heap.size 1 (.int .i64 (v:Int));have s7:=zag s5 s6;generalize (W4.setCell ⟨w.heap.size,0,none⟩ (.int .i64 (t:Int))).setCell ⟨w.heap.size,1,none⟩ (.int .i64 (v:Int))=W6 at *;obtain⟨z0,z1,_,_⟩:=zaz q6;refine bodyPost_ret (v:=.agg #[.int .i64 (t:Int),.int .i64 (v:Int)]) (by simp[results,Tryz.results213,go_sem,z0,z1]) rfl ?_;refine⟨zch (za G4) s7 (Nat.le_refl _),?_⟩;rw[zd9,ht1];simp only[ht2,if_neg h9];exact⟨⟨_,rfl,rfl⟩,(za hr4).far s7 (by have:=za Hlt;omega) (fun b off h0 e=>by have:=za HBlt b off h0 e;omega)⟩
theorem zBk (R:Nat) (a:Option Addr) (c:Nat) (l:List Nat) (k:Nat) (w:World) (h:RdAt R w a c l k) :
  Calls Tryz.prog 214 #[.pointer (some ⟨R,0,none⟩)] w fun e w'=>w.grownBy w' (some R)∧(k<l.length∧e=.panicked (given 4)∨¬ k<l.length∧e=.returned (.tuple #[])):=by
 by_cases hk:k<l.length
 ·refine(zy4 R a c l k w h hk).mono ?_;rintro e w' ⟨rfl,_,hg⟩;exact⟨hg,.inl ⟨hk,rfl⟩⟩
 ·refine(zBl R a c l k w h (Nat.le_antisymm h.le (by omega))).mono ?_;rintro e w' ⟨rfl,_,hg⟩;exact⟨hg,.inr ⟨hk,rfl⟩⟩
def zyo (R G:Nat) (w:World) (r:Except Nat (Nat×Nat)) (e:Ending) (w':World):Prop :=
 Kept R G w w' ∧
 match r with
 |.ok (t,v)=>e=.returned (.tuple #[])∧w'.heap[G]? = some (.cells #[.int .i64 (t:Int),.int .i64 (v:Int)] 29 (0,0))
 |.error x=>e=.panicked (given x)
theorem ztf {w w1 w2:World} {R G:Nat} (h:w.grownBy w1 (some R)) (k:w1.grownBy w2 (some G)):Kept R G w w2:=(Kept.ofGrown h).trans (Kept.ofGrown' k)
theorem zu3 (R G:Nat) (x y:Value) (a:Option Addr) (c:Nat) (l:List Nat) (k:Nat) (w:World) (h:RdAt R w a c l k) (hl:l.length≤maxLen) (hG:w.heap[G]? = some (.cells #[x,y] 29 (0,0))) (hne:G≠R) (hbG:∀ b off,0<l.length→a=some ⟨b,off,none⟩→b≠G) :
  Calls Tryz.prog 212 #[.pointer (some ⟨R,0,none⟩),.pointer (some ⟨G,0,none⟩)] w (zyo R G w (za6 l (zd9 l k))):=by
 have HL:=zaa hl;have HR:=zaa h;have HG:=zaa hG;have HB:=zaa hbG;clear h hl hG hbG;go_enter Tryz.func212,Tryz.ntmps212
 go_wp2_with fail
 refine(zBm R a c l k _ (za HR) (za HL)).mono ?_;rintro e W1 ⟨hg1,hm1⟩;have G1:=zaa hg1;cases ht1:zd9 l k with
 |error x =>
  rw[ht1] at hm1;obtain rfl:=hm1
  go_wp2
  refine⟨rfl,Kept.ofGrown (za G1),?_⟩;simp only[za6]
 |ok p =>
  obtain⟨⟨t,v⟩,k2⟩:=p;rw[ht1] at hm1;obtain⟨⟨_,rfl,rfl⟩,hr1⟩:=hm1;have q1:=zah hg1 (za HG) hne;obtain⟨c0,c1,f0,f1⟩:=zaz q1;have q5:=heap_setCell_same W1 G 0 _ 29 (.int .i64 (t:Int)) q1;have q6:=heap_setCell_same _ G 1 _ 29 (.int .i64 (v:Int)) q5;have s7:=zag (zaf W1 G 0 (.int .i64 (t:Int))) (zaf (W1.setCell ⟨G,0,none⟩ (.int .i64 (t:Int))) G 1 (.int .i64 (v:Int)));have hr2:=zaa (hr1.far s7 hne (za HB));have K2:=zaa (ztf (za G1) s7);have Q6:=zaa q6;clear q1 q5 q6 s7 hr1 hg1 G1;simp only
  go_wp2_with fail
  generalize (W1.setCell ⟨G,0,none⟩ (.int .i64 (t:Int))).setCell ⟨G,1,none⟩ (.int .i64 (v:Int))=W2 at *;clear c0 c1 f0 f1;refine(zBk R a c l k2 W2 (za hr2)).mono ?_;rintro e W3 ⟨hg3,⟨hk,rfl⟩|⟨hk,rfl⟩⟩
  ·have K3:=zaa ((za K2).trans (Kept.ofGrown hg3));clear hg3
   go_wp2
   refine⟨rfl,za K3,?_⟩;simp only[za6,if_pos hk]
  ·have K3:=zaa ((za K2).trans (Kept.ofGrown hg3));have Q7:=zaa (zah hg3 (za Q6) hne);clear hg3
   go_wp2
   go_end0
   refine⟨za K3,?_⟩;simp only[ht1,za6,if_neg hk];exact⟨trivial,za Q7⟩
theorem zur (c:Array Value) (w:World):(callFunc 212 c).run Tryz.prog w=.ok (.enter 212 c) w:=by
 simp[callFunc,go_sem,Tryz.func212];rw[if_neg (by decide +kernel),if_neg (fun h=>by cases h)]
theorem zpy {x y:Nat} (h:Ending.panicked (given x)=.panicked (given y)):x=y:=by
 simp only[given,Ending.panicked.injEq,List.cons.injEq,PanicEntry.mk.injEq,Value.iface.injEq,Value.agg.injEq,and_true,true_and] at h;have:=congrArg (fun z:Array Value=>z[0]?) h;simp at this;omega
def zj4 (r:Except Nat (Nat×Nat)):Value :=
 match r with
 |.ok (t,v)=>.tuple #[.agg #[.int .i64 (t:Int),.int .i64 (v:Int)],.int .i64 0]
 |.error x=>.tuple #[.agg #[.int .i64 0,.int .i64 0],.int .i64 (x:Int)]
theorem zn6 (a:Option Addr) (m c:Nat) (l:List Nat) (w:World) (hm:l.length=m) (hl:l.length≤maxLen) (hb:BytesAt w a l) :
  Calls Tryz.prog 191 #[.slice a m c] w fun e w'=>e=.returned (zj4 (za6 l (zd9 l 0)))∧Below w.heap.size w w':=by
 subst hm;have HB:=zaa hb;have HL:=zaa hl;clear hb hl;have hmf:∀ (fn:Fn) (first cap:Array Value) (w:World),(Instr.makeFunc fn first cap).run Tryz.prog w=.ok (.func fn first cap) w:=fun _ _ _ _=>rfl;go_enter Tryz.func191,Tryz.ntmps191
 go_wp2_with fail
 have h0:=zad w (.cells #[.int .i64 0,.int .i64 0] 29);have h1:=zad (w.alloc (.cells #[.int .i64 0,.int .i64 0] 29)) (.cells #[.int .i64 0,.int .i64 0] 29);have h2:=zad ((w.alloc (.cells #[.int .i64 0,.int .i64 0] 29)).alloc (.cells #[.int .i64 0,.int .i64 0] 29)) (.cells #[.slice a l.length c,.int .i64 0] 239);have k0:=zbp (.cells #[.slice a l.length c,.int .i64 0] 239) (zbp (.cells #[.int .i64 0,.int .i64 0] 29) h0);have k1:=zbp (.cells #[.slice a l.length c,.int .i64 0] 239) h1;rw[size_alloc] at k1;rw[size_alloc,size_alloc] at h2;have hbl:Below w.heap.size w (((w.alloc (.cells #[.int .i64 0,.int .i64 0] 29)).alloc (.cells #[.int .i64 0,.int .i64 0] 29)).alloc (.cells #[.slice a l.length c,.int .i64 0] 239)) :=
  (((Below.refl _ _).alloc (Nat.le_refl _) _).alloc (by rw[size_alloc];omega) _).alloc (by rw[size_alloc,size_alloc];omega) _
 have hsz:(((w.alloc (.cells #[.int .i64 0,.int .i64 0] 29)).alloc (.cells #[.int .i64 0,.int .i64 0] 29)).alloc (.cells #[.slice a l.length c,.int .i64 0] 239)).heap.size=w.heap.size+3:=by rw[size_alloc,size_alloc,size_alloc]
 generalize ((w.alloc (.cells #[.int .i64 0,.int .i64 0] 29)).alloc (.cells #[.int .i64 0,.int .i64 0] 29)).alloc (.cells #[.slice a l.length c,.int .i64 0] 239)=W at *;clear h0 h1;have hbl2:Below w.heap.size w (W.alloc (.cells #[.int .i64 0] 48)):=hbl.alloc hbl.size _;have hE:=zad W (.cells #[.int .i64 0] 48);have hr:RdAt (w.heap.size+1+1) (W.alloc (.cells #[.int .i64 0] 48)) a c l 0:=ztr (za HB) hbl2 (by omega) (zbp _ h2) (Nat.zero_le _);have hG:=zbp (.cells #[.int .i64 0] 48) k1;have hres:=zbp (.cells #[.int .i64 0] 48) k0;refine(zff 212 _ W zur _ (zu3 (w.heap.size+1+1) (w.heap.size+1) _ _ a c l 0 _ hr (za HL) hG (by omega) (fun b off h0 e=>by have:=zfe (za HB) h0 b off e;omega)) ?_ ?_).mono ?_
 ·rintro e w1 ⟨hk1,_⟩;exact(hk1.block _ (by rw[size_alloc];omega) (by omega) (by omega)).trans hE
 ·rintro e w1 ⟨_,hm1⟩;cases ht:za6 l (zd9 l 0) with
  |error x=>rw[ht] at hm1;exact .inr ⟨x,hm1⟩
  |ok p=>obtain⟨t,v⟩:=p;rw[ht] at hm1;exact .inl hm1.1
 ·rintro e w2 ⟨e1,w1,⟨hk1,hm1⟩,hg,he⟩;have HF:=zaa ((hbl2.trans (hk1.below (by rw[size_alloc];omega) (by omega) (by omega))).trans ((Below.refl w.heap.size w1).grown hg (by have:=hk1.size;rw[size_alloc] at this;omega) (fun j e=>by have:=Option.some.inj e;omega)));have r2:=zah hg ((hk1.block _ (by rw[size_alloc];omega) (by omega) (by omega)).trans hres) (by omega);obtain⟨p0,p1,f0,f1⟩:=zaz r2;have HR2:=zaa r2;clear r2 hE hr hres hbl2 hbl h2 k0 k1 hG;cases ht:za6 l (zd9 l 0) with
  |error x =>
   rw[ht] at hm1;obtain rfl:=hm1;obtain⟨y,hy,rfl⟩:=he.resolve_left (fun h=>by cases h.1);obtain rfl:=zpy hy;have hx0:¬ (x:Int)=0:=by have:=zez ht (fun y hy=>zkr hy);omega
   clear hy he hk1 hg
   go_wp2_with fail
   have q5:=heap_setCell_same w2 w.heap.size 0 _ 29 (.int .i64 0) (za HR2);have q6:=heap_setCell_same _ w.heap.size 1 _ 29 (.int .i64 0) q5;obtain⟨z0,z1,_,_⟩:=zaz q6;refine bodyPost_ret (v:=zj4 (.error x)) (by simp[results,Tryz.results191,go_sem,z0,z1,zj4]) rfl ?_;exact⟨by rw[ht],((za HF).setCell (p:=⟨w.heap.size,0,none⟩) (Nat.le_refl _) _).setCell (p:=⟨w.heap.size,1,none⟩) (Nat.le_refl _) _⟩
  |ok p =>
   obtain⟨t,v⟩:=p;rw[ht] at hm1;obtain⟨rfl,hgot⟩:=hm1;obtain⟨_,rfl⟩:=he.resolve_right (fun ⟨_,h,_⟩=>by cases h);obtain⟨g0,g1,_,_⟩:=zaz (zah hg hgot (by omega));clear he hk1 hg hgot
   go_wp2_with fail
   have q5:=heap_setCell_same w2 w.heap.size 0 _ 29 (.int .i64 (t:Int)) (za HR2);have q6:=heap_setCell_same _ w.heap.size 1 _ 29 (.int .i64 (v:Int)) q5;obtain⟨z0,z1,_,_⟩:=zaz q6;refine bodyPost_ret (v:=zj4 (.ok (t,v))) (by simp[results,Tryz.results191,go_sem,z0,z1,zj4]) rfl ?_;exact⟨by rw[ht],((za HF).setCell (p:=⟨w.heap.size,0,none⟩) (Nat.le_refl _) _).setCell (p:=⟨w.heap.size,1,none⟩) (Nat.le_refl _) _⟩
theorem zab {w:World} {j:Nat} {cs:Array Value} {T:TypeId} (h:w.heap[j]? = some (.cells cs T (0,0))) (f:Nat) (v:Value) (hv:cs[f]? = some v):w.cell? ⟨j,f,none⟩=some v:=by
 rw[cell_of_row _ _ _ _ _ _ h,hv]
theorem zac {w w':World} {j:Nat} {o:Obj} (hb:Below w.heap.size w w') (h:w.heap[j]? = some o):w'.heap[j]? = some o:=(hb.block j (Array.getElem?_eq_some_iff.1 h).1).trans h
theorem zbj {W:World} {E:Nat} {cs:Array Value} {t:Nat} (h:W.heap[E]? = some (.cells cs t (0,0))) (i:Nat):W.frozen? ⟨E,i,none⟩=false:=by simp[World.frozen?,h]
theorem zdy (W:World) {A B i k:Nat} (v:Value) (h:B≠A):(W.setCell ⟨A,i,none⟩ v).cell? ⟨B,k,none⟩=W.cell? ⟨B,k,none⟩ :=
 World.cell?_of_block (heap_setCell_other W ⟨A,i,none⟩ B v (fun e=>h (by simpa using e)))
end
end Go.Proofs.YtofllbpfajppeaaGreatDoor
