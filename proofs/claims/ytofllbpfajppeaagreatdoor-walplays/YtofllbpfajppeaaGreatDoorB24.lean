/- The document's log: what a record says (written by wip/mkwxe.py). -/
import Derived.Test.YtofllbpfajppeaaGreatDoorB22
import Derived.Test.YtofllbpfajppeaaGreatDoorB23
import Derived.Test.YtofllbpfajppeaaGreatDoorB14
import Derived.Test.YtofllbpfajppeaaGreatDoorB07
import Derived.Lib.SmallJoins
import Derived.OpenShut
set_option linter.unusedVariables false
set_option maxRecDepth 20000
set_option maxHeartbeats 16000000
namespace Go.Proofs.YtofllbpfajppeaaGreatDoor
section
open Go.ChangeShapes Go.WideShapes Go.ChangeAt Go.RowKit
theorem znf (x:Nat) (l:List Nat):∀ f s n k,zd6 (x::l) f s n (k+1)=((zd6 l f s n k).1,(zd6 l f s n k).2.1,(zd6 l f s n k).2.2+1)
 |0,s,n,k=>rfl
 |f+1,s,n,k=>by
  rw[zd6,zd6];simp only[List.length_cons,Nat.add_le_add_iff_right,List.getD_cons_succ];split
  ·rfl
  split
  ·split
   ·rfl
   ·exact znf x l f _ _ _
  split
  ·rfl
  split
  ·rfl
  ·rfl
theorem zhq (x:Nat) (l:List Nat) (k:Nat):zbh (x::l) (k+1)=match zbh l k with
  |.ok (n,k2)=>.ok (n,k2+1)
  |.error e=>.error e:=by
 unfold zbh zdw;rw[znf];dsimp only;split <;> rfl
theorem EntsIn.nil (P:Nat→Prop) (w:World) (a:Option Addr):EntsIn P w a []:=⟨⟨fun i hi=>by simp at hi⟩,fun b off e h0=>by simp at h0,fun i hi=>by simp at hi⟩
theorem znl {u:World} {j:Nat} {x0 x1 x2 x3 x4:Value} {T:TypeId} (h:u.heap[j]? = some (.cells #[x0,x1,x2,x3,x4] T (0,0))) (a b:Value):∃ W,W.heap[j]? = some (.cells #[x0,x1,a,b,x4] T (0,0))∧u.grownBy W (some j)∧(u.setCell ⟨j,2,none⟩ a).setCell ⟨j,3,none⟩ b=W:=by
 have h1:=heap_setCell_same u j 2 _ T a h;have h2:=heap_setCell_same _ j 3 _ T b h1;exact⟨_,h2,zag (zaf u j 2 a) (zaf _ j 3 b),rfl⟩
def zi7 (P:Nat→Prop) (w:World) (r:Option Wc) (e:Ending) (w':World):Prop:=Below w.heap.size w w'∧(match r with
 |none=>∃ (v0 v1 v2 v3:Int) (p:Option Addr) (m q:Nat),e=.returned (.tuple #[.agg #[.int .i64 v0,.int .i64 v1,.int .i64 v2,.int .i64 v3,.slice p m q],.bool false])
 |some c'=>∃ sp k,e=.returned (.tuple #[.agg (zb1 c' sp k),.bool true])∧EntsIn (fun g=>P g∨(w.heap.size≤g∧g<w'.heap.size)) w' sp (c'.es.map toI))
section
variable {P:Nat→Prop} {c:Wc} {sp:Option Addr} {k:Nat} {w:World}
theorem zsm (hE:EntsIn P w sp (c.es.map toI)) (hix:Ix c) (hb:c.bi≤1099511627776) (hl:c.es.length≤1048576) (a:Option Addr) (n q:Nat) (l:List Nat) (hn:l.length=n) (hm:n≤140737488355328) (hnq:n≤q) (hz:a=none→q=0) (hB:BytesAt w a l) :
  Calls Tryz.prog 101 #[.agg (zb1 c sp k),.slice a n q] w (zi7 P w (zcz c l)):=by
 unfold zb1;have HE:=zaa hE;generalize hen:c.es.length=en at *;have HEN:=zaa hen;have A1:Below w.heap.size w (w.alloc (.cells #[.int .i64 (c.bi:Int),.int .i64 (c.bt:Int),.int .i64 (c.ht:Int),.int .i64 (c.hv:Int),.slice sp en k] 51)):=(Below.refl _ _).alloc (Nat.le_refl _) _;have A2:Below (w.alloc (.cells #[.int .i64 (c.bi:Int),.int .i64 (c.bt:Int),.int .i64 (c.ht:Int),.int .i64 (c.hv:Int),.slice sp en k] 51)).heap.size (w.alloc (.cells #[.int .i64 (c.bi:Int),.int .i64 (c.bt:Int),.int .i64 (c.ht:Int),.int .i64 (c.hv:Int),.slice sp en k] 51)) ((w.alloc (.cells #[.int .i64 (c.bi:Int),.int .i64 (c.bt:Int),.int .i64 (c.ht:Int),.int .i64 (c.hv:Int),.slice sp en k] 51)).alloc (.cells #[.int .i64 0,.int .i64 0,.int .i64 0,.int .i64 0,.slice none 0 0] 51)):=(Below.refl _ _).alloc (Nat.le_refl _) _;have hs1:(w.alloc (.cells #[.int .i64 (c.bi:Int),.int .i64 (c.bt:Int),.int .i64 (c.ht:Int),.int .i64 (c.hv:Int),.slice sp en k] 51)).heap.size=w.heap.size+1:=by simp
 have X1:=zaa (zac A2 (zad w (.cells #[.int .i64 (c.bi:Int),.int .i64 (c.bt:Int),.int .i64 (c.ht:Int),.int .i64 (c.hv:Int),.slice sp en k] 51)));have X2:=zaa (zad (w.alloc (.cells #[.int .i64 (c.bi:Int),.int .i64 (c.bt:Int),.int .i64 (c.ht:Int),.int .i64 (c.hv:Int),.slice sp en k] 51)) (.cells #[.int .i64 0,.int .i64 0,.int .i64 0,.int .i64 0,.slice none 0 0] 51));rw[hs1] at X2;have B2:=zaa (A1.trans (A2.mono A1.size));have S2:=zaa (show((w.alloc (.cells #[.int .i64 (c.bi:Int),.int .i64 (c.bt:Int),.int .i64 (c.ht:Int),.int .i64 (c.hv:Int),.slice sp en k] 51)).alloc (.cells #[.int .i64 0,.int .i64 0,.int .i64 0,.int .i64 0,.slice none 0 0] 51)).heap.size=w.heap.size+2 by simp);have X5:=zaa (zad (w.alloc (.cells #[.int .i64 (c.bi:Int),.int .i64 (c.bt:Int),.int .i64 (c.ht:Int),.int .i64 (c.hv:Int),.slice sp en k] 51)) (.cells #[.int .i64 (c.bi:Int),.int .i64 (c.bt:Int),.int .i64 (c.ht:Int),.int .i64 (c.hv:Int),.slice sp en k] 51));rw[hs1] at X5;have B5:=zaa (show Below w.heap.size w ((w.alloc (.cells #[.int .i64 (c.bi:Int),.int .i64 (c.bt:Int),.int .i64 (c.ht:Int),.int .i64 (c.hv:Int),.slice sp en k] 51)).alloc (.cells #[.int .i64 (c.bi:Int),.int .i64 (c.bt:Int),.int .i64 (c.ht:Int),.int .i64 (c.hv:Int),.slice sp en k] 51)) from((Below.refl _ _).alloc (Nat.le_refl _) _).alloc (by first|(simp;done)|(simp;omega)) _);have HIX:=zaa hix;clear A1 A2 hs1 hE hix hen;have NOV:=zaa (show ∀ l',zcz c l'=none→zi7 P w (zcz c l') (.returned (.tuple #[.agg #[.int .i64 (c.bi:Int),.int .i64 (c.bt:Int),.int .i64 (c.ht:Int),.int .i64 (c.hv:Int),.slice sp en k],.bool false])) ((w.alloc (.cells #[.int .i64 (c.bi:Int),.int .i64 (c.bt:Int),.int .i64 (c.ht:Int),.int .i64 (c.hv:Int),.slice sp en k] 51)).alloc (.cells #[.int .i64 (c.bi:Int),.int .i64 (c.bt:Int),.int .i64 (c.ht:Int),.int .i64 (c.hv:Int),.slice sp en k] 51)) from fun l' h=>by rw[h];exact⟨za B5,_,_,_,_,_,_,_,rfl⟩)
 have r0:=zab (za X5) 0 _ rfl;have r1:=zab (za X5) 1 _ rfl;have r2:=zab (za X5) 2 _ rfl;have r3:=zab (za X5) 3 _ rfl;have r4:=zab (za X5) 4 _ rfl;have a0:=zab (za X1) 0 _ rfl;have a1:=zab (za X1) 1 _ rfl;have a2:=zab (za X1) 2 _ rfl;have a3:=zab (za X1) 3 _ rfl;have a4:=zab (za X1) 4 _ rfl;cases l with
 |nil =>
  as_aux_lemma =>
  subst hn;have FF:=zaa (za NOV [] rfl);clear hB hz hnq hm;go_enter Tryz.func101,Tryz.ntmps101
  go_wp2_with fail
  refine bodyPost_ret (v:=.tuple #[.agg #[.int .i64 (c.bi:Int),.int .i64 (c.bt:Int),.int .i64 (c.ht:Int),.int .i64 (c.hv:Int),.slice sp en k],.bool false]) (by simp[results,Tryz.results101,go_sem,r0,r1,r2,r3,r4]) rfl ?_;exact za FF
 |cons kd l =>
  obtain⟨bb,off,hoff,hcell⟩:=hB.cell 0 (by simp);have hkd:=hB.lt kd (by simp);have hln:l.length=n - 1:=by rw[← hn];simp
  have hn1:1≤n:=by rw[← hn];simp
  have hbt:BytesAt w (slp a 1 q) l:=by
   have:=hB.drop 1 q (by rw[hn];exact hnq)
   simpa using this
  have hz':slp a 1 q=none→q - 1=0:=fun e=>by
   unfold slp at e;split at e
   ·rename_i h1
    omega
   ·subst hoff;cases e
  have hsl:=fun u=>zd2 a n q 1 hn1 u;have TR:=zaa (show zcz c (kd::l)=(if kd=1 then zjh c l else if kd=2 then zje c l else if kd=3 then zuq c l else none) from rfl);have HB:=zaa (fun V (u:Below w.heap.size w V)=>hB.later u);have HBT:=zaa (fun V (u:Below w.heap.size w V)=>hbt.later u);have HN:=zaa hn;have HLN:=zaa hln;have HZ:=zaa hz';rw[hoff] at hsl HB HBT HZ ⊢;rw[Nat.add_zero] at hcell;have hc2:w.cell? ⟨bb,off,none⟩=some (.int .u8 (kd:Int)):=hcell;have hc3:=cell_later (za B2) hc2;have hn0:((n:Int)==0)=false:=by simp;omega
  have hn2:(0:Int)<(n:Int):=by omega
  generalize slp (some ⟨bb,off,none⟩) 1 q=sl at *;clear hcell hB hbt hoff hln hz hz' hn;have hsl1:∀ u,(Instr.slice 62 (.slice (some ⟨bb,off,none⟩) n q) (some (.int .i64 1)) none none).run Tryz.prog u=.ok (.slice sl (n - 1) (q - 1)) u:=hsl;clear hsl hc2;have LSX:=zaa (show ∀ V,Below w.heap.size w V→w.heap.size≤V.heap.size from fun V u=>u.size);by_cases h1:kd=1
  ·rw[if_pos h1] at TR;subst h1;go_enter Tryz.func101,Tryz.ntmps101
   go_wp2_with fail
   clear hc3 r0 r1 r2 r3 r4 a0 a1 a2 a3 a4;generalize (w.alloc (.cells #[.int .i64 (c.bi:Int),.int .i64 (c.bt:Int),.int .i64 (c.ht:Int),.int .i64 (c.hv:Int),.slice sp en k] 51)).alloc (.cells #[.int .i64 0,.int .i64 0,.int .i64 0,.int .i64 0,.slice none 0 0] 51)=W2 at *;generalize hD:w.heap.size=D at *;have HDD:=zaa hD;clear hD X5 B5 NOV;unfold zjh at TR;go_at_call 131
   cases ht:zbh l 0 with
   |error x =>
    as_aux_lemma =>
    rw[ht] at TR;dsimp only at TR;have hx0:=zc ht;refine(zjx (c:=q) n 1 x 1 (za HN) rfl (by rw[za HN];exact hm) (by rw[za HN];exact hn1) (za HB _ (za B2)) (by rw[zhq,ht])).mono ?_;rintro e V1 ⟨rfl,rfl⟩;clear ht;have x1:¬ ((x:Nat):Int)=0:=by omega
    have x2:(((x:Nat):Int)==0)=false:=by simp;omega
    generalize ((x:Nat):Int)=xi at *;obtain⟨W,hwr,gW,hW⟩:=zbo (za X2) (.int .i64 (c.bi:Int)) (.int .i64 (c.bt:Int)) (.int .i64 (c.ht:Int)) (.int .i64 (c.hv:Int)) (.slice sp en k);have HW:=zaa hW;have BW:=zaa ((za B2).grown gW (by have:=za LSX _ (za B2);omega) (fun g hg=>by have:=Option.some.inj hg;omega))
    have FF:=zaa (show zi7 P w (zcz c (1::l)) (.returned (.tuple #[.agg #[.int .i64 (c.bi:Int),.int .i64 (c.bt:Int),.int .i64 (c.ht:Int),.int .i64 (c.hv:Int),.slice sp en k],.bool false])) W from by
     rw[za TR];refine⟨by rw[za HDD];exact za BW,?_⟩
     exact⟨_,_,_,_,_,_,_,rfl⟩)
    have r0:=zab (hwr) 0 _ rfl;have r1:=zab (hwr) 1 _ rfl;have r2:=zab (hwr) 2 _ rfl;have r3:=zab (hwr) 3 _ rfl;have r4:=zab (hwr) 4 _ rfl;have e0:=zab (za X2) 0 _ rfl;have e1:=zab (za X2) 1 _ rfl;have e2:=zab (za X2) 2 _ rfl;have e3:=zab (za X2) 3 _ rfl;have e4:=zab (za X2) 4 _ rfl;have f0:=zae (za X2) 0;have f1:=zae (za X2) 1;have f2:=zae (za X2) 2;have f3:=zae (za X2) 3;have f4:=zae (za X2) 4;have a0:=zab (za X1) 0 _ rfl;have a1:=zab (za X1) 1 _ rfl;have a2:=zab (za X1) 2 _ rfl;have a3:=zab (za X1) 3 _ rfl;have a4:=zab (za X1) 4 _ rfl;clear hW hwr gW
    go_wp2_with fail
    rw[za HW];refine bodyPost_ret (v:=.tuple #[.agg #[.int .i64 (c.bi:Int),.int .i64 (c.bt:Int),.int .i64 (c.ht:Int),.int .i64 (c.hv:Int),.slice sp en k],.bool false]) (by simp[results,Tryz.results101,go_sem,r0,r1,r2,r3,r4]) rfl ?_;exact za FF
   |ok r =>
    obtain⟨i,k1⟩:=r;rw[ht] at TR;dsimp only at TR;have hle:=zeu ht (fun c hc=>(za HBT _ (za B2)).lt c hc);have hk1:k1+1≤n:=by have h1:=hle.1;have h2:=za HLN;omega
    refine(zk8 (c:=q) n 1 i (k1+1) 1 (za HN) rfl (by rw[za HN];exact hm) (by rw[za HN];exact hn1) (za HB _ (za B2)) (by rw[zhq,ht])).mono ?_;rintro e V1 ⟨rfl,rfl⟩;clear hle ht;have HBV:=zaa (za HB _ (za B2));generalize hk2:((k1+1:Nat):Int)=kk at *;have HK2:=zaa hk2;clear hk2
    go_wp2_with fail
    go_at_call 131
    cases ht:zbh l k1 with
    |error x =>
     as_aux_lemma =>
     rw[ht] at TR;dsimp only at TR;have hx0:=zc ht;refine(zjx (c:=q) n (k1+1) x kk (za HN) (za HK2).symm (by rw[za HN];exact hm) (by rw[za HN];exact hk1) (za HBV) (by rw[zhq,ht])).mono ?_;rintro e V2 ⟨rfl,rfl⟩;clear ht;have x1:¬ ((x:Nat):Int)=0:=by omega
     have x2:(((x:Nat):Int)==0)=false:=by simp;omega
     generalize ((x:Nat):Int)=xi at *;obtain⟨W,hwr,gW,hW⟩:=zbo (za X2) (.int .i64 (i:Int)) (.int .i64 0) (.int .i64 (c.ht:Int)) (.int .i64 (c.hv:Int)) (.slice none 0 0);have HW:=zaa hW;have BW:=zaa ((za B2).grown gW (by have:=za LSX _ (za B2);omega) (fun g hg=>by have:=Option.some.inj hg;omega))
     have FF:=zaa (show zi7 P w (zcz c (1::l)) (.returned (.tuple #[.agg #[.int .i64 (i:Int),.int .i64 0,.int .i64 (c.ht:Int),.int .i64 (c.hv:Int),.slice none 0 0],.bool false])) W from by
      rw[za TR];refine⟨by rw[za HDD];exact za BW,?_⟩
      exact⟨_,_,_,_,_,_,_,rfl⟩)
     have r0:=zab (hwr) 0 _ rfl;have r1:=zab (hwr) 1 _ rfl;have r2:=zab (hwr) 2 _ rfl;have r3:=zab (hwr) 3 _ rfl;have r4:=zab (hwr) 4 _ rfl;have e0:=zab (za X2) 0 _ rfl;have e1:=zab (za X2) 1 _ rfl;have e2:=zab (za X2) 2 _ rfl;have e3:=zab (za X2) 3 _ rfl;have e4:=zab (za X2) 4 _ rfl;have f0:=zae (za X2) 0;have f1:=zae (za X2) 1;have f2:=zae (za X2) 2;have f3:=zae (za X2) 3;have f4:=zae (za X2) 4;have a0:=zab (za X1) 0 _ rfl;have a1:=zab (za X1) 1 _ rfl;have a2:=zab (za X1) 2 _ rfl;have a3:=zab (za X1) 3 _ rfl;have a4:=zab (za X1) 4 _ rfl;clear hW hwr gW
     go_wp2_with fail
     rw[za HW];refine bodyPost_ret (v:=.tuple #[.agg #[.int .i64 (i:Int),.int .i64 0,.int .i64 (c.ht:Int),.int .i64 (c.hv:Int),.slice none 0 0],.bool false]) (by simp[results,Tryz.results101,go_sem,r0,r1,r2,r3,r4]) rfl ?_;exact za FF
    |ok r =>
     obtain⟨t,k3⟩:=r;rw[ht] at TR;dsimp only at TR;have hle:=zeu ht (fun c hc=>(za HBT _ (za B2)).lt c hc);refine(zk8 (c:=q) n (k1+1) t (k3+1) kk (za HN) (za HK2).symm (by rw[za HN];exact hm) (by rw[za HN];exact hk1) (za HBV) (by rw[zhq,ht])).mono ?_;rintro e V2 ⟨rfl,rfl⟩;clear ht;have hk3:k3+1≤n:=by have h1:=hle.1;have h2:=za HLN;omega
     clear hle;by_cases h3:k3<l.length
     ·as_aux_lemma =>
      rw[if_pos h3] at TR;have x1:(((k3+1:Nat):Int)==(n:Int))=false:=by have h2:=za HLN;simp;omega
      generalize ((k3+1:Nat):Int)=ki at *;obtain⟨W,hwr,gW,hW⟩:=zbo (za X2) (.int .i64 (i:Int)) (.int .i64 (t:Int)) (.int .i64 (c.ht:Int)) (.int .i64 (c.hv:Int)) (.slice none 0 0);have HW:=zaa hW;have BW:=zaa ((za B2).grown gW (by have:=za LSX _ (za B2);omega) (fun g hg=>by have:=Option.some.inj hg;omega))
      have FF:=zaa (show zi7 P w (zcz c (1::l)) (.returned (.tuple #[.agg #[.int .i64 (i:Int),.int .i64 (t:Int),.int .i64 (c.ht:Int),.int .i64 (c.hv:Int),.slice none 0 0],.bool false])) W from by
       rw[za TR];refine⟨by rw[za HDD];exact za BW,?_⟩
       exact⟨_,_,_,_,_,_,_,rfl⟩)
      have r0:=zab (hwr) 0 _ rfl;have r1:=zab (hwr) 1 _ rfl;have r2:=zab (hwr) 2 _ rfl;have r3:=zab (hwr) 3 _ rfl;have r4:=zab (hwr) 4 _ rfl;have e0:=zab (za X2) 0 _ rfl;have e1:=zab (za X2) 1 _ rfl;have e2:=zab (za X2) 2 _ rfl;have e3:=zab (za X2) 3 _ rfl;have e4:=zab (za X2) 4 _ rfl;have f0:=zae (za X2) 0;have f1:=zae (za X2) 1;have f2:=zae (za X2) 2;have f3:=zae (za X2) 3;have f4:=zae (za X2) 4;have a0:=zab (za X1) 0 _ rfl;have a1:=zab (za X1) 1 _ rfl;have a2:=zab (za X1) 2 _ rfl;have a3:=zab (za X1) 3 _ rfl;have a4:=zab (za X1) 4 _ rfl;clear hW hwr gW
      go_wp2_with fail
      rw[za HW];refine bodyPost_ret (v:=.tuple #[.agg #[.int .i64 (i:Int),.int .i64 (t:Int),.int .i64 (c.ht:Int),.int .i64 (c.hv:Int),.slice none 0 0],.bool false]) (by simp[results,Tryz.results101,go_sem,r0,r1,r2,r3,r4]) rfl ?_;exact za FF
     ·as_aux_lemma =>
      rw[if_neg h3] at TR;have x1:(((k3+1:Nat):Int)==(n:Int))=true:=by have h2:=za HLN;simp;omega
      generalize ((k3+1:Nat):Int)=ki at *;obtain⟨W,hwr,gW,hW⟩:=zbo (za X2) (.int .i64 (i:Int)) (.int .i64 (t:Int)) (.int .i64 (c.ht:Int)) (.int .i64 (c.hv:Int)) (.slice none 0 0);have HW:=zaa hW;have BW:=zaa ((za B2).grown gW (by have:=za LSX _ (za B2);omega) (fun g hg=>by have:=Option.some.inj hg;omega))
      have FF:=zaa (show zi7 P w (zcz c (1::l)) (.returned (.tuple #[.agg #[.int .i64 (i:Int),.int .i64 (t:Int),.int .i64 (c.ht:Int),.int .i64 (c.hv:Int),.slice none 0 0],.bool true])) W from by
       rw[za TR];refine⟨by rw[za HDD];exact za BW,?_⟩
       exact⟨none,0,rfl,EntsIn.nil _ _ _⟩)
      have r0:=zab (hwr) 0 _ rfl;have r1:=zab (hwr) 1 _ rfl;have r2:=zab (hwr) 2 _ rfl;have r3:=zab (hwr) 3 _ rfl;have r4:=zab (hwr) 4 _ rfl;have e0:=zab (za X2) 0 _ rfl;have e1:=zab (za X2) 1 _ rfl;have e2:=zab (za X2) 2 _ rfl;have e3:=zab (za X2) 3 _ rfl;have e4:=zab (za X2) 4 _ rfl;have f0:=zae (za X2) 0;have f1:=zae (za X2) 1;have f2:=zae (za X2) 2;have f3:=zae (za X2) 3;have f4:=zae (za X2) 4;have a0:=zab (za X1) 0 _ rfl;have a1:=zab (za X1) 1 _ rfl;have a2:=zab (za X1) 2 _ rfl;have a3:=zab (za X1) 3 _ rfl;have a4:=zab (za X1) 4 _ rfl;clear hW hwr gW
      go_wp2_with fail
      rw[za HW];refine bodyPost_ret (v:=.tuple #[.agg #[.int .i64 (i:Int),.int .i64 (t:Int),.int .i64 (c.ht:Int),.int .i64 (c.hv:Int),.slice none 0 0],.bool true]) (by simp[results,Tryz.results101,go_sem,r0,r1,r2,r3,r4]) rfl ?_;exact za FF
  rw[if_neg h1] at TR;have e1:((kd:Int)==1)=false:=by simp;omega
  by_cases h2:kd=2
  ·rw[if_pos h2] at TR;subst h2;have GC:=zaa (zj7 sl (n - 1) (q - 1) l _ (za HLN) (by have:=za HLN;omega) (za HBT _ (za B2)));go_enter Tryz.func101,Tryz.ntmps101
   go_wp2_with fail
   clear hc3 r0 r1 r2 r3 r4 a0 a1 a2 a3 a4;generalize (w.alloc (.cells #[.int .i64 (c.bi:Int),.int .i64 (c.bt:Int),.int .i64 (c.ht:Int),.int .i64 (c.hv:Int),.slice sp en k] 51)).alloc (.cells #[.int .i64 0,.int .i64 0,.int .i64 0,.int .i64 0,.slice none 0 0] 51)=W2 at *;generalize hD:w.heap.size=D at *;have HDD:=zaa hD;clear hD X5 B5 NOV;unfold zje at TR;go_at_call 132
   refine(za GC).mono ?_;rintro e V1 ⟨rfl,v1⟩;clear GC;have BV:=zaa ((za B2).trans (v1.mono (za LSX _ (za B2))));have XA:=zaa (zac v1 (za X1));have XB:=zaa (zac v1 (za X2));have LV:=zaa (show D+2≤V1.heap.size by have h1:=za S2;have h2:=v1.size;omega);have HEV:=zaa ((za HE).both.later (by rw[za HDD];exact za BV));clear v1;cases hr:za6 l (zd9 l 0) with
   |error x =>
    as_aux_lemma =>
    rw[hr] at TR;dsimp only[zj4] at TR ⊢;have hx0:x≠0:=zez hr (fun y h=>zkr h);clear hr;have x1:¬ ((x:Nat):Int)=0:=by omega
    have x2:(((x:Nat):Int)==0)=false:=by simp;omega
    generalize ((x:Nat):Int)=xi at *;have A3:=zaa (show Below V1.heap.size V1 (V1.alloc (.cells #[.int .i64 0,.int .i64 0] 29)) from(Below.refl _ _).alloc (Nat.le_refl _) _);have XH:=zaa (zad V1 (.cells #[.int .i64 0,.int .i64 0] 29));have XA3:=zaa (zac (za A3) (za XA));have XB3:=zaa (zac (za A3) (za XB));obtain⟨U,hur,gU,hU⟩:=znl (za XA3) (.int .i64 0) (.int .i64 0);have XAU:=zaa hur;have XBU:=zaa (show U.heap[D+1]? = _ from(gU.block (D+1) (Array.getElem?_eq_some_iff.1 (za XB3)).1 (fun e=>by have:=Option.some.inj e;omega)).trans (za XB3));have BU:=zaa (((za BV).trans ((za A3).mono (za LSX _ (za BV)))).grown gU (by have h1:=za LV;have h2:=(za A3).size;omega) (fun g hg=>by have:=Option.some.inj hg;omega));have HEU:=zaa (((za HEV).later (za A3)).same (fun g hg=>gU.block g (by have h1:=za LV;have h2:=(za A3).size;have h3:=hg.2;have h4:=za HDD;omega) (fun e=>by have h5:=Option.some.inj e;have h3:=hg.2;have h4:=za HDD;omega)));have h0:=zab (za XH) 0 _ rfl;have h1:=zab (za XH) 1 _ rfl;have i0:=zab (za XA3) 0 _ rfl;have i1:=zab (za XA3) 1 _ rfl;have i2:=zab (za XA3) 2 _ rfl;have i3:=zab (za XA3) 3 _ rfl;have i4:=zab (za XA3) 4 _ rfl;have j0:=zae (za XA3) 0;have j1:=zae (za XA3) 1;have j2:=zae (za XA3) 2;have j3:=zae (za XA3) 3;have j4:=zae (za XA3) 4;clear hur gU
    obtain⟨W,hwr,gW,hW⟩:=zbo (za XBU) (.int .i64 (c.bi:Int)) (.int .i64 (c.bt:Int)) (.int .i64 0) (.int .i64 0) (.slice sp en k);have HW:=zaa hW;have BW:=zaa ((za BU).grown gW (by have:=za LSX _ (za BU);omega) (fun g hg=>by have:=Option.some.inj hg;omega))
    have FF:=zaa (show zi7 P w (zcz c (2::l)) (.returned (.tuple #[.agg #[.int .i64 (c.bi:Int),.int .i64 (c.bt:Int),.int .i64 0,.int .i64 0,.slice sp en k],.bool false])) W from by
     rw[za TR];refine⟨by rw[za HDD];exact za BW,?_⟩
     exact⟨_,_,_,_,_,_,_,rfl⟩)
    have r0:=zab (hwr) 0 _ rfl;have r1:=zab (hwr) 1 _ rfl;have r2:=zab (hwr) 2 _ rfl;have r3:=zab (hwr) 3 _ rfl;have r4:=zab (hwr) 4 _ rfl;have e0:=zab (za XBU) 0 _ rfl;have e1:=zab (za XBU) 1 _ rfl;have e2:=zab (za XBU) 2 _ rfl;have e3:=zab (za XBU) 3 _ rfl;have e4:=zab (za XBU) 4 _ rfl;have f0:=zae (za XBU) 0;have f1:=zae (za XBU) 1;have f2:=zae (za XBU) 2;have f3:=zae (za XBU) 3;have f4:=zae (za XBU) 4;have a0:=zab (za XAU) 0 _ rfl;have a1:=zab (za XAU) 1 _ rfl;have a2:=zab (za XAU) 2 _ rfl;have a3:=zab (za XAU) 3 _ rfl;have a4:=zab (za XAU) 4 _ rfl;clear hW hwr gW
    go_wp2_with fail
    rw[za HW];refine bodyPost_ret (v:=.tuple #[.agg #[.int .i64 (c.bi:Int),.int .i64 (c.bt:Int),.int .i64 0,.int .i64 0,.slice sp en k],.bool false]) (by simp[results,Tryz.results101,go_sem,r0,r1,r2,r3,r4]) rfl ?_;exact za FF
   |ok r =>
    as_aux_lemma =>
    obtain⟨t,v⟩:=r;rw[hr] at TR;dsimp only[zj4] at TR ⊢;clear hr;have A3:=zaa (show Below V1.heap.size V1 (V1.alloc (.cells #[.int .i64 (t:Int),.int .i64 (v:Int)] 29)) from(Below.refl _ _).alloc (Nat.le_refl _) _);have XH:=zaa (zad V1 (.cells #[.int .i64 (t:Int),.int .i64 (v:Int)] 29));have XA3:=zaa (zac (za A3) (za XA));have XB3:=zaa (zac (za A3) (za XB));obtain⟨U,hur,gU,hU⟩:=znl (za XA3) (.int .i64 (t:Int)) (.int .i64 (v:Int));have XAU:=zaa hur;have XBU:=zaa (show U.heap[D+1]? = _ from(gU.block (D+1) (Array.getElem?_eq_some_iff.1 (za XB3)).1 (fun e=>by have:=Option.some.inj e;omega)).trans (za XB3));have BU:=zaa (((za BV).trans ((za A3).mono (za LSX _ (za BV)))).grown gU (by have h1:=za LV;have h2:=(za A3).size;omega) (fun g hg=>by have:=Option.some.inj hg;omega));have HEU:=zaa (((za HEV).later (za A3)).same (fun g hg=>gU.block g (by have h1:=za LV;have h2:=(za A3).size;have h3:=hg.2;have h4:=za HDD;omega) (fun e=>by have h5:=Option.some.inj e;have h3:=hg.2;have h4:=za HDD;omega)));have h0:=zab (za XH) 0 _ rfl;have h1:=zab (za XH) 1 _ rfl;have i0:=zab (za XA3) 0 _ rfl;have i1:=zab (za XA3) 1 _ rfl;have i2:=zab (za XA3) 2 _ rfl;have i3:=zab (za XA3) 3 _ rfl;have i4:=zab (za XA3) 4 _ rfl;have j0:=zae (za XA3) 0;have j1:=zae (za XA3) 1;have j2:=zae (za XA3) 2;have j3:=zae (za XA3) 3
    have j4:=zae (za XA3) 4;clear hur gU;obtain⟨W,hwr,gW,hW⟩:=zbo (za XBU) (.int .i64 (c.bi:Int)) (.int .i64 (c.bt:Int)) (.int .i64 (t:Int)) (.int .i64 (v:Int)) (.slice sp en k);have HW:=zaa hW;have BW:=zaa ((za BU).grown gW (by have:=za LSX _ (za BU);omega) (fun g hg=>by have:=Option.some.inj hg;omega))
    have FF:=zaa (show zi7 P w (zcz c (2::l)) (.returned (.tuple #[.agg #[.int .i64 (c.bi:Int),.int .i64 (c.bt:Int),.int .i64 (t:Int),.int .i64 (v:Int),.slice sp en k],.bool true])) W from by
     rw[za TR];refine⟨by rw[za HDD];exact za BW,?_⟩
     exact⟨sp,k,by unfold zb1;rw[za HEN],by rw[za HDD];exact((za HEU).same (fun g hg=>gW.block g (by have h1:=hg.2;have h2:=za HDD;have h3:=za LSX _ (za BU);omega) (fun e=>by have h5:=Option.some.inj e;have h1:=hg.2;have h2:=za HDD;omega))).sub (fun g hg=>.inl hg.1)⟩)
    have r0:=zab (hwr) 0 _ rfl;have r1:=zab (hwr) 1 _ rfl;have r2:=zab (hwr) 2 _ rfl;have r3:=zab (hwr) 3 _ rfl;have r4:=zab (hwr) 4 _ rfl;have e0:=zab (za XBU) 0 _ rfl;have e1:=zab (za XBU) 1 _ rfl;have e2:=zab (za XBU) 2 _ rfl;have e3:=zab (za XBU) 3 _ rfl;have e4:=zab (za XBU) 4 _ rfl;have f0:=zae (za XBU) 0;have f1:=zae (za XBU) 1;have f2:=zae (za XBU) 2;have f3:=zae (za XBU) 3;have f4:=zae (za XBU) 4;have a0:=zab (za XAU) 0 _ rfl;have a1:=zab (za XAU) 1 _ rfl;have a2:=zab (za XAU) 2 _ rfl;have a3:=zab (za XAU) 3 _ rfl;have a4:=zab (za XAU) 4 _ rfl;clear hW hwr gW
    go_wp2_with fail
    rw[za HW];refine bodyPost_ret (v:=.tuple #[.agg #[.int .i64 (c.bi:Int),.int .i64 (c.bt:Int),.int .i64 (t:Int),.int .i64 (v:Int),.slice sp en k],.bool true]) (by simp[results,Tryz.results101,go_sem,r0,r1,r2,r3,r4]) rfl ?_;exact za FF
  rw[if_neg h2] at TR;have e2:((kd:Int)==2)=false:=by simp;omega
  by_cases h3:kd=3
  ·rw[if_pos h3] at TR;subst h3;have GC:=zaa (zjm sl (n - 1) (q - 1) l _ (za HLN) (by have:=za HLN;omega) (by have:=za HLN;omega) (za HZ) (za HBT _ (za B2)));go_enter Tryz.func101,Tryz.ntmps101
   go_wp2_with fail
   clear hc3 r0 r1 r2 r3 r4 a0 a1 a2 a3 a4;generalize (w.alloc (.cells #[.int .i64 (c.bi:Int),.int .i64 (c.bt:Int),.int .i64 (c.ht:Int),.int .i64 (c.hv:Int),.slice sp en k] 51)).alloc (.cells #[.int .i64 0,.int .i64 0,.int .i64 0,.int .i64 0,.slice none 0 0] 51)=W2 at *;generalize hD:w.heap.size=D at *;have HDD:=zaa hD;clear hD X5 B5 NOV;unfold zuq at TR;go_at_call 133
   refine(za GC).mono ?_;rintro e V1 ⟨⟨v,rfl,hres⟩,v1⟩;clear GC;have BV:=zaa ((za B2).trans (v1.mono (za LSX _ (za B2))));have XA:=zaa (zac v1 (za X1));have XB:=zaa (zac v1 (za X2));have LV:=zaa (show D+2≤V1.heap.size by have h1:=za S2;have h2:=v1.size;omega);have LW:=zaa (show D+2≤W2.heap.size by have h1:=za S2;omega);have HEV:=zaa ((za HE).both.later (by rw[za HDD];exact za BV));clear v1;unfold zo8 at hres;cases hr:za6 l (za9 l 0) with
   |error x =>
    as_aux_lemma =>
    rw[hr] at TR hres;dsimp only at TR hres;subst hres;have hx0:x≠0:=zez hr (fun y h=>zhj h);clear hr;have x1:¬ ((x:Nat):Int)=0:=by omega
    have x2:(((x:Nat):Int)==0)=false:=by simp;omega
    generalize ((x:Nat):Int)=xi at *;have A3:=zaa (show Below V1.heap.size V1 (V1.alloc (.cells #[.int .i64 0,.int .i64 0,.int .i64 0,.slice none 0 0] 64)) from(Below.refl _ _).alloc (Nat.le_refl _) _);have XA3:=zaa (zac (za A3) (za XA));have XB3:=zaa (zac (za A3) (za XB));have BU:=zaa ((za BV).trans ((za A3).mono (za LSX _ (za BV))));unfold entVal;obtain⟨W,hwr,gW,hW⟩:=zbo (za XB3) (.int .i64 (c.bi:Int)) (.int .i64 (c.bt:Int)) (.int .i64 (c.ht:Int)) (.int .i64 (c.hv:Int)) (.slice sp en k);have HW:=zaa hW;have BW:=zaa ((za BU).grown gW (by have:=za LSX _ (za BU);omega) (fun g hg=>by have:=Option.some.inj hg;omega))
    have FF:=zaa (show zi7 P w (zcz c (3::l)) (.returned (.tuple #[.agg #[.int .i64 (c.bi:Int),.int .i64 (c.bt:Int),.int .i64 (c.ht:Int),.int .i64 (c.hv:Int),.slice sp en k],.bool false])) W from by
     rw[za TR];refine⟨by rw[za HDD];exact za BW,?_⟩
     exact⟨_,_,_,_,_,_,_,rfl⟩)
    have r0:=zab (hwr) 0 _ rfl;have r1:=zab (hwr) 1 _ rfl;have r2:=zab (hwr) 2 _ rfl;have r3:=zab (hwr) 3 _ rfl;have r4:=zab (hwr) 4 _ rfl;have e0:=zab (za XB3) 0 _ rfl;have e1:=zab (za XB3) 1 _ rfl;have e2:=zab (za XB3) 2 _ rfl;have e3:=zab (za XB3) 3 _ rfl;have e4:=zab (za XB3) 4 _ rfl;have f0:=zae (za XB3) 0;have f1:=zae (za XB3) 1;have f2:=zae (za XB3) 2;have f3:=zae (za XB3) 3;have f4:=zae (za XB3) 4;have a0:=zab (za XA3) 0 _ rfl;have a1:=zab (za XA3) 1 _ rfl;have a2:=zab (za XA3) 2 _ rfl;have a3:=zab (za XA3) 3 _ rfl;have a4:=zab (za XA3) 4 _ rfl;clear hW hwr gW
    go_wp2_with fail
    rw[za HW];refine bodyPost_ret (v:=.tuple #[.agg #[.int .i64 (c.bi:Int),.int .i64 (c.bt:Int),.int .i64 (c.ht:Int),.int .i64 (c.hv:Int),.slice sp en k],.bool false]) (by simp[results,Tryz.results101,go_sem,r0,r1,r2,r3,r4]) rfl ?_;exact za FF
   |ok r =>
    obtain⟨ek,et,ei,ed⟩:=r;rw[hr] at TR hres;dsimp only at TR hres;obtain⟨dp,dn,dc,rfl,hdn,hob⟩:=hres;unfold entVal;have hei:ei≤1099511627776:=(zmn (fun c hc=>(za HBT _ (za B2)).lt c hc) hr).2.2.2.1.2;clear hr;have A3:=zaa (show Below V1.heap.size V1 (V1.alloc (.cells #[.int .i64 (ek:Int),.int .i64 (et:Int),.int .i64 (ei:Int),.slice dp dn dc] 64)) from(Below.refl _ _).alloc (Nat.le_refl _) _);have XE:=zaa (zad V1 (.cells #[.int .i64 (ek:Int),.int .i64 (et:Int),.int .i64 (ei:Int),.slice dp dn dc] 64));have XA3:=zaa (zac (za A3) (za XA));have XB3:=zaa (zac (za A3) (za XB));have BU:=zaa ((za BV).trans ((za A3).mono (za LSX _ (za BV))));have LU:=zaa (show D+2≤(V1.alloc (.cells #[.int .i64 (ek:Int),.int .i64 (et:Int),.int .i64 (ei:Int),.slice dp dn dc] 64)).heap.size by have h1:=za LV;have h2:=(za A3).size;omega);have EU:=zaa (((za HEV).later (za A3)).sub (Q:=fun g=>(P g∧g<D)∨D+2≤g) (fun g hg=>.inl ⟨hg.1,by have h1:=hg.2;have h2:=za HDD;omega⟩));have DU:=zaa (show DatIn (fun g=>(P g∧g<D)∨D+2≤g) (V1.alloc (.cells #[.int .i64 (ek:Int),.int .i64 (et:Int),.int .i64 (ei:Int),.slice dp dn dc] 64)) (dp,dc) ed from⟨hob.bytes.later (za A3),hob.toBx.nil0,fun g o e h0=>.inr (by have h1:=(hob.blk_lt g (by rw[show dp=some ⟨g,o,none⟩ from e];rfl)).1;have h2:=za LW;omega)⟩);have h0:=zab (za XE) 0 _ rfl;have h1:=zab (za XE) 1 _ rfl;have h2:=zab (za XE) 2 _ rfl;have h3:=zab (za XE) 3 _ rfl
    have a0:=zab (za XA3) 0 _ rfl;have a1:=zab (za XA3) 1 _ rfl;have a2:=zab (za XA3) 2 _ rfl;have a3:=zab (za XA3) 3 _ rfl;have a4:=zab (za XA3) 4 _ rfl;by_cases hf:zde c (ei:Int)=true
    ·as_aux_lemma =>
     rw[if_pos hf] at TR;have FC:=zaa (zqo (k:=k) (xk:=ek) (xt:=et) (za EU) (za DU) dn (za hdn) (za HIX) hb (by rw[za HEN];exact hl) hei hf);unfold zb1 entV at FC;rw[za HEN] at FC;clear hf hob
     go_wp2_with fail
     go_at_call 70
     refine(za FC).mono ?_;rintro e V4 ⟨v4,sp4,k4,rfl,en4⟩;unfold zb1;have B4:=zaa ((za BU).trans (v4.mono (za LSX _ (za BU))));have XA4:=zaa (zac v4 (za XA3));have XB4:=zaa (zac v4 (za XB3))
     have E4:=zaa (en4.sub (Q:=fun g=>(P g∧g<D)∨D+2≤g) (fun g hg=>by
      rcases hg with hg|hg
      ·exact hg
      ·exact .inr (by have h1:=za LU;omega)))
     clear v4 en4 FC h0 h1 h2 h3 a0 a1 a2 a3 a4;obtain⟨W,hwr,gW,hW⟩:=zbo (za XB4) (.int .i64 ((zfb c (ek,et,ei,ed)).bi:Int)) (.int .i64 ((zfb c (ek,et,ei,ed)).bt:Int)) (.int .i64 ((zfb c (ek,et,ei,ed)).ht:Int)) (.int .i64 ((zfb c (ek,et,ei,ed)).hv:Int)) (.slice sp4 (zfb c (ek,et,ei,ed)).es.length k4);have HW:=zaa hW;have BW:=zaa ((za B4).grown gW (by have:=za LSX _ (za B4);omega) (fun g hg=>by have:=Option.some.inj hg;omega))
     have FF:=zaa (show zi7 P w (zcz c (3::l)) (.returned (.tuple #[.agg #[.int .i64 ((zfb c (ek,et,ei,ed)).bi:Int),.int .i64 ((zfb c (ek,et,ei,ed)).bt:Int),.int .i64 ((zfb c (ek,et,ei,ed)).ht:Int),.int .i64 ((zfb c (ek,et,ei,ed)).hv:Int),.slice sp4 (zfb c (ek,et,ei,ed)).es.length k4],.bool true])) W from by
      rw[za TR];refine⟨by rw[za HDD];exact za BW,?_⟩
      exact⟨sp4,k4,by unfold zb1;rfl,by rw[za HDD];exact((za E4).both.same (fun g hg=>gW.block g hg.2 (fun e=>by have h5:=Option.some.inj e;have h1:=hg.1;omega))).sub (fun g hg=>by
        rcases hg.1 with h1|h1
        ·exact .inl h1.1
        ·exact .inr ⟨by omega,Nat.lt_of_lt_of_le hg.2 gW.size⟩)⟩)
     have r0:=zab (hwr) 0 _ rfl;have r1:=zab (hwr) 1 _ rfl;have r2:=zab (hwr) 2 _ rfl;have r3:=zab (hwr) 3 _ rfl;have r4:=zab (hwr) 4 _ rfl;have e0:=zab (za XB4) 0 _ rfl;have e1:=zab (za XB4) 1 _ rfl;have e2:=zab (za XB4) 2 _ rfl;have e3:=zab (za XB4) 3 _ rfl;have e4:=zab (za XB4) 4 _ rfl;have f0:=zae (za XB4) 0;have f1:=zae (za XB4) 1;have f2:=zae (za XB4) 2;have f3:=zae (za XB4) 3;have f4:=zae (za XB4) 4;have a0:=zab (za XA4) 0 _ rfl;have a1:=zab (za XA4) 1 _ rfl;have a2:=zab (za XA4) 2 _ rfl;have a3:=zab (za XA4) 3 _ rfl;have a4:=zab (za XA4) 4 _ rfl;clear hW hwr gW
     go_wp2_with fail
     rw[za HW];refine bodyPost_ret (v:=.tuple #[.agg #[.int .i64 ((zfb c (ek,et,ei,ed)).bi:Int),.int .i64 ((zfb c (ek,et,ei,ed)).bt:Int),.int .i64 ((zfb c (ek,et,ei,ed)).ht:Int),.int .i64 ((zfb c (ek,et,ei,ed)).hv:Int),.slice sp4 (zfb c (ek,et,ei,ed)).es.length k4],.bool true]) (by simp[results,Tryz.results101,go_sem,r0,r1,r2,r3,r4]) rfl ?_;exact za FF
    ·as_aux_lemma =>
     rw[if_neg hf] at TR;have FC:=zaa (zty (k:=k) (xk:=ek) (xt:=et) (dp:=dp) (dc:=dc) (za EU) dn hb (by rw[za HEN];exact hl) hei (by simpa using hf));unfold zb1 entV at FC;rw[za HEN] at FC;clear hf hob
     go_wp2_with fail
     go_at_call 70
     refine(za FC).mono ?_;rintro e V4 ⟨v4,sp4,k4,rfl,en4⟩;unfold zb1;have B4:=zaa ((za BU).trans (v4.mono (za LSX _ (za BU))));have XA4:=zaa (zac v4 (za XA3));have XB4:=zaa (zac v4 (za XB3))
     have E4:=zaa (en4.sub (Q:=fun g=>(P g∧g<D)∨D+2≤g) (fun g hg=>by
      rcases hg with hg|hg
      ·exact hg
      ·exact .inr (by have h1:=za LU;omega)))
     clear v4 en4 FC h0 h1 h2 h3 a0 a1 a2 a3 a4;obtain⟨W,hwr,gW,hW⟩:=zbo (za XB4) (.int .i64 (c.bi:Int)) (.int .i64 (c.bt:Int)) (.int .i64 (c.ht:Int)) (.int .i64 (c.hv:Int)) (.slice sp4 c.es.length k4);have HW:=zaa hW;have BW:=zaa ((za B4).grown gW (by have:=za LSX _ (za B4);omega) (fun g hg=>by have:=Option.some.inj hg;omega))
     have FF:=zaa (show zi7 P w (zcz c (3::l)) (.returned (.tuple #[.agg #[.int .i64 (c.bi:Int),.int .i64 (c.bt:Int),.int .i64 (c.ht:Int),.int .i64 (c.hv:Int),.slice sp4 c.es.length k4],.bool false])) W from by
      rw[za TR];refine⟨by rw[za HDD];exact za BW,?_⟩
      exact⟨_,_,_,_,_,_,_,rfl⟩)
     have r0:=zab (hwr) 0 _ rfl;have r1:=zab (hwr) 1 _ rfl;have r2:=zab (hwr) 2 _ rfl;have r3:=zab (hwr) 3 _ rfl;have r4:=zab (hwr) 4 _ rfl;have e0:=zab (za XB4) 0 _ rfl;have e1:=zab (za XB4) 1 _ rfl;have e2:=zab (za XB4) 2 _ rfl;have e3:=zab (za XB4) 3 _ rfl;have e4:=zab (za XB4) 4 _ rfl;have f0:=zae (za XB4) 0;have f1:=zae (za XB4) 1;have f2:=zae (za XB4) 2;have f3:=zae (za XB4) 3;have f4:=zae (za XB4) 4;have a0:=zab (za XA4) 0 _ rfl;have a1:=zab (za XA4) 1 _ rfl;have a2:=zab (za XA4) 2 _ rfl;have a3:=zab (za XA4) 3 _ rfl;have a4:=zab (za XA4) 4 _ rfl;clear hW hwr gW
     go_wp2_with fail
     rw[za HW];refine bodyPost_ret (v:=.tuple #[.agg #[.int .i64 (c.bi:Int),.int .i64 (c.bt:Int),.int .i64 (c.ht:Int),.int .i64 (c.hv:Int),.slice sp4 c.es.length k4],.bool false]) (by simp[results,Tryz.results101,go_sem,r0,r1,r2,r3,r4]) rfl ?_;exact za FF
  ·as_aux_lemma =>
   rw[if_neg h3] at TR;have e3:((kd:Int)==3)=false:=by simp;omega
   have FF:=zaa (za NOV (kd::l) (za TR));go_enter Tryz.func101,Tryz.ntmps101
   go_wp2_with fail
   refine bodyPost_ret (v:=.tuple #[.agg #[.int .i64 (c.bi:Int),.int .i64 (c.bt:Int),.int .i64 (c.ht:Int),.int .i64 (c.hv:Int),.slice sp en k],.bool false]) (by simp[results,Tryz.results101,go_sem,r0,r1,r2,r3,r4]) rfl ?_;exact za FF
end
end
section
open Go.ChangeShapes Go.WideShapes Go.ChangeAt Go.RowKit Go.Maps
theorem Bx.set {base:Nat} {w:World} {sp:Option Addr} {c:Nat} {l:List Nat} (h:Bx base w sp c l) (j:Nat) (hj:j<l.length) (y:Nat) (hy:y<256) :
  ∃ g,sp=some ⟨g,0,none⟩∧base≤g∧w.cell? ⟨g,j,none⟩=some (zbb l[j])∧w.frozen? ⟨g,j,none⟩=false∧Bx base (w.setCell ⟨g,j,none⟩ (.int .u8 (y:Int))) sp c (l.set j y)∧w.grownBy (w.setCell ⟨g,j,none⟩ (.int .u8 (y:Int))) (some g):=by
 rcases h.row with⟨_,_,rfl⟩|⟨g,cur,rfl,hb,hg,hle,hcc,hmx,ht⟩
 ·simp at hj
 ·refine⟨g,rfl,hb,?_,zio hg j,⟨?_,.inr ⟨g,cur.set j (.int .u8 (y:Int)),rfl,hb,?_,by rw[List.length_set];exact hle,by rw[List.length_set];exact hcc,hmx,?_⟩⟩,zaf w g j _⟩
  ·rw[cell_of_row w g j _ _ _ hg];have e:(l.map zbb)[j]? = some (zbb l[j]):=by rw[List.getElem?_map,List.getElem?_eq_getElem hj];rfl
   rw[← ht,List.getElem?_take,if_pos hj] at e
   simpa using e
  ·intro x hx;rcases List.mem_or_eq_of_mem_set hx with hx|rfl
   ·exact h.lt x hx
   ·exact hy
  ·rw[heap_setCell_same w g j cur.toArray 5 (.int .u8 (y:Int)) hg];simp
  ·rw[List.length_set,List.take_set,ht,List.map_set];rfl
theorem zxh (A:List Nat) (k j:Nat) (o:List Nat) (hk:k≤A.length) (hj:j<o.length) (hin:k+j<A.length):zcj A k (o.take (j+1))=(zcj A k (o.take j)).set (k+j) o[j]:=by
 have h1:(o.take j).length=j:=by rw[List.length_take];omega
 have h2:(o.take (j+1)).length=j+1:=by rw[List.length_take];omega
 have h3:(A.take k).length=k:=by rw[List.length_take];omega
 unfold zcj;rw[h1,h2,List.set_append_right _ _ (by omega),h3,List.set_append_right _ _ (by omega),h1];rw[show k+j - k - j=0 by omega,List.drop_eq_getElem_cons hin,List.set_cons_zero,List.take_succ_eq_append_getElem hj,List.append_assoc];rfl
theorem zxg (A:List Nat) (k j:Nat) (o:List Nat) (hj:j<o.length) (hin:¬ k+j<A.length):zcj A k (o.take (j+1))=zcj A k (o.take j)++[o[j]]:=by
 have h1:(o.take j).length=j:=by rw[List.length_take];omega
 have h2:(o.take (j+1)).length=j+1:=by rw[List.length_take];omega
 unfold zcj;rw[h1,h2,List.take_succ_eq_append_getElem hj,List.drop_of_length_le (by omega),List.drop_of_length_le (by omega)];simp
abbrev Un:=Bool×Nat×Nat
def zaj (c:Chg):List Un:=if c.1 then [(true,c.2.1,0)] else (List.range c.2.2.length).map (fun i=>(false,c.2.1+i,c.2.2.getD i 0))
def usL (cs:List Chg):List Un:=cs.flatMap zaj
def zvz (y:List Nat) (u:Un):List Nat:=if u.1 then y.take u.2.1 else if u.2.1<y.length then y.set u.2.1 u.2.2 else y++[u.2.2]
def zci (us:List Un) (y:List Nat) (j:Nat):List Nat:=(us.take j).foldl zvz y
theorem zm2 (us:List Un) (y:List Nat):zci us y 0=y:=rfl
theorem zm1 (us:List Un) (y:List Nat) (j:Nat) (hj:j<us.length):zci us y (j+1)=zvz (zci us y j) us[j]:=by
 unfold zci;rw[List.take_succ_eq_append_getElem hj,List.foldl_append];rfl
theorem zku (us:List Un) (y:List Nat) (j:Nat) (hj:us.length≤j):zci us y j=zci us y us.length:=by
 unfold zci;rw[List.take_of_length_le hj,List.take_of_length_le (Nat.le_refl _)]
theorem zp2 (p r:List Un) (y:List Nat) (j:Nat):zci (p++r) y (p.length+j)=zci r (zci p y p.length) j:=by
 unfold zci;rw[List.take_append,List.take_of_length_le (by omega),List.take_of_length_le (Nat.le_refl _),List.foldl_append];rw[show p.length+j - p.length=j by omega]
theorem zm0 (p r:List Un) (y:List Nat) (j:Nat) (hj:j≤p.length):zci (p++r) y j=zci p y j:=by
 unfold zci;rw[List.take_append_of_le_length hj]
theorem zbc (c:Chg):(zaj c).length=zap c:=by
 unfold zaj zap;split <;> simp
theorem zm4 (z:Nat) (o:List Nat) (y:List Nat) (hz:z≤y.length):∀ j,j≤o.length→zci (zaj (false,z,o)) y j=zcj y z (o.take j)
 |0,_=>by rw[zm2,List.take_zero,zit]
 |j+1,hj=>by
  have hl:(zaj (false,z,o)).length=o.length:=by rw[zbc];rfl
  have hu:(zaj (false,z,o))[j]'(by omega)=(false,z+j,o[j]):=by
   simp only[zaj,Bool.false_eq_true,if_false,List.getElem_map,List.getElem_range];rw[List.getD_eq_getElem?_getD,List.getElem?_eq_getElem (by omega)];rfl
  rw[zm1 _ _ _ (by omega),zm4 z o y hz j (by omega),hu];unfold zvz;simp only[Bool.false_eq_true,if_false];have hlen:(zcj y z (o.take j)).length=max y.length (z+j):=by rw[zer _ _ _ hz,List.length_take];omega
  by_cases hin:z+j<y.length
  ·rw[if_pos (by omega),zxh y z j o hz (by omega) hin]
  ·rw[if_neg (by omega),zxg y z j o (by omega) hin]
theorem zf0:∀ (cs:List Chg) (y:List Nat),zko cs y→(∀ c∈cs,zll c)→(∀ j,j≤(usL cs).length→zci (usL cs) y j=(za3 cs y j).1)∧(∀ j (hj:j<(usL cs).length),(usL cs)[j].1=true→(usL cs)[j].2.1≤(zci (usL cs) y j).length)
 |[],y,_,_=>by
  refine⟨fun j hj=>?_,fun j hj=>?_⟩
  ·simp only[usL,List.flatMap_nil,List.length_nil,Nat.le_zero] at hj;subst hj;rfl
  ·simp[usL] at hj
 |c::cs,y,hf,hs=>by
  have hsc:=hs c List.mem_cons_self;have ih:=zf0 cs (zc5 c y (zap c)) hf.2.2 (fun x hx=>hs x (List.mem_cons_of_mem _ hx));have hus:usL (c::cs)=zaj c++usL cs:=by simp[usL]
  have hlc:=zbc c;have hpos:0<zap c:=by
   unfold zap;cases h:c.1 with
   |true=>simp
   |false=>simp only[Bool.false_eq_true,if_false];exact(hsc.1 h).2
  have hfirst:∀ j,j≤zap c→zci (zaj c) y j=if j=0 then y else zc5 c y j:=by
   intro j hj;obtain⟨cut,z,o⟩:=c;cases cut with
   |true =>
    have:zap (true,z,o)=1:=rfl;rw[this] at hj;rcases(show j=0∨j=1 by omega) with rfl|rfl
    ·rw[if_pos rfl];rfl
    ·rw[if_neg (by omega)];simp[zci,zaj,zvz,zc5]
   |false =>
    rw[zm4 z o y hf.1 j hj];split
    ·rename_i h;subst h;rw[List.take_zero,zit]
    ·simp[zc5]
  have hall:zci (zaj c) y (zaj c).length=zc5 c y (zap c):=by
   rw[hlc,hfirst _ (Nat.le_refl _),if_neg (by omega)]
  refine⟨fun j hj=>?_,fun j hj hcut=>?_⟩
  ·rw[hus] at hj ⊢;rw[List.length_append] at hj;by_cases h1:j≤zap c
   ·rw[zm0 _ _ _ _ (by omega),hfirst j h1];unfold za3;split
    ·rfl
    ·rw[show min j (zap c)=j by omega,Nat.sub_self,ze2]
   ·obtain⟨i,rfl⟩:∃ i,j=(zaj c).length+i:=⟨j - (zaj c).length,by omega⟩
    rw[zp2,hall,ih.1 i (by omega)];unfold za3;rw[if_neg (by omega),show min ((zaj c).length+i) (zap c)=zap c by omega,show(zaj c).length+i - zap c=i by omega];cases cs with
    |nil=>rfl
    |cons x r=>rfl
  ·simp only[hus] at hj hcut ⊢;rw[List.length_append] at hj;by_cases h1:j<(zaj c).length
   ·rw[List.getElem_append_left h1] at hcut ⊢;rw[zm0 _ _ _ _ (by omega)];obtain⟨cut,z,o⟩:=c;cases cut with
    |true =>
     have:(zaj (true,z,o)).length=1:=rfl;rw[this] at h1;obtain rfl:j=0:=by omega
     exact hf.1
    |false=>simp[zaj] at hcut
   ·obtain⟨i,rfl⟩:∃ i,j=(zaj c).length+i:=⟨j - (zaj c).length,by omega⟩
    rw[List.getElem_append_right (by omega)] at hcut ⊢;simp only[show(zaj c).length+i - (zaj c).length=i by omega] at hcut ⊢;rw[zp2,hall];exact ih.2 i (by omega) hcut
theorem zfx:∀ (cs:List Chg) (y:List Nat),(∀ c∈cs,zll c)→∀ n,(usL cs).length≤n→za3 cs y n=(zji cs y,n - (usL cs).length)
 |[],y,_,n,_=>by simp[za3,zji,usL]
 |c::cs,y,hs,n,hn=>by
  have hus:usL (c::cs)=zaj c++usL cs:=by simp[usL]
  rw[hus,List.length_append,zbc] at hn ⊢;have hsc:=hs c List.mem_cons_self;have hpos:0<zap c:=by
   unfold zap;cases h:c.1 with
   |true=>simp
   |false=>simp only[Bool.false_eq_true,if_false];exact(hsc.1 h).2
  unfold za3;rw[if_neg (by omega),show min n (zap c)=zap c by omega,zfx cs _ (fun x hx=>hs x (List.mem_cons_of_mem _ hx)) _ (by omega)];simp only[zji,Prod.mk.injEq,true_and];omega
structure SOk (s:Sp):Prop where
 fit:zko s.cs s.y
 small:∀ c∈s.cs,zll c
 y8:s.y.length≤262144
 yb:∀ b∈s.y,b<256
 cb:∀ c∈s.cs,∀ b∈c.2.2,b<256
def Sp.us (s:Sp):List Un:=usL s.cs
section
variable {s:Sp}
theorem SOk.made (h:SOk s) (n:Nat):zci s.us s.y n=(za3 s.cs s.y n).1:=by
 by_cases hn:n≤s.us.length
 ·exact(zf0 s.cs s.y h.fit h.small).1 n hn
 ·have e1:=(zf0 s.cs s.y h.fit h.small).1 _ (Nat.le_refl _);rw[zfx s.cs s.y h.small _ (Nat.le_refl _)] at e1;rw[zku _ _ _ (by omega),zfx s.cs s.y h.small n (by have:s.us=usL s.cs:=rfl;rw[this] at hn;omega)];exact e1
theorem SOk.now (h:SOk s):zci s.us s.y s.us.length=s.now:=by
 have e1:=(zf0 s.cs s.y h.fit h.small).1 _ (Nat.le_refl _);rw[zfx s.cs s.y h.small _ (Nat.le_refl _)] at e1;exact e1
theorem SOk.len (h:SOk s) (n:Nat):(zci s.us s.y n).length≤262144:=by
 rw[h.made];exact zgw _ _ _ h.fit h.small h.y8
theorem SOk.cut (h:SOk s) (j:Nat) (hj:j<s.us.length) (hc:s.us[j].1=true):s.us[j].2.1≤(zci s.us s.y j).length:=(zf0 s.cs s.y h.fit h.small).2 j hj hc
theorem SOk.byte (h:SOk s) (j:Nat) (hj:j<s.us.length):s.us[j].2.2<256:=by
 have hm:s.us[j]∈s.us:=List.getElem_mem hj;obtain⟨c,hc,hu⟩:=List.mem_flatMap.1 (show s.us[j]∈s.cs.flatMap zaj from hm);unfold zaj at hu;split at hu
 ·simp only[List.mem_singleton] at hu;rw[hu];simp
 ·obtain⟨i,hi,hu⟩:=List.mem_map.1 hu;rw[← hu];have hi2:=List.mem_range.1 hi;show c.2.2.getD i 0<256
  rw[List.getD_eq_getElem?_getD,List.getElem?_eq_getElem hi2];exact h.cb c hc _ (List.getElem_mem hi2)
theorem SOk.lt (h:SOk s) (n:Nat):∀ b∈zci s.us s.y n,b<256:=by
 rw[h.made];exact zpj _ _ _ h.cb h.yb
end
end
end Go.Proofs.YtofllbpfajppeaaGreatDoor
