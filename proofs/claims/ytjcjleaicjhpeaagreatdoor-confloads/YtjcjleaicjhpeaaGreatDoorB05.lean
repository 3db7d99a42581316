/- The contracts of the document's answers of layer 2: Number, TakeNumber. -/
import Derived.Test.YtjcjleaicjhpeaaGreatDoorB04
import Derived.Test.YtjcjleaicjhpeaaGreatDoorB02
import Derived.Deep.QuietTactic
import Derived.BigQuiet
set_option linter.unusedVariables false
set_option maxRecDepth 20000
set_option maxHeartbeats 16000000
namespace Go.Proofs.YtjcjleaicjhpeaaGreatDoor
section
open Go.ChangeShapes Go.WideShapes Go.ChangeAt Go.RowKit
def zet (l:List Nat) (k:Nat):Value :=
 if (zck l k).1=0 then .tuple #[.int .i64 ((zck l k).2.1:Int),.int .i64 ((zck l k).2.2:Int),.int .i64 0] else .tuple #[.int .i64 0,.int .i64 0,.int .i64 ((zck l k).1:Int)]
theorem zgi (a:Option Addr) (M c:Nat) (l:List Nat) (k:Nat) (kk:Int) (w:World) (hM:l.length=M) (hkk:kk=(k:Int)) (hl:l.length≤140737488355328) (hk:k≤l.length) (hb:BytesAt w a l) :
  Calls Tryz.prog 120 #[.slice a M c,.int .i64 kk] w fun e w'=>e=.returned (zet l k)∧w'=w:=by
 subst hM hkk;have HB:=zaa hb;clear hb;have hk0:=hk;go_enter Tryz.func120,Tryz.ntmps120
 go_wp2
 clear hk
 go_loop [7,8,9] (fun x u i=>∃ (m s:Nat),s≤6∧i=.int .i64 (s:Int)∧u=.int .i64 ((128 ^ s:Nat):Int)∧x=.int .i64 (m:Int)∧m<128 ^ s∧Hid (zd1 l (6 - s) s m (k+s)=zck l k)) (fun _ _ i=>6 - (intOf i).toNat)
 case atStart=>exact⟨0,0,by omega,rfl,rfl,rfl,by decide,rfl⟩
 case round =>
  obtain⟨m,s,hs,rfl,rfl,rfl,hm,heq⟩:=hrel;by_cases hk:k+s<l.length
  ·obtain⟨b,off,rfl,hc⟩:=(za HB).cell (k+s) hk;have hx:=zm1 (za HB).lt (k+s);generalize hxx:l.getD (k+s) 0=x at *;have HX:=zaa hxx;clear hxx;rcases(by omega:s=0∨s=1∨s=2∨s=3∨s=4∨s=5∨s=6) with rfl|rfl|rfl|rfl|rfl|rfl|rfl
   ·obtain⟨n,hn⟩:∃ n,n=m+x % 128*128 ^ 0:=⟨_,rfl⟩
    have hA:(m:Int)+((x:Int) % 128)=(n:Int):=by rw[hn];simp only[Nat.reducePow];omega
    have hm':m<1:=hm;simp only[Nat.add_zero] at hc;have hlt:n<128:=by rw[hn];simp only[Nat.reducePow];omega
    have HN:=zaa hn;clear hn hm;by_cases h128:128≤x
    ·have ht:=zaa ((zbv 5 0 m (za HX) hk h128 (by decide)).symm.trans (za heq));rw[← za HN] at ht
     go_wp2
     exact⟨⟨n,1,by omega,rfl,rfl,rfl,by simp only[Nat.reducePow];exact hlt,by rw[show k+1=k+0+1 by omega];exact za ht⟩,by simp[intOf]⟩
    ·have hxx:x % 128=x:=by omega
     rw[hxx] at HN;by_cases hb:1099511627776<n
     ·omega
     ·have ht:=zaa ((zb8 5 0 m (za HX) hk h128 (fun h=>absurd h.2 (by decide)) (by rw[← za HN];exact hb)).symm.trans (za heq));rw[← za HN] at ht
      go_wp2
      all_goals (go_ret3;exact⟨by rw[zet,← za ht];rfl,rfl⟩)
   ·obtain⟨n,hn⟩:∃ n,n=m+x % 128*128 ^ 1:=⟨_,rfl⟩
    have hA:(m:Int)+((x:Int) % 128*128)=(n:Int):=by rw[hn];simp only[Nat.reducePow];omega
    have hm':m<128:=hm;have hlt:n<16384:=by rw[hn];simp only[Nat.reducePow];omega
    have HN:=zaa hn;clear hn hm;by_cases h128:128≤x
    ·have ht:=zaa ((zbv 4 1 m (za HX) hk h128 (by decide)).symm.trans (za heq));rw[← za HN] at ht
     go_wp2
     exact⟨⟨n,2,by omega,rfl,rfl,rfl,by simp only[Nat.reducePow];exact hlt,by rw[show k+2=k+1+1 by omega];exact za ht⟩,by simp[intOf]⟩
    ·have hxx:x % 128=x:=by omega
     rw[hxx] at HN;by_cases h0:x=0
     ·have ht:=zaa ((zbu 4 1 m (za HX) hk h0 (by decide)).symm.trans (za heq))
      go_wp2
      go_ret3
      exact⟨by rw[zet,← za ht];rfl,rfl⟩
     ·by_cases hb:1099511627776<n
      ·omega
      ·have ht:=zaa ((zb8 4 1 m (za HX) hk h128 (fun h=>h0 h.1) (by rw[← za HN];exact hb)).symm.trans (za heq));rw[← za HN] at ht
       go_wp2
       all_goals (go_ret3;exact⟨by rw[zet,← za ht];rfl,rfl⟩)
   ·obtain⟨n,hn⟩:∃ n,n=m+x % 128*128 ^ 2:=⟨_,rfl⟩
    have hA:(m:Int)+((x:Int) % 128*16384)=(n:Int):=by rw[hn];simp only[Nat.reducePow];omega
    have hm':m<16384:=hm;have hlt:n<2097152:=by rw[hn];simp only[Nat.reducePow];omega
    have HN:=zaa hn;clear hn hm;by_cases h128:128≤x
    ·have ht:=zaa ((zbv 3 2 m (za HX) hk h128 (by decide)).symm.trans (za heq));rw[← za HN] at ht
     go_wp2
     exact⟨⟨n,3,by omega,rfl,rfl,rfl,by simp only[Nat.reducePow];exact hlt,by rw[show k+3=k+2+1 by omega];exact za ht⟩,by simp[intOf]⟩
    ·have hxx:x % 128=x:=by omega
     rw[hxx] at HN;by_cases h0:x=0
     ·have ht:=zaa ((zbu 3 2 m (za HX) hk h0 (by decide)).symm.trans (za heq))
      go_wp2
      go_ret3
      exact⟨by rw[zet,← za ht];rfl,rfl⟩
     ·by_cases hb:1099511627776<n
      ·omega
      ·have ht:=zaa ((zb8 3 2 m (za HX) hk h128 (fun h=>h0 h.1) (by rw[← za HN];exact hb)).symm.trans (za heq));rw[← za HN] at ht
       go_wp2
       all_goals (go_ret3;exact⟨by rw[zet,← za ht];rfl,rfl⟩)
   ·obtain⟨n,hn⟩:∃ n,n=m+x % 128*128 ^ 3:=⟨_,rfl⟩
    have hA:(m:Int)+((x:Int) % 128*2097152)=(n:Int):=by rw[hn];simp only[Nat.reducePow];omega
    have hm':m<2097152:=hm;have hlt:n<268435456:=by rw[hn];simp only[Nat.reducePow];omega
    have HN:=zaa hn;clear hn hm;by_cases h128:128≤x
    ·have ht:=zaa ((zbv 2 3 m (za HX) hk h128 (by decide)).symm.trans (za heq));rw[← za HN] at ht
     go_wp2
     exact⟨⟨n,4,by omega,rfl,rfl,rfl,by simp only[Nat.reducePow];exact hlt,by rw[show k+4=k+3+1 by omega];exact za ht⟩,by simp[intOf]⟩
    ·have hxx:x % 128=x:=by omega
     rw[hxx] at HN;by_cases h0:x=0
     ·have ht:=zaa ((zbu 2 3 m (za HX) hk h0 (by decide)).symm.trans (za heq))
      go_wp2
      go_ret3
      exact⟨by rw[zet,← za ht];rfl,rfl⟩
     ·by_cases hb:1099511627776<n
      ·omega
      ·have ht:=zaa ((zb8 2 3 m (za HX) hk h128 (fun h=>h0 h.1) (by rw[← za HN];exact hb)).symm.trans (za heq));rw[← za HN] at ht
       go_wp2
       all_goals (go_ret3;exact⟨by rw[zet,← za ht];rfl,rfl⟩)
   ·obtain⟨n,hn⟩:∃ n,n=m+x % 128*128 ^ 4:=⟨_,rfl⟩
    have hA:(m:Int)+((x:Int) % 128*268435456)=(n:Int):=by rw[hn];simp only[Nat.reducePow];omega
    have hm':m<268435456:=hm;have hlt:n<34359738368:=by rw[hn];simp only[Nat.reducePow];omega
    have HN:=zaa hn;clear hn hm;by_cases h128:128≤x
    ·have ht:=zaa ((zbv 1 4 m (za HX) hk h128 (by decide)).symm.trans (za heq));rw[← za HN] at ht
     go_wp2
     exact⟨⟨n,5,by omega,rfl,rfl,rfl,by simp only[Nat.reducePow];exact hlt,by rw[show k+5=k+4+1 by omega];exact za ht⟩,by simp[intOf]⟩
    ·have hxx:x % 128=x:=by omega
     rw[hxx] at HN;by_cases h0:x=0
     ·have ht:=zaa ((zbu 1 4 m (za HX) hk h0 (by decide)).symm.trans (za heq))
      go_wp2
      go_ret3
      exact⟨by rw[zet,← za ht];rfl,rfl⟩
     ·by_cases hb:1099511627776<n
      ·omega
      ·have ht:=zaa ((zb8 1 4 m (za HX) hk h128 (fun h=>h0 h.1) (by rw[← za HN];exact hb)).symm.trans (za heq));rw[← za HN] at ht
       go_wp2
       all_goals (go_ret3;exact⟨by rw[zet,← za ht];rfl,rfl⟩)
   ·obtain⟨n,hn⟩:∃ n,n=m+x % 128*128 ^ 5:=⟨_,rfl⟩
    have hA:(m:Int)+((x:Int) % 128*34359738368)=(n:Int):=by rw[hn];simp only[Nat.reducePow];omega
    have hm':m<34359738368:=hm;have hlt:n<4398046511104:=by rw[hn];simp only[Nat.reducePow];omega
    have HN:=zaa hn;clear hn hm;by_cases h128:128≤x
    ·have ht:=zaa ((zj1 5 m (za HX) hk h128).symm.trans (za heq))
     go_wp2
     exact⟨⟨n,6,by omega,rfl,rfl,rfl,by simp only[Nat.reducePow];exact hlt,by rw[← za ht];rfl⟩,by simp[intOf]⟩
    ·have hxx:x % 128=x:=by omega
     rw[hxx] at HN;by_cases h0:x=0
     ·have ht:=zaa ((zbu 0 5 m (za HX) hk h0 (by decide)).symm.trans (za heq))
      go_wp2
      go_ret3
      exact⟨by rw[zet,← za ht];rfl,rfl⟩
     ·by_cases hb:1099511627776<n
      ·have ht:=zaa ((zdj 0 5 m (za HX) hk h128 (fun h=>h0 h.1) (by rw[← za HN];exact hb)).symm.trans (za heq))
       go_wp2
       go_ret3
       exact⟨by rw[zet,← za ht];rfl,rfl⟩
      ·have ht:=zaa ((zb8 0 5 m (za HX) hk h128 (fun h=>h0 h.1) (by rw[← za HN];exact hb)).symm.trans (za heq));rw[← za HN] at ht
       go_wp2
       all_goals (go_ret3;exact⟨by rw[zet,← za ht];rfl,rfl⟩)
   ·have ht:=zaa (show(6,0,k+6)=zck l k from za heq)
    go_wp2
    go_ret3
    exact⟨by rw[zet,← za ht];rfl,rfl⟩
  ·by_cases h6:s=6
   ·subst h6;have ht:=zaa (show(6,0,k+6)=zck l k from za heq)
    go_wp2
    go_ret3
    exact⟨by rw[zet,← za ht];rfl,rfl⟩
   ·have ht:=zaa (show(3,0,k+s)=zck l k by
     rw[← za heq];obtain⟨f,hf⟩:∃ f,6 - s=f+1:=⟨5 - s,by omega⟩
     rw[hf,zn3 _ _ _ hk])
    go_wp2
    go_ret3
    exact⟨by rw[zet,← za ht];rfl,rfl⟩
theorem zrl {l:List Nat} {k n k2:Nat} (h:zcz l k=.ok (n,k2)):zck l k=(0,n,k2):=by
 unfold zcz at h;split at h
 ·rename_i h0
  simp only[Except.ok.injEq,Prod.mk.injEq] at h;exact Prod.ext h0 (Prod.ext h.1 h.2)
 ·cases h
theorem zpu {l:List Nat} {k x:Nat} (h:zcz l k=.error x):(zck l k).1=x∧x≠0:=by
 unfold zcz at h;split at h
 ·cases h
 ·rename_i h0
  simp only[Except.error.injEq] at h;exact⟨h,fun e=>h0 (h.trans e)⟩
section
variable {w:World} {a:Option Addr} {c:Nat} {l:List Nat}
theorem zni (m:Nat) (k n k2:Nat) (kk:Int) (hm:l.length=m) (hkk:kk=(k:Int)) (hl:l.length≤140737488355328) (hk:k≤l.length) (hb:BytesAt w a l) (ht:zcz l k=.ok (n,k2)) :
  Calls Tryz.prog 120 #[.slice a m c,.int .i64 kk] w fun e w'=>e=.returned (.tuple #[.int .i64 (n:Int),.int .i64 (k2:Int),.int .i64 0])∧w'=w:=by
 refine(zgi a m c l k kk w hm hkk hl hk hb).mono fun e w' ⟨h1,h2⟩=>⟨?_,h2⟩
 rw[h1];have:=zrl ht;simp[zet,this]
theorem zlu (m:Nat) (k x:Nat) (kk:Int) (hm:l.length=m) (hkk:kk=(k:Int)) (hl:l.length≤140737488355328) (hk:k≤l.length) (hb:BytesAt w a l) (ht:zcz l k=.error x) :
  Calls Tryz.prog 120 #[.slice a m c,.int .i64 kk] w fun e w'=>e=.returned (.tuple #[.int .i64 0,.int .i64 0,.int .i64 (x:Int)])∧w'=w:=by
 refine(zgi a m c l k kk w hm hkk hl hk hb).mono fun e w' ⟨h1,h2⟩=>⟨?_,h2⟩
 rw[h1];obtain⟨t1,t2⟩:=zpu ht;simp[zet,t1,t2]
end
structure ZR (R:Nat) (w:World) (p:Option Addr) (c:Nat) (h:List Nat) (k e:Nat):Prop where
 row:w.heap[R]? = some (.cells #[.slice p h.length c,.int .i64 (k:Int),.int .i64 (e:Int)] 115 (0,0))
 by_:BytesAt w p h
 ne:0<h.length→∀ ad,p=some ad→ad.block≠R
 kl:k≤h.length
 hl:h.length≤140737488355328
 hc:h.length≤c
 hm:c≤maxLen
 hz:p=none→c=0
def zcj (h:List Nat) (k e m:Nat):Nat×Nat×Nat:=if e≠0 then (0,k,e) else match zcz h k with
 |.ok (n,k2)=>if m<n then (0,k,6) else (n,k2,0)
 |.error x=>(0,k,x)
def zgt (h:List Nat) (k e n:Nat):List Nat×Nat×Nat:=if e≠0 then ([],k,e) else if h.length - k<n then ([],k,3) else ((h.drop k).take n,k+n,0)
def zgr (h:List Nat) (k e:Nat):List Nat×Nat×Nat:=zgt h (zcj h k e 128).2.1 (zcj h k e 128).2.2 (zcj h k e 128).1
section
variable {R:Nat} {w w':World} {p:Option Addr} {c:Nat} {h:List Nat} {k e:Nat}
theorem ZR.later (z:ZR R w p c h k e) (u:Below w.heap.size w w'):ZR R w' p c h k e:=⟨zac u z.row,z.by_.later u,z.ne,z.kl,z.hl,z.hc,z.hm,z.hz⟩
theorem ZR.setE (z:ZR R w p c h k e) (x:Nat):ZR R (w.setCell ⟨R,2,none⟩ (.int .i64 (x:Int))) p c h k x :=
 ⟨heap_setCell_same w R 2 _ _ _ z.row,z.by_.far0 (zax w R 2 _) (fun h0 b off e=>z.ne h0 _ e),z.ne,z.kl,z.hl,z.hc,z.hm,z.hz⟩
theorem ZR.setK (z:ZR R w p c h k e) (x:Nat) (hx:x≤h.length):ZR R (w.setCell ⟨R,1,none⟩ (.int .i64 (x:Int))) p c h x e :=
 ⟨heap_setCell_same w R 1 _ _ _ z.row,z.by_.far0 (zax w R 1 _) (fun h0 b off e=>z.ne h0 _ e),z.ne,hx,z.hl,z.hc,z.hm,z.hz⟩
theorem ZR.froz (z:ZR R w p c h k e) (i:Nat):w.frozen? ⟨R,i,none⟩=false:=by simp[World.frozen?,z.row]
theorem ZR.c0 (z:ZR R w p c h k e):w.cell? ⟨R,0,none⟩=some (.slice p h.length c):=zae z.row 0 _ rfl
theorem ZR.c1 (z:ZR R w p c h k e):w.cell? ⟨R,1,none⟩=some (.int .i64 (k:Int)):=zae z.row 1 _ rfl
theorem ZR.c2 (z:ZR R w p c h k e):w.cell? ⟨R,2,none⟩=some (.int .i64 (e:Int)):=zae z.row 2 _ rfl
theorem ZR.lt (z:ZR R w p c h k e):R<w.heap.size:=(Array.getElem?_eq_some_iff.1 z.row).1
def zfi (R:Nat) (w:World) (p:Option Addr) (c:Nat) (h:List Nat) (r:Nat×Nat×Nat) (en:Ending) (w':World):Prop:=en=.returned (.int .i64 (r.1:Int))∧ZR R w' p c h r.2.1 r.2.2∧w.grownBy w' (some R)
theorem zbn (z:ZR R w p c h k e) (m:Nat) (hm:m≤1099511627776):Calls Tryz.prog 61 #[.pointer (some ⟨R,0,none⟩),.int .i64 (m:Int)] w (zfi R w p c h (zcj h k e m)):=by
 by_cases he:e=0
 ·subst he;have d0:w.drew.cell? ⟨R,0,none⟩=some (.slice p h.length c):=z.c0;have d1:w.drew.cell? ⟨R,1,none⟩=some (.int .i64 (k:Int)):=z.c1;have c2:w.cell? ⟨R,2,none⟩=some (.int .i64 0):=z.c2;have Z1:=zaa (z.later ((Below.refl _ _).drew));have GD:=zaa (zao ((Below.refl w.heap.size w).drew) (some R));cases ht:zcz h k with
  |ok q =>
   obtain⟨n,k2⟩:=q;have TC:=zaa (zni (w:=w.drew) (a:=p) (c:=c) h.length k n k2 (k:Int) rfl rfl z.hl z.kl (z.by_.later ((Below.refl _ _).drew)) ht);have hk2:=(zgp ht z.by_.lt).1;by_cases hn:m<n
   ·as_aux_lemma =>
    have i1:(m:Int)<(n:Int):=by omega
    have FE:=zaa (show zfi R w p c h (zcj h k 0 m) (.returned (.int .i64 0)) (w.drew.setCell ⟨R,2,none⟩ (.int .i64 6)) from by
     have e0:zcj h k 0 m=(0,k,6):=by simp[zcj,ht,hn]
     rw[e0]
     exact⟨rfl,(za Z1).setE 6,zaf (za GD) (zax w.drew R 2 _)⟩)
    have f2:=(za Z1).froz 2;have g2:=(za Z1).c2;rw[show((0:Nat):Int)=0 from rfl] at g2;clear z ht hn hk2 Z1 GD;go_enter Tryz.func61,Tryz.ntmps61
    go_wp2_with fail
    refine wp_region_held_drew (S:=fun w'=>w'.cell? ⟨R,0,none⟩=some (.slice p h.length c)∧w'.cell? ⟨R,1,none⟩=some (.int .i64 (k:Int))) (by kernel_rfl) ?_ (fun hHeld=>?_)
    ·try dsimp only
     exact⟨d0,d1⟩
    refine hT 0 ?_;refine hT 1 ?_;refine hT 2 ?_;refine hT 3 ?_;refine hT 4 ?_;refine hT 5 ?_;refine hT 6 ?_;refine hT 7 ?_;refine hO 8 (fun K hK=>?_);go_simp
    first
     |(go_at_call 120
       refine(za TC).mono ?_
       rintro e V1 ⟨rfl,rfl⟩)
    go_wp2_with fail
    refine hK.out _ _ ?_ (fun hHeld=>?_)
    ·try dsimp only
     exact⟨d0,d1⟩
    clear hK K;refine hP ?_;refine hT 9 ?_;refine hT 10 ?_;refine hT 11 ?_;refine hT 12 ?_;refine hT 13 ?_;refine hT 14 ?_;refine hT 15 ?_;refine wpAnyH_done (by kernel_rfl) ?_ _
    go_wp2
    go_ret
    exact za FE
   ·as_aux_lemma =>
    have i1:¬ (m:Int)<(n:Int):=by omega
    have FE:=zaa (show zfi R w p c h (zcj h k 0 m) (.returned (.int .i64 (n:Int))) (w.drew.setCell ⟨R,1,none⟩ (.int .i64 (k2:Int))) from by
     have e0:zcj h k 0 m=(n,k2,0):=by simp[zcj,ht,hn]
     rw[e0]
     exact⟨rfl,(za Z1).setK k2 hk2,zaf (za GD) (zax w.drew R 1 _)⟩)
    have f1:=(za Z1).froz 1;clear z ht hn hk2 Z1 GD;go_enter Tryz.func61,Tryz.ntmps61
    go_wp2_with fail
    refine wp_region_held_drew (S:=fun w'=>w'.cell? ⟨R,0,none⟩=some (.slice p h.length c)∧w'.cell? ⟨R,1,none⟩=some (.int .i64 (k:Int))) (by kernel_rfl) ?_ (fun hHeld=>?_)
    ·try dsimp only
     exact⟨d0,d1⟩
    refine hT 0 ?_;refine hT 1 ?_;refine hT 2 ?_;refine hT 3 ?_;refine hT 4 ?_;refine hT 5 ?_;refine hT 6 ?_;refine hT 7 ?_;refine hO 8 (fun K hK=>?_);go_simp
    first
     |(go_at_call 120
       refine(za TC).mono ?_
       rintro e V1 ⟨rfl,rfl⟩)
    go_wp2_with fail
    refine hK.out _ _ ?_ (fun hHeld=>?_)
    ·try dsimp only
     exact⟨d0,d1⟩
    clear hK K;refine hP ?_;refine hT 9 ?_;refine hT 10 ?_;refine hT 11 ?_;refine hT 12 ?_;refine hT 13 ?_;refine hT 14 ?_;refine hT 15 ?_;refine wpAnyH_done (by kernel_rfl) ?_ _
    go_wp2
    go_ret
    exact za FE
  |error x =>
   as_aux_lemma =>
   have hx:=zfa ht;have TC:=zaa (zlu (w:=w.drew) (a:=p) (c:=c) h.length k x (k:Int) rfl rfl z.hl z.kl (z.by_.later ((Below.refl _ _).drew)) ht)
   have FE:=zaa (show zfi R w p c h (zcj h k 0 m) (.returned (.int .i64 0)) (w.drew.setCell ⟨R,2,none⟩ (.int .i64 (x:Int))) from by
    have e0:zcj h k 0 m=(0,k,x):=by simp[zcj,ht]
    rw[e0]
    exact⟨rfl,(za Z1).setE x,zaf (za GD) (zax w.drew R 2 _)⟩)
   have f2:=(za Z1).froz 2;have g2:=(za Z1).c2;rw[show((0:Nat):Int)=0 from rfl] at g2;have x1:¬ (x:Int)=0:=by omega
   have x2:((x:Int)==0)=false:=by simp[hx]
   have x3:((x:Int) != 0)=true:=by simp[hx]
   clear z ht hx Z1 GD;generalize (x:Int)=xi at *;go_enter Tryz.func61,Tryz.ntmps61
   go_wp2_with fail
   refine wp_region_held_drew (S:=fun w'=>w'.cell? ⟨R,0,none⟩=some (.slice p h.length c)∧w'.cell? ⟨R,1,none⟩=some (.int .i64 (k:Int))) (by kernel_rfl) ?_ (fun hHeld=>?_)
   ·try dsimp only
    exact⟨d0,d1⟩
   refine hT 0 ?_;refine hT 1 ?_;refine hT 2 ?_;refine hT 3 ?_;refine hT 4 ?_;refine hT 5 ?_;refine hT 6 ?_;refine hT 7 ?_;refine hO 8 (fun K hK=>?_);go_simp
   first
    |(go_at_call 120
      refine(za TC).mono ?_
      rintro e V1 ⟨rfl,rfl⟩)
   go_wp2_with fail
   refine hK.out _ _ ?_ (fun hHeld=>?_)
   ·try dsimp only
    exact⟨d0,d1⟩
   clear hK K;refine hP ?_;refine hT 9 ?_;refine hT 10 ?_;refine hT 11 ?_;refine hT 12 ?_;refine hT 13 ?_;refine hT 14 ?_;refine hT 15 ?_;refine wpAnyH_done (by kernel_rfl) ?_ _
   go_wp2
   go_ret
   exact za FE
 ·as_aux_lemma =>
  have c2:=z.c2;have e1:¬ (e:Int)=0:=by omega
  have e2:((e:Int)==0)=false:=by simp[he]
  have FE:=zaa (show zfi R w p c h (zcj h k e m) (.returned (.int .i64 0)) w from by
   have e0:zcj h k e m=(0,k,e):=by simp[zcj,he]
   rw[e0]
   exact⟨rfl,z,zao (Below.refl _ _) _⟩)
  clear z he;generalize (e:Int)=ei at *;go_enter Tryz.func61,Tryz.ntmps61
  go_wp2
  go_ret
  exact za FE
end
section
variable {R:Nat} {w w':World} {p:Option Addr} {c:Nat} {h:List Nat} {k e:Nat}
def zoy (R:Nat) (w:World) (p:Option Addr) (c:Nat) (h:List Nat) (r:List Nat×Nat×Nat) (en:Ending) (w':World):Prop:=∃ sp m cc,en=.returned (.slice sp m cc)∧PartK R w' p sp m cc r.1∧ZR R w' p c h r.2.1 r.2.2∧w.grownBy w' (some R)
theorem zj3 (z:ZR R w p c h k e) (n:Nat) (hn:n≤1099511627776):Calls Tryz.prog 121 #[.pointer (some ⟨R,0,none⟩),.int .i64 (n:Int)] w (zoy R w p c h (zgt h k e n)):=by
 have hkl:=z.kl;have hhl:=z.hl;by_cases he:e=0
 ·subst he;have c2:w.cell? ⟨R,2,none⟩=some (.int .i64 0):=z.c2;have c0:=z.c0;have c1:=z.c1;have hwr:IntKind.i64.wrap ((h.length:Int) - (k:Int))=((h.length - k:Nat):Int):=by rw[IntKind.wrap_i64];omega
  by_cases hs:h.length - k<n
  ·as_aux_lemma =>
   have s1:((h.length - k:Nat):Int)<(n:Int):=by omega
   have s2:decide (((h.length - k:Nat):Int)<(n:Int))=true:=decide_eq_true s1
   have FF:=zaa (show ∀ W,Below w.heap.size w W→zoy R w p c h (zgt h k 0 n) (.returned (.slice none 0 0)) (W.setCell ⟨R,2,none⟩ (.int .i64 3))∧W.frozen? ⟨R,2,none⟩=false∧W.cell? ⟨R,2,none⟩=some (.int .i64 0) from fun W u=>by
    have eq:zgt h k 0 n=([],k,3):=by simp[zgt,hs]
    rw[eq]
    exact⟨⟨none,0,0,rfl,PartK.nil _ _ _,(z.later u).setE 3,zaf (zao u _) (zax W R 2 _)⟩,(z.later u).froz 2,(z.later u).c2⟩)
   generalize h.length - k=d at *;generalize hL:h.length=L at *;clear z hs;go_enter Tryz.func121,Tryz.ntmps121
   go_wp2_with fail
   go_quiet (fail)
   obtain⟨F1,f2,g2⟩:=za FF _ (_root_.Go.below_drewN (Below.refl w.heap.size w) nq);have F1:=zaa F1;generalize w.drewN nq=W1 at *
   go_wp2
   go_ret
   exact za F1
  ·as_aux_lemma =>
   have s1:¬ ((h.length - k:Nat):Int)<(n:Int):=by omega
   have s2:decide (((h.length - k:Nat):Int)<(n:Int))=false:=decide_eq_false s1;have hsl:∀ u,(Instr.slice 50 (.slice p h.length c) (some (.int .i64 (k:Int))) (some (.int .i64 ((k:Int)+(n:Int)))) none).run Tryz.prog u=.ok (.slice (slp p k c) n (c - k)) u:=fun u=>by
    have:=zgo p h.length c k (k+n) (by omega) (by have:=z.hc;omega) u;rw[Nat.add_sub_cancel_left] at this;rw[← this,Int.natCast_add]
   have hadd:IntKind.i64.wrap ((k:Int)+(n:Int))=(k:Int)+(n:Int):=by rw[IntKind.wrap_i64];omega
   have FF:=zaa (show ∀ W,Below w.heap.size w W→zoy R w p c h (zgt h k 0 n) (.returned (.slice (slp p k c) n (c - k))) (W.setCell ⟨R,1,none⟩ (.int .i64 ((k:Int)+(n:Int)))) from fun W u=>by
    have eq:zgt h k 0 n=((h.drop k).take n,k+n,0):=by simp[zgt,hs]
    have z2:=(z.later u).setK (k+n) (by omega);rw[Int.natCast_add] at z2;rw[eq]
    exact⟨_,_,_,rfl,⟨by dsimp only;rw[List.length_take,List.length_drop];omega,by have:=z.hc;omega,by have:=z.hm;omega,(z2.by_.drop k c z.hc).take n,fun hq=>zl4 hq z.hz,zrj⟩,z2,zaf (zao u (some R)) (zax W R 1 _)⟩)
   have CL:=zaa (show ∀ W,Below w.heap.size w W→W.cell? ⟨R,0,none⟩=some (.slice p h.length c)∧W.cell? ⟨R,1,none⟩=some (.int .i64 (k:Int))∧W.frozen? ⟨R,1,none⟩=false from fun W u=>⟨(z.later u).c0,(z.later u).c1,(z.later u).froz 1⟩);have BT:=zaa (show ∀ (W:World) (j:Nat),Below w.heap.size w W→Below w.heap.size w (W.drewN j) from fun W j u=>u.trans ((_root_.Go.below_drewN (Below.refl W.heap.size W) j).mono u.size));generalize hL:h.length=L at *;generalize L - k=d at *;clear z hs;go_enter Tryz.func121,Tryz.ntmps121
   go_wp2_with fail
   go_quiet (fail)
   have U1:=zaa (_root_.Go.below_drewN (Below.refl w.heap.size w) nq);obtain⟨b0,b1,b2⟩:=za CL _ (za U1);generalize slp p k c=q at *;generalize w.drewN nq=W1 at *
   go_wp2_with fail
   go_quiet (fail)
   have U2:=zaa (za BT W1 nq (za U1));obtain⟨a0,a1,a2⟩:=za CL _ (za U2);have F1:=zaa (za FF _ (za U2));generalize W1.drewN nq=W2 at *
   go_wp2
   go_ret
   exact za F1
 ·as_aux_lemma =>
  have c2:=z.c2;have e1:¬ (e:Int)=0:=by omega
  have e2:((e:Int)==0)=false:=by simp[he]
  have FE:=zaa (show zoy R w p c h (zgt h k e n) (.returned (.slice none 0 0)) w from by
   have e0:zgt h k e n=([],k,e):=by simp[zgt,he]
   rw[e0]
   exact⟨none,0,0,rfl,PartK.nil _ _ _,z,zao (Below.refl _ _) _⟩)
  clear z he;generalize (e:Int)=ei at *;go_enter Tryz.func121,Tryz.ntmps121
  go_wp2
  go_ret
  exact za FE
theorem zir (h:List Nat) (k e m:Nat):(zcj h k e m).1≤m:=by
 unfold zcj;split
 ·simp
 ·split
  ·split
   ·simp
   ·dsimp only;omega
  ·simp
def zkv (R:Nat) (w:World) (p:Option Addr) (c:Nat) (h:List Nat) (r:List Nat×Nat×Nat) (en:Ending) (w':World):Prop:=en=.returned (.string (zaj r.1))∧ZR R w' p c h r.2.1 r.2.2∧w.grownBy w' (some R)
theorem zct (z:ZR R w p c h k e):Calls Tryz.prog 62 #[.pointer (some ⟨R,0,none⟩)] w (zkv R w p c h (zgr h k e)):=by
 have NC:=zaa (zbn z 128 (by omega));unfold zfi at NC;have NL:=zaa (zir h k e 128);have EQ:=zaa (show zgr h k e=zgt h (zcj h k e 128).2.1 (zcj h k e 128).2.2 (zcj h k e 128).1 from rfl);generalize zcj h k e 128=q at *;obtain⟨n,k1,e1⟩:=q;dsimp only at NC EQ NL;rw[show((128:Nat):Int)=128 from rfl] at NC;clear z;go_enter Tryz.func62,Tryz.ntmps62
 go_wp2_with fail
 go_at_call 61
 refine(za NC).mono ?_;rintro en V1 ⟨rfl,z1,g1⟩;have TC:=zaa (zj3 z1 n (by have:=za NL;omega));unfold zoy at TC;have G1:=zaa g1;generalize zgt h k1 e1 n=q2 at *;obtain⟨b,k2,e2⟩:=q2;dsimp only at TC EQ;clear z1 g1 NC
 go_wp2_with fail
 go_at_call 121
 refine(za TC).mono ?_;rintro en V2 ⟨sp,m,cc,rfl,pt,z2,g2⟩;have hcv:=za3 m cc pt.len pt.by_
 have FF:=zaa (show zkv R w p c h (zgr h k e) (.returned (.string (zaj b))) V2 from by
  rw[za EQ]
  exact⟨rfl,z2,zaf (za G1) g2⟩)
 clear z2 g2 pt TC EQ
 go_wp2
 go_ret
 exact za FF
end
def tgZ (h:List Nat) (k e:Nat):Tgt×Nat×Nat :=
 let a:=zgr h k e
 let b:=zgt h a.2.1 a.2.2 8
 ((zaj a.1,zco b.1),b.2.1,b.2.2)
def zfb (h:List Nat):Nat→Nat→Nat→List Tgt×Nat×Nat
 |0,k,e=>([],k,e)
 |n+1,k,e=>if e≠0 then ([],k,e) else
  let a:=tgZ h k e
  let r:=zfb h n a.2.1 a.2.2
  (a.1::r.1,r.2.1,r.2.2)
def zrn (h:List Nat) (k e:Nat):List Tgt×Nat×Nat :=
 let a:=zcj h k e 16
 zfb h a.1 a.2.1 a.2.2
theorem zj2 (h:List Nat) (n k:Nat):zfb h (n+1) k 0=((tgZ h k 0).1::(zfb h n (tgZ h k 0).2.1 (tgZ h k 0).2.2).1,(zfb h n (tgZ h k 0).2.1 (tgZ h k 0).2.2).2):=rfl
theorem zl9 (h:List Nat) (n k e:Nat) (he:e≠0):zfb h n k e=([],k,e):=by
 cases n with
 |zero=>rfl
 |succ n=>simp[zfb,he]
theorem zsf (h:List Nat) (k e n:Nat):(zgt h k e n).1.length≤n:=by
 unfold zgt;split
 ·simp
 ·split
  ·simp
  ·dsimp only;rw[List.length_take];omega
theorem zts (h:List Nat) (hb:∀ c∈h,c<256) (k e n:Nat):∀ c∈(zgt h k e n).1,c<256:=by
 unfold zgt;intro c hc;split at hc
 ·cases hc
 ·split at hc
  ·cases hc
  ·exact hb c (List.mem_of_mem_drop (List.mem_of_mem_take hc))
theorem zbq.emptyZ (w:World) (base:Nat) (hb:base≤w.heap.size):zbq base (w.alloc (.cells #[] 70)) (some ⟨w.heap.size,0,none⟩) 0 [] :=
 ⟨rfl,.inr ⟨w.heap.size,0,#[],rfl,hb,zad _ _,Nat.le_refl _,by simp[maxLen],rfl,rfl⟩⟩
section
variable {R:Nat} {w w':World} {p:Option Addr} {c:Nat} {h:List Nat} {k e:Nat}
theorem ZR.kept {w0 a:World} {k0 e0:Nat} (z0:ZR R w0 p c h k0 e0) (g:w0.grownBy a (some R)) (z:ZR R a p c h k e) {b:World} (u:Below w0.heap.size a b):ZR R b p c h k e :=
 ⟨(u.block R z0.lt).trans z.row,z0.by_.far0 (zam g u) (fun h0 b off e=>z0.ne h0 _ e),z.ne,z.kl,z.hl,z.hc,z.hm,z.hz⟩
def zp1 (R:Nat) (w:World) (p:Option Addr) (c:Nat) (h:List Nat) (r:List Tg×Nat×Nat) (en:Ending) (w':World):Prop:=∃ sp n cc,en=.returned (.slice sp n cc)∧r.1.length=n∧zbq w.heap.size w' sp cc r.1∧(∀ t∈r.1,t.2<18446744073709551616)∧ZR R w' p c h r.2.1 r.2.2∧w.grownBy w' (some R)
theorem zfx (z:ZR R w p c h k e):Calls Tryz.prog 63 #[.pointer (some ⟨R,0,none⟩)] w (zp1 R w p c h (zrn h k e)):=by
 have bN:=zaa (show Below w.heap.size w (w.alloc (.cells #[] 70)) from(Below.refl _ _).alloc (Nat.le_refl _) _);have NC:=zaa (zbn (z.later (za bN)) 16 (by omega));have ON:=zaa (zbq.emptyZ w w.heap.size (Nat.le_refl _));unfold zfi at NC;have NL:=zaa (zir h k e 16);have EQ:=zaa (show zrn h k e=zfb h (zcj h k e 16).1 (zcj h k e 16).2.1 (zcj h k e 16).2.2 from rfl);generalize zcj h k e 16=q at *;obtain⟨n,k1,e1⟩:=q;dsimp only at NC EQ NL;rw[show((16:Nat):Int)=16 from rfl] at NC;have Z0:=zaa z;have hR:=z.lt;have hfb:=zgu;have hn16:n≤16:=za NL;clear z;go_enter Tryz.func63,Tryz.ntmps63
 go_wp2_with fail
 go_at_call 61
 refine(za NC).mono ?_;rintro en V1 ⟨rfl,z1,g1⟩;have Z1:=zaa z1;have G1:=zaa (zaf (zao (za bN) (some R)) g1);have O1:=zaa ((za ON).farK g1 hR);clear z1 g1 NC
 go_wp2_with fail
 go_loopw [3,5,6,7,8,9] (fun v i _ _ _ _ wr=>∃ (j:Nat) (sp:Option Addr) (m cc:Nat) (acc:List Tg) (kj ej:Nat),j≤n∧v=.slice sp m cc∧i=.int .i64 (j:Int)∧Hid (acc.length=m)∧m=j∧Hid (zbq w.heap.size wr sp cc acc)∧Hid (∀ t∈acc,t.2<18446744073709551616)∧Hid (ZR R wr p c h kj ej)∧Hid (w.grownBy wr (some R))∧Hid (zfb h n k1 e1=(acc++(zfb h (n - j) kj ej).1,(zfb h (n - j) kj ej).2))) (fun _ i _ _ _ _ _=>n - (intOf i).toNat)
 case atStart=>exact⟨0,_,0,0,[],k1,e1,by omega,rfl,rfl,zaa rfl,rfl,O1,zaa (by simp),Z1,G1,zaa rfl⟩
 case round =>
  obtain⟨j,sp,m,cc,acc,kj,ej,hj,rfl,rfl,hl,rfl,O,LT,Z,G,E⟩:=hrel;have q2:=(za Z).c2;by_cases hjm:m<n
  ·have y1:(m:Int)<(n:Int):=by omega
   by_cases he:ej=0
   ·subst he;have q2:wr.cell? ⟨R,2,none⟩=some (.int .i64 0):=q2;have hj1:m+1≤n:=by omega
    have E2:=zaa (show zfb h n k1 e1=(acc++[(tgZ h kj 0).1]++(zfb h (n - (m+1)) (tgZ h kj 0).2.1 (tgZ h kj 0).2.2).1,(zfb h (n - (m+1)) (tgZ h kj 0).2.1 (tgZ h kj 0).2.2).2) by
     rw[za E,show n - m=(n - (m+1))+1 by omega,zj2]
     simp)
    have TC:=zaa (zct (za Z));unfold zkv at TC;have HB:=zaa (za Z).by_.lt;have ET:=zaa (show tgZ h kj 0=((zaj (zgr h kj 0).1,zco (zgt h (zgr h kj 0).2.1 (zgr h kj 0).2.2 8).1),(zgt h (zgr h kj 0).2.1 (zgr h kj 0).2.2 8).2.1,(zgt h (zgr h kj 0).2.1 (zgr h kj 0).2.2 8).2.2) from rfl);generalize zgr h kj 0=q0 at *;obtain⟨tb,k2,e2⟩:=q0;dsimp only at TC ET
    go_wp2_with fail
    go_at_call 62
    refine(za TC).mono ?_;rintro en V2 ⟨rfl,z2,g2⟩;have G2:=zaa (zaf (za G) g2);have O2:=zaa ((za O).farK g2 hR);have WC:=zaa (zj3 z2 8 (by omega));unfold zoy at WC;rw[show((8:Nat):Int)=8 from rfl] at WC;have WL:=zaa (zsf h k2 e2 8);have WB:=zaa (zts h (za HB) k2 e2 8);generalize zgt h k2 e2 8=q3 at *;obtain⟨b,k3,e3⟩:=q3;dsimp only at WC ET WL WB;generalize tgZ h kj 0=q4 at *;have e4:=za ET;subst e4;dsimp only at E2;clear z2 g2 TC O G Z E ET q2;generalize zaj tb=s at *
    go_wp2_with fail
    go_at_call 121
    refine(za WC).mono ?_;rintro en V3 ⟨bp,bm,bc,rfl,pt,z3,g3⟩;have hm8:bm≤8:=by have h1:=pt.len;have h2:=za WL;omega
    have BY:=zaa pt.by_;have HL:=zaa pt.len;have NX:=zaa (zln b (za WB) (za WL));have G3:=zaa (zaf (za G2) g3);have O3:=zaa ((za O2).farK g3 hR);have Z3:=zaa z3;clear pt z3 g3 WC O2 G2 WL WB;obtain⟨wp,hwp⟩:∃ wp,wp=wr:=⟨_,rfl⟩
    subst hwp
    go_wp2_with fail
    go_loopw [8,9] (fun x i wr=>∃ t:Nat,t≤bm∧x=.int .u64 ((zco (b.take t):Nat):Int)∧i=.int .i64 (t:Int)∧wr=V3) (fun _ i _=>bm - (intOf i).toNat)
    case atStart=>exact⟨0,by omega,by simp[zco],rfl,rfl⟩
    case round =>
     obtain⟨t,ht,rfl,rfl,rfl⟩:=hrel;by_cases htm:t<bm
     ·have htl:t<b.length:=by rw[za HL];exact htm
      obtain⟨g,off,rfl,hc2⟩:=(za BY).cell t htl;have HT:=zaa (zjv b t htl);have hq:=(za BY).lt _ (List.getElem_mem htl);rw[List.getD_eq_getElem?_getD,List.getElem?_eq_getElem htl,Option.getD_some] at hc2;have hx:=zlm (b.take t) (fun c hc=>(za BY).lt c (List.mem_of_mem_take hc)) (by rw[List.length_take];omega);have y2:(t:Int)<(bm:Int):=by omega
      have ht0:(0:Int)≤(t:Int):=by omega
      generalize b[t]=q at *;generalize hxx:zco (b.take t)=x at *;have hw1:IntKind.u64.wrap ((x:Int)*256)=(x:Int)*256:=by rw[IntKind.wrap_u64];omega
      have hw2:IntKind.u64.wrap (q:Int)=(q:Int):=by rw[IntKind.wrap_u64];omega
      have hw3:IntKind.u64.wrap ((x:Int)*256+(q:Int))=(x:Int)*256+(q:Int):=by rw[IntKind.wrap_u64];omega
      have ht1:t+1≤bm:=by omega
      clear hxx
      go_wp2
      exact⟨⟨t+1,ht1,by rw[za HT];simp,by go_num,by first|rfl|trivial⟩,by simp[intOf];omega⟩
     ·have htt:¬ (t:Int)<(bm:Int):=by omega
      have EE:b.take t=b:=List.take_of_length_le (by rw[za HL];omega);rw[EE];clear EE;generalize zco b=x at *;have bA:=zaa (show Below wr.heap.size wr (wr.alloc (.cells #[.string s,.float .f64 x] 70)) from(Below.refl _ _).alloc (Nat.le_refl _) _);have XA:=zaa (show(wr.alloc (.cells #[.string s,.float .f64 x] 70)).heap[wr.heap.size]? = some (.cells (zcr [(s,x)]).toArray 70 (0,0)) from zad wr _);have OA:=zaa ((za O3).below (za bA));have G4:=zaa (zaf (za G3) (zao (za bA) (some R)));have Z4:=zaa ((za Z3).later (za bA));have SZ:=zaa (Nat.le_trans (za G3).size (za bA).size)
      go_wp2_with (at_builtin;refine zfw rfl (.tmp 43) (.tmp 48) rfl w.heap.size sp m cc acc rfl (za hl) (by exact za OA) wr.heap.size [(s,x)] 1 rfl rfl (by exact za XA) (by omega) (za SZ) ?_;intro sp2 c2 W2 ho2 hb2;have O5:=zaa ho2;have B5:=zaa hb2;clear ho2 hb2)
      have Z5:=zaa ((za Z0).kept (za G4) (za Z4) (za B5));have G5:=zaa (zam (za G4) (za B5));refine⟨⟨m+1,sp2,m+1,c2,acc++[(s,x)],k3,e3,hj1,rfl,by go_num,zaa (by rw[List.length_append,za hl];rfl),rfl,O5,zaa (fun t ht=>?_),Z5,G5,E2⟩,by simp[intOf];omega⟩;rcases List.mem_append.1 ht with ht|ht
      ·exact za LT t ht
      ·rw[List.mem_singleton.1 ht];exact za NX
   ·have x1:¬ (ej:Int)=0:=by omega
    have x2:((ej:Int)==0)=false:=by simp[he]
    have FF:=zaa (show zp1 R w p c h (zrn h k e) (.returned (.slice sp m cc)) wr from by
     have e5:=za E;rw[zl9 h _ kj ej he] at e5;simp only[List.append_nil] at e5;rw[za EQ,e5]
     exact⟨sp,m,cc,rfl,za hl,za O,za LT,za Z,za G⟩)
    clear E O Z G he;generalize (ej:Int)=ei at *
    go_wp2
    go_ret
    exact za FF
  ·have y1:¬ (m:Int)<(n:Int):=by omega
   have FF:=zaa (show zp1 R w p c h (zrn h k e) (.returned (.slice sp m cc)) wr from by
    have h0:n - m=0:=by omega
    have e5:=za E;rw[h0] at e5;simp only[zfb,List.append_nil] at e5;rw[za EQ,e5]
    exact⟨sp,m,cc,rfl,za hl,za O,za LT,za Z,za G⟩)
   clear E O Z G q2
   go_wp2
   go_ret
   exact za FF
end
end
end Go.Proofs.YtjcjleaicjhpeaaGreatDoor
