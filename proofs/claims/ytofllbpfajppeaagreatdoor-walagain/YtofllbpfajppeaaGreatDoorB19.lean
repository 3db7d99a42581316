/- Logs, plainly: a log's disk through its calls, through crashes and Open. -/
import Derived.Test.YtofllbpfajppeaaGreatDoorB18
import Derived.Test.YtofllbpfajppeaaGreatDoorB06
import Derived.Lib.SmallJoins
import Derived.Test.YtofllbpfajppeaaGreatDoorB12
import Derived.Deep.Slices
set_option linter.unusedVariables false
set_option maxRecDepth 20000
set_option maxHeartbeats 16000000
namespace Go.Proofs.YtofllbpfajppeaaGreatDoor
section
open Go.ChangeShapes Go.WideShapes Go.ChangeAt Go.RowKit
theorem zz4 {c c':Wc} {l:List Nat} (h:zcz c l=some c') (hi:Ix c):Ix c':=by
 cases l with
 |nil=>cases h
 |cons k b =>
  rw[zeh] at h;split at h
  ·unfold zjh at h;cases h1:zbh b 0 with
   |error x=>rw[h1] at h;cases h
   |ok r =>
    obtain⟨i,k1⟩:=r;rw[h1] at h;dsimp only at h;cases h2:zbh b k1 with
    |error x=>rw[h2] at h;cases h
    |ok r2 =>
     obtain⟨t,k2⟩:=r2;rw[h2] at h;dsimp only at h;split at h
     ·cases h
     ·cases h
      exact Ix.nil
  ·split at h
   ·unfold zje at h;cases h1:za6 b (zd9 b 0) with
    |error x=>rw[h1] at h;cases h
    |ok r =>
     obtain⟨t,v⟩:=r;rw[h1] at h;cases h
     exact hi
   ·split at h
    ·unfold zuq at h;cases h1:za6 b (za9 b 0) with
     |error x=>rw[h1] at h;cases h
     |ok e =>
      rw[h1] at h;dsimp only at h;split at h
      ·rename_i hf
       cases h
       unfold zde at hf;rw[Bool.and_eq_true,decide_eq_true_eq,decide_eq_true_eq] at hf;exact hi.add (by omega) (by omega)
      ·cases h
    ·cases h
theorem zn4:∀ {rs:List (List Nat)} {c c':Wc},zb4 c rs=some c'→Ix c→Ix c'
 |[],c,c',h,hk=>by cases h;exact hk
 |r::rs,c,c',h,hk=>by
  rw[zb5] at h;cases h1:zcz c r with
  |none=>rw[h1] at h;cases h
  |some c1 =>
   rw[h1] at h;exact zn4 h (zz4 h1 hk)
theorem zyv {rs:List (List Nat)} {c:Wc} (h:zc4 rs=some c):Ix c:=by
 cases rs with
 |nil=>cases h
 |cons r rs =>
  change (if zcq r=true then zb4 wc0 (r::rs) else none)=some c at h;split at h
  ·exact zn4 h Ix.nil
  ·cases h
theorem zbs (k:Nm) (s:Sp):zcc k [(k,s)]=some s:=by simp[zcc]
theorem zza {k j:Nm} (h:j≠k) (s:Sp):zcc k [(j,s)]=none:=by simp[zcc,h]
theorem zen (k:Nm) (s v:Sp):zbi k v [(k,s)]=[(k,v)]:=by simp[zbi,zbd]
theorem wal_lt (n:Nat):walNm n<zau:=by
 unfold walNm walW zau;simp only[List.cons_append];refine List.cons_lt_cons_iff.2 (.inr ⟨rfl,List.cons_lt_cons_iff.2 (.inr ⟨rfl,List.cons_lt_cons_iff.2 (.inr ⟨rfl,List.cons_lt_cons_iff.2 (.inl (by decide))⟩)⟩)⟩)
theorem zzr (n:Nat) (s v:Sp):zbi zau v [(walNm n,s)]=[(walNm n,s),(zau,v)]:=by
 unfold zbi;rw[if_pos (wal_lt n)];rfl
theorem zky (o:List Nat):(wrote sp0 0 o).now=o:=by
 unfold wrote;split
 ·rename_i h
  rw[List.eq_nil_of_length_eq_zero h];rfl
 ·show zji [(false,0,o)] []=o
  simp[zji,zc5,zap,zcj]
theorem zt6 (k:Nm) (s:Sp):usedS [(k,s)]=s.now.length:=by simp[usedS]
theorem zr:zgd zau=true:=by decide
theorem zfq {room n e:Nat} {b:List Nat} {ss s:Ds} (h:za1 room n b ss=(e,s)):zbm room n b ss=(if e=0 then (0,s) else (e,(zat zau s).2)):=by
 unfold zbm;rw[h];dsimp only;by_cases h0:e=0
 ·rw[if_pos h0,if_pos h0,h0]
 ·rw[if_neg h0,if_neg h0]
theorem zyj (room n:Nat) (b:List Nat) (s:Sp) (h1:1≤n) (h2:n≤1099511627776):zbm room n b [(walNm n,s)]=(if 262144<b.length then (6,[(walNm n,s)]) else if room<s.now.length+b.length then (9,[(walNm n,s)]) else if n=1099511627776 then (6,[(walNm n,s)]) else (0,[(walNm (n+1),⟨true,b,[]⟩)])):=by
 have hg:zcc zau [(walNm n,s)]=none:=zza (zlr n) s;have hr:zat zau [(walNm n,s)]=(8,[(walNm n,s)]):=by unfold zat;rw[hg]
 have hne:walNm (n+1)≠walNm n:=fun e=>by have:=walNm_inj (by omega) (by omega) e;omega
 have e0:(((none:Option Sp).getD sp0).now.length:Int)=0:=rfl;have hw:zai room zau 0 b [(walNm n,s)]=(if 262144<b.length then (6,[(walNm n,s)]) else if room<s.now.length+b.length then (9,[(walNm n,s)]) else (0,[(walNm n,s),(zau,wrote sp0 0 b)])):=by
  unfold zai;rw[if_neg (by rw[zr];simp),hg,if_neg (by rw[e0];omega)];by_cases h3:262144<b.length
  ·rw[if_pos (.inr (by omega)),if_pos h3]
  ·rw[if_neg (by
    rintro(⟨_,h⟩|h)
    ·simp at h
    ·omega),if_neg h3,zt6]
   by_cases h4:room<s.now.length+b.length
   ·rw[if_pos (by rw[e0];omega),if_pos h4]
   ·rw[if_neg (by rw[e0];omega),if_neg h4,zzr];rfl
 by_cases h3:262144<b.length
 ·rw[if_pos h3] at hw;have hR:za1 room n b [(walNm n,s)]=(6,[(walNm n,s)]):=by
   unfold za1;rw[hw,if_pos (by simp)]
  rw[zfq hR,if_neg (by omega),hr,if_pos h3]
 ·rw[if_neg h3] at hw;by_cases h4:room<s.now.length+b.length
  ·rw[if_pos h4] at hw;have hR:za1 room n b [(walNm n,s)]=(9,[(walNm n,s)]):=by
    unfold za1;rw[hw,if_pos (by simp)]
   rw[zfq hR,if_neg (by omega),hr,if_neg h3,if_pos h4]
  ·rw[if_neg h4] at hw;have hR0:zbf [(walNm n,s),(zau,wrote sp0 0 b)]:=by
    unfold zbf;simp[wal_lt n]
   have hg2:zcc zau [(walNm n,s),(zau,wrote sp0 0 b)]=some (wrote sp0 0 b):=zgc hR0 (by simp);have hs:zax zau [(walNm n,s),(zau,wrote sp0 0 b)]=(0,[(walNm n,s),(zau,⟨true,b,[]⟩)]):=by
    unfold zax;rw[hg2];dsimp only;rw[zky];unfold zbi;rw[if_pos (wal_lt n),zen]
   have hd:zdm zau [(walNm n,s),(zau,(⟨true,b,[]⟩:Sp))]=[(walNm n,s)]:=by
    simp[zdm,zlr n]
   have hR2:zbf [(walNm n,s),(zau,(⟨true,b,[]⟩:Sp))]:=by
    unfold zbf;simp[wal_lt n]
   have hg3:zcc zau [(walNm n,s),(zau,(⟨true,b,[]⟩:Sp))]=some ⟨true,b,[]⟩:=zgc hR2 (by simp);by_cases h5:n=1099511627776
   ·have hR:za1 room n b [(walNm n,s)]=(6,[(walNm n,s),(zau,⟨true,b,[]⟩)]):=by
     unfold za1;rw[hw,if_neg (by simp),hs,if_neg (by simp),if_pos h5]
    have hrm:zat zau [(walNm n,s),(zau,(⟨true,b,[]⟩:Sp))]=(0,[(walNm n,s)]):=by
     unfold zat;rw[hg3];dsimp only;rw[hd]
    rw[zfq hR,if_neg (by omega),hrm,if_neg h3,if_neg h4,if_pos h5]
   ·have hrn:zak zau (walNm (n+1)) [(walNm n,s),(zau,(⟨true,b,[]⟩:Sp))]=(0,zbi (walNm (n+1)) ⟨true,b,[]⟩ [(walNm n,s)]):=by
     unfold zak;rw[hg3];dsimp only;rw[if_pos (walNm_ok (n+1) (by omega)),hd]
    have hR3:zbf [(walNm n,s)]:=by unfold zbf;simp
    have hg4:zcc (walNm n) (zbi (walNm (n+1)) (⟨true,b,[]⟩:Sp) [(walNm n,s)])=some s:=by
     rw[zfj hR3,if_neg (fun e=>hne e.symm),zbs]
    have hrm:zat (walNm n) (zbi (walNm (n+1)) (⟨true,b,[]⟩:Sp) [(walNm n,s)])=(0,[(walNm (n+1),⟨true,b,[]⟩)]):=by
     unfold zat;rw[hg4];dsimp only;unfold zbi;split
     ·simp[zbi,zdm,hne]
     ·rw[if_neg (fun e=>hne e.symm)];simp[zdm,hne]
    have hR:za1 room n b [(walNm n,s)]=(0,[(walNm (n+1),⟨true,b,[]⟩)]):=by
     unfold za1;rw[hw,if_neg (by simp),hs,if_neg (by simp),if_neg h5,if_neg (by simp),hrn,if_neg (by simp;omega),hrm]
    rw[zfq hR,if_pos rfl,if_neg h3,if_neg h4,if_neg h5]
theorem zhr (room:Nat):zfc room []=(if room<22 then (9,[],none) else (0,[(walNm 1,⟨true,za7 wc0,[]⟩)],some (wc0,1))):=by
 have hb:(za7 wc0).length=22:=by decide +kernel
 have hw:zai room zau 0 (za7 wc0) []=(if room<22 then (9,[]) else (0,[(zau,wrote sp0 0 (za7 wc0))])):=by
  have e0:(((zcc zau ([]:Ds)).getD sp0).now.length:Int)=0:=rfl;unfold zai
  rw[if_neg (by rw[zr];simp),if_neg (by rw[e0];omega),if_neg (by
   rintro(⟨_,h⟩|h)
   ·simp at h
   ·rw[hb] at h;omega)]
  by_cases h4:room<22
  ·rw[if_pos (by rw[e0,hb];simp[usedS];omega),if_pos h4]
  ·rw[if_neg (by rw[e0,hb];simp[usedS];omega),if_neg h4];rfl
 unfold zfc;rw[if_neg (by simp[zd8])];show(if (zbm room 0 (za7 wc0) []).1≠0 then ((zbm room 0 (za7 wc0) []).1,(zbm room 0 (za7 wc0) []).2,none) else zfr (zf5 1 wc0 (zbm room 0 (za7 wc0) []).2))=_
 by_cases h4:room<22
 ·rw[if_pos h4] at hw;have hR:za1 room 0 (za7 wc0) []=(9,[]):=by
   unfold za1;rw[hw,if_pos (by simp)]
  have ha:zbm room 0 (za7 wc0) []=(9,[]):=by
   rw[zfq hR];rfl
  rw[ha,if_pos (by simp),if_pos h4]
 ·rw[if_neg h4] at hw;have hR:za1 room 0 (za7 wc0) []=(0,[(walNm 1,⟨true,za7 wc0,[]⟩)]):=by
   unfold za1;rw[hw];have hs:zax zau [(zau,wrote sp0 0 (za7 wc0))]=(0,[(zau,⟨true,za7 wc0,[]⟩)]):=by
    unfold zax;rw[zbs];dsimp only;rw[zky,zen]
   have hrn:zak zau (walNm (0+1)) [(zau,(⟨true,za7 wc0,[]⟩:Sp))]=(0,[(walNm 1,⟨true,za7 wc0,[]⟩)]):=by
    unfold zak;rw[zbs];dsimp only;rw[if_pos (walNm_ok 1 (by omega))];simp[zdm,zbi]
   rw[if_neg (by simp),hs,if_neg (by simp),if_neg (by omega),if_neg (by simp),if_pos (.inr rfl),hrn]
  have ha:zbm room 0 (za7 wc0) []=(0,[(walNm 1,⟨true,za7 wc0,[]⟩)]):=by
   rw[zfq hR,if_pos rfl]
  rw[ha,if_neg (by simp),if_neg h4];have hl:zf5 1 wc0 [(walNm 1,⟨true,za7 wc0,[]⟩)]=(0,[(walNm 1,⟨true,za7 wc0,[]⟩)],wc0,1):=by kernel_rfl
  rw[hl];rfl
theorem zri (n:Nat) (c0 c:Wc) (s:Sp) (rs:List (List Nat)) (t:List Nat) (hn:s.now=cat rs++t) (ht:zca t 0=3) (hl:∀ r∈rs,r.length≤65536) (hc:zc4 rs=some c) (hla:s.la=true) :
  zf5 n c0 [(walNm n,s)]=(0,[(walNm n,⟨true,cat rs,[]⟩)],c,n):=by
 have h1:zdn (walNm n) [(walNm n,s)]=cat rs++t:=by unfold zdn;rw[zbs];exact hn
 obtain⟨q1,q2⟩:=zzw rs t hl ht;have h2:zdq (cat rs++t)=(rs,(cat rs).length):=zog q1 q2 (by rw[List.length_append];omega);have h3:zf (walNm n) ((cat rs).length:Int) [(walNm n,s)]=(0,[(walNm n,⟨s.la,s.y,s.cs++[(true,(cat rs).length,[])]⟩)]):=by
  unfold zf;rw[zbs];dsimp only;rw[if_neg (by rw[hn,List.length_append];omega),zen,Int.toNat_natCast]
 have h4:zax (walNm n) [(walNm n,⟨s.la,s.y,s.cs++[(true,(cat rs).length,[])]⟩)]=(0,[(walNm n,⟨true,cat rs,[]⟩)]):=by
  unfold zax;rw[zbs];dsimp only;rw[zen];have:(⟨s.la,s.y,s.cs++[(true,(cat rs).length,[])]⟩:Sp).now=cat rs:=by
   show zji (s.cs++[(true,(cat rs).length,[])]) s.y=_
   rw[zg5,show zji s.cs s.y=cat rs++t from hn];show(cat rs++t).take (cat rs).length=_
   rw[List.take_left]
  rw[this]
 unfold zf5;rw[if_neg (by unfold zex;rw[zbs];simp),h1,h2];dsimp only;rw[hc];dsimp only;rw[h3,if_neg (by simp),h4]
theorem zlu (room n:Nat) (s:Sp) (h1:1≤n) (h2:n≤1099511627776):zfc room [(walNm n,s)]=zfr (zf5 n wc0 [(walNm n,s)]):=by
 have hg:zd8 ([(walNm n,s)].map (·.1)) 0=n:=by
  show max 0 (zm6 (walNm n))=n
  rw[zhm n h1 h2];omega
 unfold zfc;rw[hg,if_pos (by omega)];show zfr (zf5 n wc0 (if zAj n (walNm n)=true then _ else [(walNm n,s)]))=_
 have ho:zAj n (walNm n)=false:=by
  unfold zAj;rw[zhm n h1 h2];simp[zlr n]
 rw[if_neg (by rw[ho];simp)]
structure LS (room:Nat) (ss:Ds) (c:Wc) (n:Nat) (r1 r2:List (List Nat)):Prop where
 n1:1≤n
 n2:n≤1099511627776
 fil:∃ cs,ss=[(walNm n,⟨true,cat r1,cs⟩)]∧zym cs (cat r1) (cat r2)
 cont:zc4 (r1++r2)=some c
 first:∃ c1,zc4 r1=some c1
 len:∀ r∈r1++r2,r.length≤65536
 fit:(cat (r1++r2)).length≤room
section
variable {room n:Nat} {ss:Ds} {c:Wc} {r1 r2:List (List Nat)}
theorem LS.ix (h:LS room ss c n r1 r2):Ix c:=zyv h.cont
theorem LS.one {rs:List (List Nat)} (h1:1≤n) (h2:n≤1099511627776) (hc:zc4 rs=some c) (hl:∀ r∈rs,r.length≤65536) (hf:(cat rs).length≤room):LS room [(walNm n,⟨true,cat rs,[]⟩)] c n rs [] :=
 ⟨h1,h2,⟨[],rfl,rfl⟩,by rw[List.append_nil];exact hc,⟨c,hc⟩,by rw[List.append_nil];exact hl,by rw[List.append_nil];exact hf⟩
theorem LS.begin (hr:22≤room):zfc room []=(0,[(walNm 1,⟨true,cat (zue wc0),[]⟩)],some (wc0,1))∧LS room [(walNm 1,⟨true,cat (zue wc0),[]⟩)] wc0 1 (zue wc0) []:=by
 have hb:(za7 wc0).length=22:=by decide +kernel
 refine⟨?_,LS.one (by omega) (by omega) (zmk zj2 Ix.nil) (zs7 zj2) (by rw[zj9,hb];exact hr)⟩;rw[zj9,zhr,if_neg (by omega)]
theorem LS.now (h:LS room ss c n r1 r2):∃ s,ss=[(walNm n,s)]∧s.la=true∧s.now=cat (r1++r2):=by
 obtain⟨cs,rfl,ha⟩:=h.fil;refine⟨_,rfl,rfl,?_⟩;show zji cs (cat r1)=_
 rw[ha.now,zgu]
theorem LS.again (h:LS room ss c n r1 r2):zfc room ss=(0,[(walNm n,⟨true,cat (r1++r2),[]⟩)],some (c,n))∧LS room [(walNm n,⟨true,cat (r1++r2),[]⟩)] c n (r1++r2) []:=by
 obtain⟨s,rfl,h1,h2⟩:=h.now;refine⟨?_,LS.one h.n1 h.n2 h.cont h.len h.fit⟩;rw[zlu room n s h.n1 h.n2,zri n wc0 c s (r1++r2) [] (by rw[h2,List.append_nil]) zkx h.len h.cont h1];rfl
theorem LS.sync (h:LS room ss c n r1 r2):zax (walNm n) ss=(0,[(walNm n,⟨true,cat (r1++r2),[]⟩)])∧LS room [(walNm n,⟨true,cat (r1++r2),[]⟩)] c n (r1++r2) []:=by
 obtain⟨s,rfl,h1,h2⟩:=h.now;refine⟨?_,LS.one h.n1 h.n2 h.cont h.len h.fit⟩;unfold zax;rw[zbs];dsimp only;rw[zen,h2]
theorem LS.crash (h:LS room ss c n r1 r2) (ks:List Int):∃ m c',m≤r2.length∧zc4 (r1++r2.take m)=some c'∧zfc room (za5 ks 0 ss)=(0,[(walNm n,⟨true,cat (r1++r2.take m),[]⟩)],some (c',n))∧LS room [(walNm n,⟨true,cat (r1++r2.take m),[]⟩)] c' n (r1++r2.take m) []:=by
 obtain⟨cs,rfl,ha⟩:=h.fil;obtain⟨c1,hc1⟩:=h.first;have hcr:za5 ks 0 [(walNm n,(⟨true,cat r1,cs⟩:Sp))]=[(walNm n,⟨true,cat r1++(cat r2).take (zbw ks 0),[]⟩)]:=by
  show zcf (zbw ks 0) (walNm n,(⟨true,cat r1,cs⟩:Sp))++[]=_
  unfold zcf;rw[if_neg (by simp),ha.crash];rfl
 have hl2:∀ r∈r2,r.length≤65536:=fun r hr=>h.len r (List.mem_append_right _ hr);obtain⟨m,t,hm,e1,e2⟩:∃ m t,m≤r2.length∧(cat r2).take (zbw ks 0)=cat (r2.take m)++t∧zca t 0=3:=by
  by_cases hU:zbw ks 0≤(cat r2).length
  ·obtain⟨m,t,a,b,d,_⟩:=zAf r2 _ hl2 hU;exact⟨m,t,a,b,d⟩
  ·exact⟨r2.length,[],Nat.le_refl _,by rw[List.take_of_length_le (by omega),List.take_length,List.append_nil],zkx⟩
 obtain⟨c',hc'⟩:=zuy m (zuh hc1 h.cont);have hcont:zc4 (r1++r2.take m)=some c':=zph hc1 hc';have hlen:∀ r∈r1++r2.take m,r.length≤65536:=fun r hr=>by
  rcases List.mem_append.1 hr with hr|hr
  ·exact h.len r (List.mem_append_left _ hr)
  ·exact hl2 r (List.mem_of_mem_take hr)
 have hfit:(cat (r1++r2.take m)).length≤room:=by
  have h1:=h.fit;have h2:((cat r2).take (zbw ks 0)).length=(cat (r2.take m)++t).length:=by rw[e1]
  rw[zgu,List.length_append] at h1 ⊢;rw[List.length_take,List.length_append] at h2;omega
 refine⟨m,c',hm,hcont,?_,LS.one h.n1 h.n2 hcont hlen hfit⟩;rw[hcr,zlu room n _ h.n1 h.n2,zri n wc0 c' _ (r1++r2.take m) t ?_ e2 hlen hcont rfl]
 ·rfl
 ·show cat r1++(cat r2).take (zbw ks 0)=_
  rw[e1,zgu,List.append_assoc]
theorem LS.add (h:LS room ss c n r1 r2) {rs:List (List Nat)} {c':Wc} (hb:(cat rs).length+(cat (r1++r2)).length≤262144) (hf:zb4 c rs=some c') (hl:∀ r∈rs,r.length≤65536) :
  (room<(cat (r1++r2)).length+(cat rs).length∧zc0 room n c (cat rs) ss=(9,ss,n))∨∃ ss',zc0 room n c (cat rs) ss=(0,ss',n)∧LS room ss' c' n r1 (r2++rs):=by
 obtain⟨cs,hss,ha⟩:=h.fil;obtain⟨s,hs,hla,hnow⟩:=h.now;have hnl:zdn (walNm n) ss=cat (r1++r2):=by rw[hs];unfold zdn;rw[zbs];exact hnow
 have hre:zex (walNm n) ss=0:=by rw[hs];unfold zex;rw[zbs];rfl
 have hw:zai room (walNm n) ((cat (r1++r2)).length:Int) (cat rs) ss=(if room<(cat (r1++r2)).length+(cat rs).length then (9,ss) else (0,[(walNm n,wrote s (cat (r1++r2)).length (cat rs))])):=by
  unfold zai;rw[hs,if_neg (by rw[walNm_ok n (by have:=h.n2;omega)];simp),zbs];have e0:((some s).getD sp0).now.length=(cat (r1++r2)).length:=by show s.now.length=_;rw[hnow]
  rw[e0,if_neg (by omega),if_neg (by
   rintro(⟨h,_⟩|h)
   ·simp at h
   ·omega),zt6,hnow]
  by_cases h4:room<(cat (r1++r2)).length+(cat rs).length
  ·rw[if_pos (by omega),if_pos h4]
  ·rw[if_neg (by omega),if_neg h4,zen,Int.toNat_natCast];rfl
 unfold zc0;rw[hre,if_neg (by simp),hnl,if_pos hb,hw];by_cases h4:room<(cat (r1++r2)).length+(cat rs).length
 ·left
  rw[if_pos h4];exact⟨h4,rfl⟩
 ·right
  rw[if_neg h4];refine⟨_,rfl,h.n1,h.n2,?_,?_,h.first,?_,?_⟩
  ·rw[hss] at hs;simp only[List.cons.injEq,Prod.mk.injEq,true_and,and_true] at hs;subst hs;unfold wrote;split
   ·rename_i h0
    have hz:cat rs=[]:=List.eq_nil_of_length_eq_zero h0;exact⟨cs,rfl,by rw[zgu,hz,List.append_nil];exact ha⟩
   ·refine⟨_,rfl,?_⟩;have:=ha.snoc (cat rs);rw[← zgu,← zgu] at this;exact this
  ·rw[← List.append_assoc];exact zph h.cont hf
  ·intro r hr;rw[← List.append_assoc] at hr;rcases List.mem_append.1 hr with hr|hr
   ·exact h.len r hr
   ·exact hl r hr
  ·rw[← List.append_assoc,zgu,List.length_append];omega
theorem LS.anew (h:LS room ss c n r1 r2) {c2:Wc} (hk:WOk c2) (hi:Ix c2) :
  (∃ e,e≠0∧zbm room n (za7 c2) ss=(e,ss))∨(n+1≤1099511627776∧(za7 c2).length≤262144∧zbm room n (za7 c2) ss=(0,[(walNm (n+1),⟨true,cat (zue c2),[]⟩)])∧LS room [(walNm (n+1),⟨true,cat (zue c2),[]⟩)] c2 (n+1) (zue c2) []):=by
 obtain⟨s,rfl,hla,hnow⟩:=h.now;rw[zyj room n (za7 c2) s h.n1 h.n2];have hn:=h.n2;split
 ·exact .inl ⟨6,by omega,rfl⟩
 split
 ·exact .inl ⟨9,by omega,rfl⟩
 split
 ·exact .inl ⟨6,by omega,rfl⟩
 ·right
  rename_i h3 h4 h5
  refine⟨by omega,by omega,by rw[zj9],LS.one (by omega) (by omega) (zmk hk hi) (zs7 hk) ?_⟩;rw[zj9];omega
theorem LS.new (h:LS room ss c n r1 r2) {c2:Wc} (hk:WOk c2) (hi:Ix c2) :
  (∃ e,e≠0∧zrm room n c c2 ss=(e,ss,c,n))∨(∃ ss',zrm room n c c2 ss=(0,ss',c2,n+1)∧LS room ss' c2 (n+1) (zue c2) []):=by
 unfold zrm;rcases h.anew hk hi with⟨e,he,h1⟩|⟨_,_,h1,h2⟩
 ·rw[h1,if_pos he];exact .inl ⟨e,he,rfl⟩
 ·rw[h1,if_neg (by simp)];exact .inr ⟨_,rfl,h2⟩
end
theorem zBf {w:World} {a:Addr} {cs:List Value} (h:w.cells? 0 a 4=some cs):∃ v0 v1 v2 v3,cs=[v0,v1,v2,v3]∧w.cell? (a.add 0)=some v0∧w.cell? (a.add 1)=some v1∧w.cell? (a.add 2)=some v2∧w.cell? (a.add 3)=some v3:=by
 unfold World.cells? at h;rw[if_pos (Nat.zero_le _)] at h;simp only[show List.range 4=[0,1,2,3] from rfl,List.mapM_cons,List.mapM_nil,Option.bind_eq_bind,Option.bind_eq_some_iff,Option.pure_def,Option.some.injEq] at h;obtain⟨v0,h0,r,⟨v1,h1,r1,⟨v2,h2,r2,⟨v3,h3,r3,rfl,rfl⟩,rfl⟩,rfl⟩,rfl⟩:=h;exact⟨v0,v1,v2,v3,rfl,h0,h1,h2,h3⟩
def zyn (e:EntI):Prop:=(-9223372036854775808≤e.1∧e.1≤9223372036854775807)∧(-9223372036854775808≤e.2.1∧e.2.1≤9223372036854775807)∧(-9223372036854775808≤e.2.2.1∧e.2.2.1≤9223372036854775807)∧e.2.2.2.length≤maxLen
theorem zy6 {H:Type} {enc:TypeId×Value→H} {W:World} {a:Option Addr} {len cap:Nat} {d:DataW H} {p:List MemPlace}
  (h:DataW.Trod enc Tryz.prog W 0 (fun _=>true) true 27 (.slice a len cap) d p) :
  ∃ es:List EntI,es.length=len∧len≤maxLen∧EntsAt W a es∧∀ e∈es,zyn e:=by
 obtain⟨fuel,hf⟩:=h;have c4:Tryz.prog.cellsOf 64=4:=by kernel_rfl
 rcases Deep.open_slice Tryz.underlying27 hf with⟨hcs,_⟩|⟨x,l,c,m,n,D,Pl,hcs,_,hl,hm,hm',_,hel⟩
 ·simp[Value.cells] at hcs;obtain⟨rfl,rfl,rfl⟩:=hcs;exact⟨[],rfl,by simp[maxLen],⟨by simp⟩,by simp⟩
 ·simp[Value.cells] at hcs;obtain⟨rfl,rfl,rfl⟩:=hcs;have hmm:m=cap:=by simpa using hm'
  rw[c4] at hel;have hone:∀ i,i<len→∃ (e:EntI) (dp:Option Addr) (dc:Nat),W.cell? ((x.add (i*4)).add 0)=some (.int .i64 e.1)∧W.cell? ((x.add (i*4)).add 1)=some (.int .i64 e.2.1)∧W.cell? ((x.add (i*4)).add 2)=some (.int .i64 e.2.2.1)∧W.cell? ((x.add (i*4)).add 3)=some (.slice dp e.2.2.2.length dc)∧BytesAt W dp e.2.2.2∧(dp=none→dc=0)∧zyn e:=by
   intro i hi;obtain⟨cs',h1,h2⟩:=hel i (by omega);obtain⟨v0,v1,v2,v3,rfl,g0,g1,g2,g3⟩:=zBf h1;obtain⟨y0,y1,y2,y3,n',_,_,t0,t1,t2,t3⟩:=Joins.trod_struct4 Tryz.underlying64 h2;obtain⟨k,e0,_,w0⟩:=DataW.trod_int Tryz.underlying61 (show DataW.trod enc Tryz.prog W 0 (fun _=>true) true n' 61 [v0]=some y0 from t0);obtain⟨t,e1,_,w1⟩:=DataW.trod_int Tryz.underlying3 (show DataW.trod enc Tryz.prog W 0 (fun _=>true) true n' 3 [v1]=some y1 from t1);obtain⟨j,e2,_,w2⟩:=DataW.trod_int Tryz.underlying3 (show DataW.trod enc Tryz.prog W 0 (fun _=>true) true n' 3 [v2]=some y2 from t2);have t3':DataW.trod enc Tryz.prog W 0 (fun _=>true) true n' 62 [v3]=some y3:=t3;obtain⟨a',l',c',e3⟩:=Joins.slice_form Tryz.underlying62 t3';simp only[List.cons.injEq,and_true] at e0 e1 e2 e3;subst e0 e1 e2 e3;have hs:DataW.Trod enc Tryz.prog W 0 (fun _=>true) true 62 (.slice a' l' c') y3.1 y3.2:=⟨n',t3'⟩
   obtain⟨bs,rfl,hc,hx,hb,hz,_⟩:=row8 hs;exact⟨(k,t,j,bs),a',c',g0,g1,g2,g3,hb,hz,zdg w0,zdg w1,zdg w2,by simp only;omega⟩
  obtain⟨f,hfp⟩:=Deep.choose_lt (n:=len) (p:=fun i (e:EntI)=>∃ (dp:Option Addr) (dc:Nat),W.cell? ((x.add (i*4)).add 0)=some (.int .i64 e.1)∧W.cell? ((x.add (i*4)).add 1)=some (.int .i64 e.2.1)∧W.cell? ((x.add (i*4)).add 2)=some (.int .i64 e.2.2.1)∧W.cell? ((x.add (i*4)).add 3)=some (.slice dp e.2.2.2.length dc)∧BytesAt W dp e.2.2.2∧(dp=none→dc=0)∧zyn e) (fun i hi=>hone i hi);refine⟨(List.range len).map f,by simp,by omega,⟨fun i hi=>?_⟩,?_⟩
  ·simp only[List.length_map,List.length_range] at hi;obtain⟨dp,dc,h0,h1,h2,h3,h4,h5,_⟩:=hfp i hi;have e:((List.range len).map f)[i]'(by simpa using hi)=f i:=by simp
   rw[e];obtain⟨b,off,spot⟩:=x;obtain⟨_,_,h00,_⟩:=hfp 0 (by omega);have hspot:spot=none:=by simpa [Addr.add] using World.cell?_spot h00
   subst hspot;simp only[Addr.add_lit] at h0 h1 h2 h3;exact⟨b,off,dp,dc,rfl,h0,h1,h2,h3,h4,h5⟩
  ·intro e he;obtain⟨i,hi,rfl⟩:=List.mem_map.1 he;obtain⟨dp,dc,_,_,_,_,_,_,h6⟩:=hfp i (List.mem_range.1 hi);exact h6
structure Wd where
 kind:Int
 es:List EntI
 ht:Int
 hv:Int
 mi:Int
 mt:Int
 keep:List Int
instance:Inhabited Wd:=⟨⟨0,[],0,0,0,0,[]⟩⟩
structure WdH where
 ep:Option Addr
 ec:Nat
 kp:Option Addr
 kc:Nat
def zhy (e:Wd) (h:WdH):Array Value:=#[.int .i64 e.kind,.slice h.ep e.es.length h.ec,.int .i64 e.ht,.int .i64 e.hv,.int .i64 e.mi,.int .i64 e.mt,.slice h.kp e.keep.length h.kc]
def w64 (n:Int):Prop:=-9223372036854775808≤n∧n≤9223372036854775807
structure WdAt (w:World) (e:Wd) (h:WdH):Prop where
 wk:w64 e.kind
 wt:w64 e.ht
 wv:w64 e.hv
 wi:w64 e.mi
 wm:w64 e.mt
 se:e.es.length≤maxLen
 sk:e.keep.length≤maxLen
 en:EntsAt w h.ep e.es
 eb:∀ x∈e.es,zyn x
 ks:IntsAt w h.kp e.keep
theorem WdAt.later {w w':World} {e:Wd} {h:WdH} (x:WdAt w e h) (hb:Below w.heap.size w w'):WdAt w' e h:=⟨x.wk,x.wt,x.wv,x.wi,x.wm,x.se,x.sk,x.en.later hb,x.eb,x.ks.later hb⟩
def zA8 (e:Wd) (h:WdH) (w:World) (b off:Nat):Prop :=
 w.cell? ⟨b,off,none⟩=some (.int .i64 e.kind)∧w.cell? ⟨b,off+1,none⟩=some (.slice h.ep e.es.length h.ec)∧w.cell? ⟨b,off+2,none⟩=some (.int .i64 e.ht)∧w.cell? ⟨b,off+3,none⟩=some (.int .i64 e.hv) ∧
 w.cell? ⟨b,off+4,none⟩=some (.int .i64 e.mi)∧w.cell? ⟨b,off+5,none⟩=some (.int .i64 e.mt)∧w.cell? ⟨b,off+6,none⟩=some (.slice h.kp e.keep.length h.kc)
structure WdsAt (w:World) (a:Option Addr) (es:List Wd):Prop where
 cell:∀ i (hi:i<es.length),∃ b off h,a=some ⟨b,off,none⟩∧zA8 es[i] h w b (off+i*7)∧WdAt w es[i] h
theorem zBg {w:World} {a:Addr} {cs:List Value} (h:w.cells? 0 a 7=some cs):∃ v0 v1 v2 v3 v4 v5 v6,cs=[v0,v1,v2,v3,v4,v5,v6]∧w.cell? (a.add 0)=some v0∧w.cell? (a.add 1)=some v1∧w.cell? (a.add 2)=some v2∧w.cell? (a.add 3)=some v3∧w.cell? (a.add 4)=some v4∧w.cell? (a.add 5)=some v5∧w.cell? (a.add 6)=some v6:=by
 unfold World.cells? at h;rw[if_pos (Nat.zero_le _)] at h;simp only[show List.range 7=[0,1,2,3,4,5,6] from rfl,List.mapM_cons,List.mapM_nil,Option.bind_eq_bind,Option.bind_eq_some_iff,Option.pure_def,Option.some.injEq] at h;obtain⟨v0,h0,r,⟨v1,h1,r1,⟨v2,h2,r2,⟨v3,h3,r3,⟨v4,h4,r4,⟨v5,h5,r5,⟨v6,h6,r6,rfl,rfl⟩,rfl⟩,rfl⟩,rfl⟩,rfl⟩,rfl⟩,rfl⟩:=h;exact⟨v0,v1,v2,v3,v4,v5,v6,rfl,h0,h1,h2,h3,h4,h5,h6⟩
theorem list5 {α:Type} {l:List α} (h:l.length=5):∃ c0 c1 c2 c3 c4,l=[c0,c1,c2,c3,c4]:=by
 match l,h with
 |[c0,c1,c2,c3,c4],_=>exact⟨c0,c1,c2,c3,c4,rfl⟩
theorem zBn {α:Type} {l:List α} (h:l.length=2):∃ c0 c1,l=[c0,c1]:=by
 match l,h with
 |[c0,c1],_=>exact⟨c0,c1,rfl⟩
theorem zp7 {H:Type} {enc:TypeId×Value→H} {W:World} {n:Nat} {v0 v1:Value} {y:DataW H×List MemPlace} {t:TypeId} (h:t=29∨t=31)
  (h2:DataW.trod enc Tryz.prog W 0 (fun _=>true) true n t [v0,v1]=some y):∃ a b,v0=.int .i64 a∧v1=.int .i64 b∧w64 a∧w64 b:=by
 rcases h with rfl|rfl
 ·obtain⟨xs,n',_,_,_,hx,hfs⟩:=DataW.trod_struct Tryz.underlying29 h2;obtain⟨y0,y1,rfl⟩:=zBn (show xs.length=2 from hx);obtain⟨k,e0,_,w0⟩:=DataW.trod_int Tryz.underlying3 (show DataW.trod enc Tryz.prog W 0 (fun _=>true) true n' 3 [v0]=some y0 from hfs 0 _ rfl);obtain⟨j,e1,_,w1⟩:=DataW.trod_int Tryz.underlying3 (show DataW.trod enc Tryz.prog W 0 (fun _=>true) true n' 3 [v1]=some y1 from hfs 1 _ rfl);simp only[List.cons.injEq,and_true] at e0 e1;exact⟨k,j,e0,e1,zdg w0,zdg w1⟩
 ·obtain⟨xs,n',_,_,_,hx,hfs⟩:=DataW.trod_struct Tryz.underlying31 h2;obtain⟨y0,y1,rfl⟩:=zBn (show xs.length=2 from hx);obtain⟨k,e0,_,w0⟩:=DataW.trod_int Tryz.underlying3 (show DataW.trod enc Tryz.prog W 0 (fun _=>true) true n' 3 [v0]=some y0 from hfs 0 _ rfl);obtain⟨j,e1,_,w1⟩:=DataW.trod_int Tryz.underlying3 (show DataW.trod enc Tryz.prog W 0 (fun _=>true) true n' 3 [v1]=some y1 from hfs 1 _ rfl);simp only[List.cons.injEq,and_true] at e0 e1;exact⟨k,j,e0,e1,zdg w0,zdg w1⟩
theorem zA9 {H:Type} {enc:TypeId×Value→H} {W:World} {n:Nat} {v0 v1 v2 v3 v4 v5 v6:Value} {y:DataW H×List MemPlace}
  (h2:DataW.trod enc Tryz.prog W 0 (fun _=>true) true n 34 [v0,v1,v2,v3,v4,v5,v6]=some y) :
  ∃ (e:Wd) (h:WdH),v0=.int .i64 e.kind∧v1=.slice h.ep e.es.length h.ec∧v2=.int .i64 e.ht∧v3=.int .i64 e.hv∧v4=.int .i64 e.mi∧v5=.int .i64 e.mt∧v6=.slice h.kp e.keep.length h.kc∧WdAt W e h:=by
 obtain⟨xs,n',_,_,_,hx,hfs⟩:=DataW.trod_struct Tryz.underlying34 h2;obtain⟨y0,y1,y2,y3,y4,rfl⟩:=list5 (show xs.length=5 from hx);obtain⟨k,e0,_,w0⟩:=DataW.trod_int Tryz.underlying3 (show DataW.trod enc Tryz.prog W 0 (fun _=>true) true n' 3 [v0]=some y0 from hfs 0 _ rfl);have t1:DataW.trod enc Tryz.prog W 0 (fun _=>true) true n' 27 [v1]=some y1:=hfs 1 _ rfl;obtain⟨t,u,e2,e3,w2,w3⟩:=zp7 (.inl rfl) (show DataW.trod enc Tryz.prog W 0 (fun _=>true) true n' 29 [v2,v3]=some y2 from hfs 2 _ rfl);obtain⟨i,j,e4,e5,w4,w5⟩:=zp7 (.inr rfl) (show DataW.trod enc Tryz.prog W 0 (fun _=>true) true n' 31 [v4,v5]=some y3 from hfs 3 _ rfl);have t6:DataW.trod enc Tryz.prog W 0 (fun _=>true) true n' 32 [v6]=some y4:=hfs 4 _ rfl;obtain⟨a1,l1,c1,e1⟩:=Joins.slice_form Tryz.underlying27 t1;obtain⟨a6,l6,c6,e6⟩:=Joins.slice_form Tryz.underlying32 t6;simp only[List.cons.injEq,and_true] at e0 e1 e6;subst e0 e1 e2 e3 e4 e5 e6;have hs1:DataW.Trod enc Tryz.prog W 0 (fun _=>true) true 27 (.slice a1 l1 c1) y1.1 y1.2:=⟨n',t1⟩
 have hs6:DataW.Trod enc Tryz.prog W 0 (fun _=>true) true 32 (.slice a6 l6 c6) y4.1 y4.2:=⟨n',t6⟩
 obtain⟨es,rfl,he,hE,hB⟩:=zy6 hs1;obtain⟨ks,rfl,hk,hI⟩:=zBy hs6;exact⟨⟨k,es,t,u,i,j,ks⟩,⟨a1,c1,a6,c6⟩,rfl,rfl,rfl,rfl,rfl,rfl,rfl,zdg w0,w2,w3,w4,w5,he,hk,hE,hB,hI⟩
theorem zhh {H:Type} {enc:TypeId×Value→H} {W:World} {a:Option Addr} {len cap:Nat} {d:DataW H} {p:List MemPlace}
  (h:DataW.Trod enc Tryz.prog W 0 (fun _=>true) true 22 (.slice a len cap) d p) :
  ∃ es:List Wd,es.length=len∧len≤maxLen∧WdsAt W a es:=by
 obtain⟨fuel,hf⟩:=h;have c7:Tryz.prog.cellsOf 34=7:=by kernel_rfl
 rcases Deep.open_slice Tryz.underlying22 hf with⟨hcs,_⟩|⟨x,l,c,m,n,D,Pl,hcs,_,hl,hm,hm',_,hel⟩
 ·simp[Value.cells] at hcs;obtain⟨rfl,rfl,rfl⟩:=hcs;exact⟨[],rfl,by simp[maxLen],⟨by simp⟩⟩
 ·simp[Value.cells] at hcs;obtain⟨rfl,rfl,rfl⟩:=hcs;have hmm:m=cap:=by simpa using hm'
  rw[c7] at hel;have hone:∀ i,i<len→∃ (e:Wd),∃ h:WdH,W.cell? ((x.add (i*7)).add 0)=some (.int .i64 e.kind)∧W.cell? ((x.add (i*7)).add 1)=some (.slice h.ep e.es.length h.ec)∧W.cell? ((x.add (i*7)).add 2)=some (.int .i64 e.ht)∧W.cell? ((x.add (i*7)).add 3)=some (.int .i64 e.hv)∧W.cell? ((x.add (i*7)).add 4)=some (.int .i64 e.mi)∧W.cell? ((x.add (i*7)).add 5)=some (.int .i64 e.mt)∧W.cell? ((x.add (i*7)).add 6)=some (.slice h.kp e.keep.length h.kc)∧WdAt W e h:=by
   intro i hi;obtain⟨cs',h1,h2⟩:=hel i (by omega);obtain⟨v0,v1,v2,v3,v4,v5,v6,rfl,g0,g1,g2,g3,g4,g5,g6⟩:=zBg h1;obtain⟨e,h,rfl,rfl,rfl,rfl,rfl,rfl,rfl,hd⟩:=zA9 h2;exact⟨e,h,g0,g1,g2,g3,g4,g5,g6,hd⟩
  obtain⟨f,hfp⟩:=Deep.choose_lt (n:=len) (p:=fun i (e:Wd)=>∃ h:WdH,W.cell? ((x.add (i*7)).add 0)=some (.int .i64 e.kind)∧W.cell? ((x.add (i*7)).add 1)=some (.slice h.ep e.es.length h.ec)∧W.cell? ((x.add (i*7)).add 2)=some (.int .i64 e.ht)∧W.cell? ((x.add (i*7)).add 3)=some (.int .i64 e.hv)∧W.cell? ((x.add (i*7)).add 4)=some (.int .i64 e.mi)∧W.cell? ((x.add (i*7)).add 5)=some (.int .i64 e.mt)∧W.cell? ((x.add (i*7)).add 6)=some (.slice h.kp e.keep.length h.kc)∧WdAt W e h) (fun i hi=>hone i hi);refine⟨(List.range len).map f,by simp,by omega,⟨fun i hi=>?_⟩⟩;simp only[List.length_map,List.length_range] at hi;obtain⟨h,h0,h1,h2,h3,h4,h5,h6,h7⟩:=hfp i hi;have e:((List.range len).map f)[i]'(by simpa using hi)=f i:=by simp
  rw[e];obtain⟨b,off,spot⟩:=x;obtain⟨_,h00,_⟩:=hfp 0 (by omega);have hspot:spot=none:=by simpa [Addr.add] using World.cell?_spot h00
  subst hspot;simp only[Addr.add_lit] at h0 h1 h2 h3 h4 h5 h6;exact⟨b,off,h,rfl,⟨h0,h1,h2,h3,h4,h5,h6⟩,h7⟩
def zij (es:List EntI):Nat:=(es.map fun e=>20+min e.2.2.2.length 6000).sum
theorem zx7 (es:List EntI) (j:Nat) (hj:j<es.length):zij (es.take (j+1))=zij (es.take j)+(20+min es[j].2.2.2.length 6000):=by
 unfold zij;rw[List.take_succ_eq_append_getElem hj,List.map_append,List.sum_append];simp
theorem zov:∀ es:List EntI,es.length*20≤zij es
 |[]=>by simp[zij]
 |e::es=>by
  have:=zov es;unfold zij at this ⊢;rw[List.map_cons,List.sum_cons,List.length_cons];omega
theorem zme {w:World} {ops:Array Oper} {rest:List Oper} {o:Oper} {a:Act} {Q:Exit→Act→World→Prop} (hgd:o.guard=none) (s x:Operand)
  (ho:o.op=.call { callee:=.builtin .append,args:=#[s,x],argTypes:=#[27,27] })
  (base:Nat) (sp:Option Addr) (n c:Nat) (es:List EntN) (hs:List (Option Addr×Nat)) (hsv:a.eval s=.slice sp n c) (hn:es.length=n) (hown:OwnL base w sp c es hs) (B:Nat) (e:EntN) (h:Option Addr×Nat) (hx:a.eval x=.slice (some ⟨B,0,none⟩) 1 1)
  (hB:w.heap[B]? = some (.cells (zc8 e h).toArray 64 (0,0))) (hd:Bx base w h.1 h.2 e.2.2.2) (hlen:es.length≤1048576) (hbase:base≤w.heap.size)
  (hk:∀ sp' c' w',OwnL base w' sp' c' (es++[e]) (hs++[h])→w.grownBy w' (blk sp)→wpList Tryz.prog ops Q rest (a.put o.dst (.slice sp' (n+1) c')) w') :
  wpList Tryz.prog ops Q (o::rest) a w:=by
 subst hn;refine wpList_plain hgd fun K hK=>?_;obtain⟨sp',c',w',hrun,h1,h2,_⟩:=zle (w:=w) hown B e h hB hd hlen hbase o.type;unfold Oper.wp;simp[execOp,ho,resolve,invoke,builtin,hsv,hx,hrun,Result.andThen];exact hK _ _ (hk sp' c' w' h1 h2)
def zb7 (es:List EntN) (i j:Int):List EntN:=es.filter fun e=>decide (i≤(e.2.2.1:Int))&&decide ((e.2.2.1:Int)≤j)
def zwc (w:World) (l:List EntN) (e:Ending) (w':World):Prop:=∃ sp m k hs2,e=.returned (.slice sp m k)∧l.length=m∧OwnL w.heap.size w' sp k l hs2∧Below w.heap.size w w'
section
variable {Av:Nat→Prop} {base:Nat} {w w':World} {L d M room N N':Nat} {ss ss':Ds} {c:Wc} {n:Nat} {ep:Option Addr} {ec:Nat} {hs:List (Option Addr×Nat)}
theorem zu2 (es:List EntN) (i j:Int) (k:Nat) (hk:k<es.length) (h1:i≤(es[k].2.2.1:Int)) (h2:(es[k].2.2.1:Int)≤j):zb7 (es.take (k+1)) i j=zb7 (es.take k) i j++[es[k]]:=by
 unfold zb7;rw[List.take_succ_eq_append_getElem hk,List.filter_append];simp[h1,h2]
theorem zw1 (es:List EntN) (i j:Int) (k:Nat) (hk:k<es.length) (h:¬ (i≤(es[k].2.2.1:Int)∧(es[k].2.2.1:Int)≤j)):zb7 (es.take (k+1)) i j=zb7 (es.take k) i j:=by
 unfold zb7;rw[List.take_succ_eq_append_getElem hk,List.filter_append];have:(decide (i≤(es[k].2.2.1:Int))&&decide ((es[k].2.2.1:Int)≤j))=false:=by
  rw[Bool.and_eq_false_iff];by_cases h1:i≤(es[k].2.2.1:Int)
  ·exact .inr (decide_eq_false (fun h2=>h ⟨h1,h2⟩))
  ·exact .inl (decide_eq_false h1)
 simp[this]
theorem zu1 (es:List EntN) (i j:Int):(zb7 es i j).length≤es.length:=List.length_filter_le _ _
theorem zim (z:WAt Av base w L d M room N ss c n ep ec hs) (i j:Int) :
  Calls Tryz.prog 16 #[.pointer (some ⟨L,0,none⟩),.int .i64 i,.int .i64 j] w (zwc w (zb7 c.es i j)):=by
 have EA:=zaa z.ow.ents;have EK:=zaa z.ok.es;have hle:=z.le;have l5:w.cell? ⟨L,5,none⟩=some (.slice ep c.es.length ec):=zab z.lg.row 5 _ rfl;clear z;generalize c.es=es at *;generalize hmm:es.length=m at *;have HM:=zaa hmm;clear hmm;go_enter Tryz.func16,Tryz.ntmps16
 go_wp2_with fail
 go_loopw [7,18] (fun v q wr=>∃ (y:Nat) (sp:Option Addr) (m2 k:Nat) (hs2:List (Option Addr×Nat)),y≤m∧q=.int .i64 (y:Int)∧v=.slice sp m2 k∧Hid ((zb7 (es.take y) i j).length=m2)∧Hid (OwnL w.heap.size wr sp k (zb7 (es.take y) i j) hs2)∧Hid (Below w.heap.size w wr)) (fun _ q _=>m - (intOf q).toNat)
 case atStart=>exact⟨0,none,0,0,[],by omega,rfl,rfl,zaa rfl,zaa (OwnL.ofNil _ _),zaa (Below.refl _ _)⟩
 case round =>
  obtain⟨y,sp,m2,k,hs2,hy,rfl,rfl,HL,O4,B4⟩:=hrel;by_cases hym:y<m
  ·have y0:(0:Int)≤(y:Int):=by omega
   have y1:(y:Int)<(m:Int):=by omega
   have hyl:y<es.length:=by rw[za HM];exact hym
   obtain⟨b',off,dp,dc,rfl,p0,p1,p2,p3,q4,nz⟩:=((za EA).later (za B4)).cell y (by rw[List.length_map];exact hyl);rw[List.getElem_map] at p0 p1 p2 p3 q4;have EO:=za EK es[y] (List.getElem_mem hyl);have FY:=zu2 es i j y hyl;have FN:=zw1 es i j y hyl;obtain⟨x,hx⟩:∃ x,es[y]=x:=⟨_,rfl⟩
   rw[hx] at p0 p1 p2 p3 q4 EO FY FN;obtain⟨xk,xt,xi,xd⟩:=x;simp only[toI] at p0 p1 p2 p3 q4;have hxd:xd.length≤2048:=EO.2.2.2.2;have v1:Below wr.heap.size wr (wr.alloc (entB (xk:Int) (xt:Int) (xi:Int) dp xd.length dc)):=(Below.refl _ _).alloc (Nat.le_refl _) _;have X1:=zaa (zad wr (entB (xk:Int) (xt:Int) (xi:Int) dp xd.length dc));obtain⟨e0,e1,e2,e3⟩:=zar (za X1);have SZ1:=zaa (show(wr.alloc (entB (xk:Int) (xt:Int) (xi:Int) dp xd.length dc)).heap.size=wr.heap.size+1 by simp);have B1:=zaa v1
   have M2:=zaa (show m2≤1000000 by
    have h1:=zu1 (es.take y) i j;rw[za HL,List.length_take] at h1
    omega)
   dsimp only at FY FN;by_cases hin:i≤(xi:Int)∧(xi:Int)≤j
   ·obtain⟨h1,h2⟩:=hin;have FE:=zaa (FY h1 h2);have CL:=zaa (zkh dp xd.length dc xd (wr.alloc (entB (xk:Int) (xt:Int) (xi:Int) dp xd.length dc)) rfl (by omega) (q4.later v1) nz);clear FY FN v1 q4 nz hx EO
    go_wp2_with fail
    clear e0 e1 e2 e3 p0 p1 p2 p3;generalize wr.alloc _=W1 at *;go_at_call 51
    refine(za CL).mono ?_;rintro e V4 ⟨sp4,c4,rfl,o4,v4⟩;have X2:=zaa (zac v4 (za X1));obtain⟨e0,e1,e2,e3⟩:=zar (za X2);have f3:=zbj (za X2) 3;have U4:=zaa ((za B1).trans (v4.mono (za B1).size));have X5:=zaa (heap_setCell_same V4 wr.heap.size 3 _ _ (.slice sp4 xd.length c4) (za X2));have G5:=zaa (zaf V4 wr.heap.size 3 (.slice sp4 xd.length c4));have U5:=zaa ((za U4).grown (za G5) (za U4).size (fun g e=>by have:=Option.some.inj e;omega));have O5:=zaa (o4.far (za G5) (by rw[za SZ1];omega));have d0:(V4.setCell ⟨wr.heap.size,3,none⟩ (.slice sp4 xd.length c4)).cell? ⟨wr.heap.size,0,none⟩=some (.int .i64 (xk:Int)):=zab (za X5) 0 _ rfl;have d1:(V4.setCell ⟨wr.heap.size,3,none⟩ (.slice sp4 xd.length c4)).cell? ⟨wr.heap.size,1,none⟩=some (.int .i64 (xt:Int)):=zab (za X5) 1 _ rfl;have d2:(V4.setCell ⟨wr.heap.size,3,none⟩ (.slice sp4 xd.length c4)).cell? ⟨wr.heap.size,2,none⟩=some (.int .i64 (xi:Int)):=zab (za X5) 2 _ rfl;have d3:(V4.setCell ⟨wr.heap.size,3,none⟩ (.slice sp4 xd.length c4)).cell? ⟨wr.heap.size,3,none⟩=some (.slice sp4 xd.length c4):=zab (za X5) 3 _ rfl;clear o4 v4 CL;have SS5:=zaa (show(V4.setCell ⟨wr.heap.size,3,none⟩ (.slice sp4 xd.length c4)).heap.size=V4.heap.size by simp[World.setCell]);have X6:=zaa (zad (V4.setCell ⟨wr.heap.size,3,none⟩ (.slice sp4 xd.length c4)) (.cells #[.int .i64 (xk:Int),.int .i64 (xt:Int),.int .i64 (xi:Int),.slice sp4 xd.length c4] 64))
    have U6:=zaa (show Below (V4.setCell ⟨wr.heap.size,3,none⟩ (.slice sp4 xd.length c4)).heap.size (V4.setCell ⟨wr.heap.size,3,none⟩ (.slice sp4 xd.length c4)) ((V4.setCell ⟨wr.heap.size,3,none⟩ (.slice sp4 xd.length c4)).alloc (.cells #[.int .i64 (xk:Int),.int .i64 (xt:Int),.int .i64 (xi:Int),.slice sp4 xd.length c4] 64)) from(Below.refl _ _).alloc (Nat.le_refl _) _);rw[za SS5] at X6;have B6:=zaa ((za U5).trans ((za U6).mono (za U5).size));have O6:=zaa ((za O4).later (za B6));have DX:=zaa (((za O5).mono (show w.heap.size≤W1.heap.size by rw[za SZ1];have:=(za B4).size;omega)).later (za U6)).toBx;have B7:=zaa ((za B4).trans ((za B6).mono (za B4).size));have FT:=zaa (show ∀ g,blk sp=some g→w.heap.size≤g from fun g hg=>((za O4).foot g (.inl hg)).1)
    go_wp2_with (at_builtin;refine za ?_)
    clear d0 d1 d2 d3 e0 e1 e2 e3 f3;generalize (V4.setCell _ _).alloc _=W6 at *;refine zaa ?_;refine zme rfl (.tmp 36) (.tmp 38) rfl w.heap.size sp m2 k (zb7 (es.take y) i j) hs2 rfl (za HL) (za O6) V4.heap.size (xk,xt,xi,xd) (sp4,c4) rfl (za X6) (za DX) (by rw[za HL];have:=za M2;omega) (za B7).size ?_;intro sp7 c7 W7 ho7 hg7;have O8:=zaa ho7;have B8:=zaa ((za B7).grown hg7 (za B7).size (za FT));have L8:=zaa (show(zb7 (es.take y) i j++[(xk,xt,xi,xd)]).length=m2+1 by rw[List.length_append,za HL];rfl);clear ho7 hg7
    go_wp2
    exact⟨⟨y+1,sp7,m2+1,c7,hs2++[(sp4,c4)],by omega,by go_num,rfl,by rw[za FE];exact L8,by rw[za FE];exact O8,B8⟩,by simp[intOf];omega⟩
   ·have FE:=zaa (FN hin);have O5:=zaa ((za O4).later v1);have B5:=zaa ((za B4).trans (v1.mono (za B4).size));clear FY FN v1 q4 nz hx EO;by_cases h1:i≤(xi:Int)
    ·have h2:¬ (xi:Int)≤j:=fun h=>hin ⟨h1,h⟩;clear hin
     go_wp2
     exact⟨⟨y+1,sp,m2,k,hs2,by omega,by go_num,rfl,by rw[za FE];exact HL,by rw[za FE];exact O5,B5⟩,by simp[intOf];omega⟩
    ·clear hin
     go_wp2
     exact⟨⟨y+1,sp,m2,k,hs2,by omega,by go_num,rfl,by rw[za FE];exact HL,by rw[za FE];exact O5,B5⟩,by simp[intOf];omega⟩
  ·have hjj:¬ (y:Int)<(m:Int):=by omega
   obtain rfl:y=m:=by omega
   have FE:=zaa (show(zb7 es i j).length=m2∧OwnL w.heap.size wr sp k (zb7 es i j) hs2 by
    have h1:=za HL;have h2:=za O4;rw[List.take_of_length_le (by rw[za HM];exact Nat.le_refl _)] at h1 h2
    exact⟨h1,h2⟩)
   go_wp2
   go_ret
   exact⟨sp,m2,k,hs2,rfl,(za FE).1,(za FE).2,za B4⟩
end
end
section
open Go.ChangeShapes Go.WideShapes Go.ChangeAt Go.RowKit
set_option maxRecDepth 20000
theorem znv (w:World) (v:Value):Calls Tryz.prog 29 #[.pointer none,v] w fun e w'=>e=.returned (.int .i64 1)∧Below w.heap.size w w':=by
 have B0:=zaa (Below.refl w.heap.size w);go_enter Tryz.func29,Tryz.ntmps29
 go_wp2
 go_ret
 exact⟨rfl,za B0⟩
theorem zsv (w:World):Calls Tryz.prog 18 #[.pointer none] w fun e w'=>e=.returned (.int .i64 1)∧Below w.heap.size w w':=by
 have B0:=zaa (Below.refl w.heap.size w);go_enter Tryz.func18,Tryz.ntmps18
 go_wp2
 go_ret
 exact⟨rfl,za B0⟩
theorem zly (w:World) (i:Int):Calls Tryz.prog 34 #[.pointer none,.int .i64 i] w fun e w'=>e=.returned (.int .i64 1)∧Below w.heap.size w w':=by
 have B0:=zaa (Below.refl w.heap.size w);go_enter Tryz.func34,Tryz.ntmps34
 go_wp2
 go_ret
 exact⟨rfl,za B0⟩
theorem zef (w:World):Calls Tryz.prog 24 #[.pointer none] w fun e w'=>e=.returned (.int .i64 0)∧Below w.heap.size w w':=by
 have B0:=zaa (Below.refl w.heap.size w);go_enter Tryz.func24,Tryz.ntmps24
 go_wp2
 go_ret
 exact⟨rfl,za B0⟩
theorem zee (w:World):Calls Tryz.prog 23 #[.pointer none] w fun e w'=>e=.returned (.string ⟨#[]⟩)∧Below w.heap.size w w':=by
 have B0:=zaa (Below.refl w.heap.size w);go_enter Tryz.func23,Tryz.ntmps23
 go_wp2
 go_ret
 exact⟨rfl,za B0⟩
theorem zl6 (w:World) (t v:Int):Calls Tryz.prog 31 #[.pointer none,.agg #[.int .i64 t,.int .i64 v]] w fun e w'=>e=.returned (.int .i64 1)∧Below w.heap.size w w':=by
 have B0:=zaa (show Below w.heap.size w (w.alloc (.cells #[.int .i64 t,.int .i64 v] 29)) from(Below.refl _ _).alloc (Nat.le_refl _) _);go_enter Tryz.func31,Tryz.ntmps31
 go_wp2
 go_ret
 exact⟨rfl,za B0⟩
theorem zql (w:World) (t v:Int):Calls Tryz.prog 36 #[.pointer none,.agg #[.int .i64 t,.int .i64 v]] w fun e w'=>e=.returned (.int .i64 1)∧Below w.heap.size w w':=by
 have B0:=zaa (show Below w.heap.size w (w.alloc (.cells #[.int .i64 t,.int .i64 v] 31)) from(Below.refl _ _).alloc (Nat.le_refl _) _);go_enter Tryz.func36,Tryz.ntmps36
 go_wp2
 go_ret
 exact⟨rfl,za B0⟩
section
variable {Av:Nat→Prop} {base:Nat} {w w':World} {L d M room N N':Nat} {ss ss':Ds} {c:Wc} {n:Nat} {ep:Option Addr} {ec:Nat} {hs:List (Option Addr×Nat)}
theorem zlv (z:WAt Av base w L d M room N ss c n ep ec hs):Calls Tryz.prog 48 #[.pointer (some ⟨L,0,none⟩)] w fun e w'=>e=.returned (.agg #[.int .i64 (c.ht:Int),.int .i64 (c.hv:Int)])∧Below w.heap.size w w':=by
 have U0:=(Below.refl w.heap.size w).alloc (Nat.le_refl _) (.cells #[.int .i64 0,.int .i64 0] 29);have z1:=z.later U0;have l3:(w.alloc (.cells #[.int .i64 0,.int .i64 0] 29)).cell? ⟨L,3,none⟩=some (.int .i64 (c.ht:Int)):=zab z1.lg.row 3 _ rfl;have l4:(w.alloc (.cells #[.int .i64 0,.int .i64 0] 29)).cell? ⟨L,4,none⟩=some (.int .i64 (c.hv:Int)):=zab z1.lg.row 4 _ rfl;have X0:=zad w (.cells #[.int .i64 0,.int .i64 0] 29);have f0:=zbj X0 0;have f1:=zbj X0 1;have y0:(w.alloc (.cells #[.int .i64 0,.int .i64 0] 29)).cell? ⟨w.heap.size,0,none⟩=some (.int .i64 0):=zab X0 0 _ rfl;have y1:(w.alloc (.cells #[.int .i64 0,.int .i64 0] 29)).cell? ⟨w.heap.size,1,none⟩=some (.int .i64 0):=zab X0 1 _ rfl;have BF:=zaa ((Below.refl w.heap.size w).alloc (Nat.le_refl _) (.cells #[.int .i64 (c.ht:Int),.int .i64 (c.hv:Int)] 29));clear z z1 U0 X0;go_enter Tryz.func48,Tryz.ntmps48
 go_wp2
 refine bodyPost_ret (v:=.agg #[.int .i64 (c.ht:Int),.int .i64 (c.hv:Int)]) (by simp[results,Tryz.results48,go_sem]) rfl ⟨rfl,za BF⟩
theorem zs2 (z:WAt Av base w L d M room N ss c n ep ec hs):Calls Tryz.prog 53 #[.pointer (some ⟨L,0,none⟩)] w fun e w'=>e=.returned (.agg #[.int .i64 (c.bi:Int),.int .i64 (c.bt:Int)])∧Below w.heap.size w w':=by
 have U0:=(Below.refl w.heap.size w).alloc (Nat.le_refl _) (.cells #[.int .i64 0,.int .i64 0] 31);have z1:=z.later U0;have l3:(w.alloc (.cells #[.int .i64 0,.int .i64 0] 31)).cell? ⟨L,1,none⟩=some (.int .i64 (c.bi:Int)):=zab z1.lg.row 1 _ rfl;have l4:(w.alloc (.cells #[.int .i64 0,.int .i64 0] 31)).cell? ⟨L,2,none⟩=some (.int .i64 (c.bt:Int)):=zab z1.lg.row 2 _ rfl;have X0:=zad w (.cells #[.int .i64 0,.int .i64 0] 31);have f0:=zbj X0 0;have f1:=zbj X0 1;have y0:(w.alloc (.cells #[.int .i64 0,.int .i64 0] 31)).cell? ⟨w.heap.size,0,none⟩=some (.int .i64 0):=zab X0 0 _ rfl;have y1:(w.alloc (.cells #[.int .i64 0,.int .i64 0] 31)).cell? ⟨w.heap.size,1,none⟩=some (.int .i64 0):=zab X0 1 _ rfl;have BF:=zaa ((Below.refl w.heap.size w).alloc (Nat.le_refl _) (.cells #[.int .i64 (c.bi:Int),.int .i64 (c.bt:Int)] 31));clear z z1 U0 X0;go_enter Tryz.func53,Tryz.ntmps53
 go_wp2
 refine bodyPost_ret (v:=.agg #[.int .i64 (c.bi:Int),.int .i64 (c.bt:Int)]) (by simp[results,Tryz.results53,go_sem]) rfl ⟨rfl,za BF⟩
end
end
end Go.Proofs.YtofllbpfajppeaaGreatDoor
