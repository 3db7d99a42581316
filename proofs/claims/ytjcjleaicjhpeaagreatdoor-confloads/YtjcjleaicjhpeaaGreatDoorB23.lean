/- Conf: Do. -/
import Derived.Test.YtjcjleaicjhpeaaGreatDoorB22
import Derived.Test.YtjcjleaicjhpeaaGreatDoorB07
set_option linter.unusedVariables false
set_option maxRecDepth 20000
set_option maxHeartbeats 16000000
namespace Go.Proofs.YtjcjleaicjhpeaaGreatDoor
section
open Go.ChangeShapes Go.WideShapes Go.ChangeAt Go.RowKit
theorem zip {s:ByteArray} {m:Nat} {f:UInt8→Bool} (h:ze3 s m f=true):s.size≤m:=by
 unfold ze3 at h;simp only[Bool.and_eq_true,decide_eq_true_eq] at h;exact h.1.2
theorem zh2 {c:Cmd} (h:zc3 c=0):zhh c=true∧zdt c=true∧ze4 c=true∧zdk c.ts=true∧c.ts.length≤16:=by
 unfold zc3 at h;split at h
 ·rename_i h1
  split at h
  ·rename_i h2
   split at h
   ·rename_i h3
    split at h
    ·cases h
    ·simp only[Bool.and_eq_true] at h1;exact⟨h1.1,h1.2,h2,h3,by omega⟩
   ·cases h
  ·cases h
 ·cases h
theorem zmr {c:Cmd} (h:zc3 c=0):SmallCmd c:=by
 obtain⟨h1,h2,h3,h4,h5⟩:=zh2 h;unfold zdt at h2;unfold ze4 at h3;simp only[Bool.and_eq_true,Bool.or_eq_true,Bool.not_eq_true',decide_eq_true_eq,decide_eq_false_iff_not] at h2 h3;have hh:c.host.size≤64∧c.pre.size≤128:=by
  rcases h3.1.1 with e|e
  ·rcases h2.1.1 with e2|e2
   ·rw[e] at e2;cases e2
   ·omega
  ·refine⟨?_,?_⟩
   ·have:=e.1;unfold zbw at this;simp only[Bool.and_eq_true,decide_eq_true_eq] at this;exact this.1
   ·have:=e.2;unfold zc5 at this;simp only[Bool.and_eq_true] at this;exact zip this.1
 have hl:c.pool.size≤64:=by
  rcases h3.1.2 with e|e
  ·rcases h2.1.2 with e2|e2
   ·exact absurd e e2
   ·omega
  ·exact zip e
 exact⟨by omega,by omega,by omega,by omega,fun t ht=>by
  have:=List.all_eq_true.1 h3.2 t ht;have:=zip this
  omega⟩
def zjo (c:Cmd) (x:Sm):Ls:=(za9 lid c.cli x.cl).getD ⟨c.cli,0,0,0⟩
def doS (c:Cmd) (a':Option Addr) (tc':Nat) (x:Sm):(Int×Int)×Sm :=
 if zc3 c≠0 then ((((zc3 c:Nat):Int),x.ver),x)
 else if c.cli=0 then zdb (zf5 c a' tc' x)
 else if c.seq=(zjo c x).seq then (((zjo c x).e,(zjo c x).ver),x)
 else if c.seq<(zjo c x).seq then ((12,x.ver),x)
 else ((zdb (zf5 c a' tc' x)).1,{ (zdb (zf5 c a' tc' x)).2 with cl:=zev lid ⟨c.cli,c.seq,(zdb (zf5 c a' tc' x)).1.1,(zdb (zf5 c a' tc' x)).1.2⟩ (zdb (zf5 c a' tc' x)).2.cl })
theorem zr2 (c:Cmd) (a':Option Addr) (tc':Nat) (x:Sm):(zdb (zf5 c a' tc' x)).2.cl=x.cl:=by
 have h:(zf5 c a' tc' x).2.cl=x.cl:=by
  unfold zf5 zfz zd8 zdz zeo
  repeat' split
  all_goals rfl
 unfold zdb;split <;> exact h
theorem zj9 {w:World} {h:StH} {x:Sm} (s:StAt w h x) (hx:SmOk x) (hv:x.ver+1≤9223372036854775807) (c:Cmd) (a:Option Addr) (tc:Nat) (hc:CmdAt w c a tc) (hm:Mx w) :
  Calls Tryz.prog 18 #[.pointer (some ⟨h.S,0,none⟩),zc4 c a tc] w fun e w'=>∃ a' tc',e=.returned (.agg #[.int .i64 (doS c a' tc' x).1.1,.int .i64 (doS c a' tc' x).1.2])∧StAt w' h (doS c a' tc' x).2∧Chg h w w':=by
 have b1:Below w.heap.size w (w.alloc (.cells (zdm c a tc) 33)):=(Below.refl _ _).alloc (Nat.le_refl _) _;have b2:=b1.alloc b1.size (.cells #[.int .i64 0,.int .i64 0] 38);have s1:(w.alloc (.cells (zdm c a tc) 33)).heap.size=w.heap.size+1:=by simp
 have X1:=zaa (show((w.alloc (.cells (zdm c a tc) 33)).alloc (.cells #[.int .i64 0,.int .i64 0] 38)).heap[w.heap.size]? = some (.cells (zdm c a tc) 33 (0,0)) by rw[Below.heap_alloc _ _ _ (by simp)];exact zad _ _);have X2:=zaa (show((w.alloc (.cells (zdm c a tc) 33)).alloc (.cells #[.int .i64 0,.int .i64 0] 38)).heap[w.heap.size+1]? = some (.cells #[.int .i64 0,.int .i64 0] 38 (0,0)) by rw[← s1];exact zad _ _);have Z2:=zaa (show((w.alloc (.cells (zdm c a tc) 33)).alloc (.cells #[.int .i64 0,.int .i64 0] 38)).heap.size=w.heap.size+2 by simp);have B2:=zaa b2;have LT:=zaa s.lts;have L1:=zaa (show h.S≠w.heap.size+1 by have:=s.lts.1;omega);have CC:=zaa (zmq c a tc _ (hc.later b2) (hm.later b2));have SM:=zaa (fun e:zc3 c=0=>zmr e);have CB:=zaa (fun e:zc3 c=0=>(zh2 e).1)
 have DO:=zaa (fun a' tc'=>show doS c a' tc' x=(if zc3 c≠0 then ((((zc3 c:Nat):Int),x.ver),x)
  else if c.cli=0 then zdb (zf5 c a' tc' x)
  else if c.seq=(zjo c x).seq then (((zjo c x).e,(zjo c x).ver),x)
  else if c.seq<(zjo c x).seq then ((12,x.ver),x)
  else ((zdb (zf5 c a' tc' x)).1,{ (zdb (zf5 c a' tc' x)).2 with cl:=zev lid ⟨c.cli,c.seq,(zdb (zf5 c a' tc' x)).1.1,(zdb (zf5 c a' tc' x)).1.2⟩ (zdb (zf5 c a' tc' x)).2.cl })) from rfl)
 have HC:=zaa hc;have DN:=zaa (fun (W:World) (hb:Below w.heap.size w W) (e:zc3 c=0)=>zo3 (s.later hb) hx hv c a tc (hc.later hb) (za SM e));have LK:=zaa (fun (W:World) (hb:Below w.heap.size w W)=>ztk (s.later hb) c.cli hc.ic);have CL:=zaa (fun a' tc'=>zr2 c a' tc' x);have hv2:=hx.ver.1;have hck:zc3 c≤15:=by
  unfold zc3
  repeat' split
  all_goals omega
 obtain⟨i1,i2⟩:=hc.ic;obtain⟨i3,i4⟩:=hc.is;clear b1 b2 s1 hc;have TL:=zaa (show zjo c x=(za9 lid c.cli x.cl).getD ⟨c.cli,0,0,0⟩ from rfl);rw[← za TL] at LK;unfold zdm at *;unfold zc4 at *;generalize zjo c x=tl at *;generalize doS c=DD at *;generalize hdn:(fun a' tc'=>zdb (zf5 c a' tc' x))=DS at *;have DS1:=zaa (fun a' tc'=>show zdb (zf5 c a' tc' x)=DS a' tc' from by rw[← hdn]);clear hdn TL;simp only[za DS1] at DO DN CL;clear DS1;generalize zc3 c=ck at *;generalize hnum:zhh c=nb at *;obtain⟨act,cli,seq,exp,host,pre,pool,ts⟩:=c;obtain⟨ti,tseq,te,tver⟩:=tl;simp only[lsV] at *;have k0:=zab (za X1) 0 _ rfl;have k1:=zab (za X1) 1 _ rfl;have k2:=zab (za X1) 2 _ rfl;have k3:=zab (za X1) 3 _ rfl;have k4:=zab (za X1) 4 _ rfl;have k5:=zab (za X1) 5 _ rfl;have k6:=zab (za X1) 6 _ rfl;have k7:=zab (za X1) 7 _ rfl;go_enter Tryz.func18,Tryz.ntmps18
 go_wp2_with fail
 generalize ((w.alloc (.cells #[.int .i64 act,.int .i64 cli,.int .i64 seq,.int .i64 exp,.string host,.string pre,.string pool,.slice a ts.length tc] 33)).alloc (.cells #[.int .i64 0,.int .i64 0] 38))=V at *;have HK:=zaa (show ∀ W:World,W.heap[w.heap.size]? = V.heap[w.heap.size]?→W.cell? ⟨w.heap.size,0,none⟩=some (.int .i64 act)∧W.cell? ⟨w.heap.size,1,none⟩=some (.int .i64 cli)∧W.cell? ⟨w.heap.size,2,none⟩=some (.int .i64 seq)∧W.cell? ⟨w.heap.size,3,none⟩=some (.int .i64 exp)∧W.cell? ⟨w.heap.size,4,none⟩=some (.string host)∧W.cell? ⟨w.heap.size,5,none⟩=some (.string pre)∧W.cell? ⟨w.heap.size,6,none⟩=some (.string pool)∧W.cell? ⟨w.heap.size,7,none⟩=some (.slice a ts.length tc) from fun W hb=>⟨(World.cell?_of_block hb).trans k0,(World.cell?_of_block hb).trans k1,(World.cell?_of_block hb).trans k2,(World.cell?_of_block hb).trans k3,(World.cell?_of_block hb).trans k4,(World.cell?_of_block hb).trans k5,(World.cell?_of_block hb).trans k6,(World.cell?_of_block hb).trans k7⟩);clear k0 k1 k2 k3 k4 k5 k6 k7;refine(za CC).mono ?_;rintro e U ⟨rfl,hbU⟩;have bU:=zaa ((za B2).trans (hbU.mono (za B2).size));have RU:=zaa (zac hbU (za X2));have KU:=zaa (show U.heap[w.heap.size]? = V.heap[w.heap.size]? from hbU.block _ (by have:=za Z2;omega));have UZ:=zaa (show w.heap.size+2≤U.heap.size by have:=za Z2;have:=hbU.size;omega);have SU:=zaa (s.later (za bU));have CU:=zaa (Chg.below (h:=h) (za bU));have u0:=(za SU).cell.1;have u3:=(za SU).cell.2.2.2
 clear hbU CC X1 X2 Z2;obtain⟨k0,k1,k2,k3,k4,k5,k6,k7⟩:=za HK _ (za KU);by_cases hck0:ck=0
 ·subst hck0;by_cases hcli:cli=0
  ·as_aux_lemma =>
   subst hcli;have hd:∀ a' tc',DD a' tc' x=DS a' tc':=fun a' tc'=>by rw[za DO];simp
   have HD:=zaa hd;have DC:=zaa (za DN U (za bU) rfl);clear hd DO DN
   go_wp2_with fail
   refine(za DC).mono ?_;rintro e U2 ⟨a',tc',rfl,sd,cd⟩;generalize hds:DS a' tc'=ds at *;have HS:=zaa hds;obtain⟨⟨re,rv⟩,y⟩:=ds;simp only at sd ⊢;have LT2:=za LT;have R2:=zaa (show U2.heap[w.heap.size+1]? = some (.cells #[.int .i64 0,.int .i64 0] 38 (0,0)) from(cd.block _ (by have:=za UZ;omega) (by omega) (by omega) (by omega) (by omega)).trans (za RU));have SD:=zaa sd;have CD:=zaa ((za CU).trans cd);clear sd cd hds DC k0 k1 k2 k3 k4 k5 k6 k7 u0 u3 LT2;have z0:=zab (za R2) 0 _ rfl;have z1:=zab (za R2) 1 _ rfl;have f0:U2.frozen? ⟨w.heap.size+1,0,none⟩=false:=by simp[World.frozen?,za R2]
   have f1:U2.frozen? ⟨w.heap.size+1,1,none⟩=false:=by simp[World.frozen?,za R2]
   obtain⟨a1,a2⟩:=zru (x:=.int .i64 re) (y:=.int .i64 rv) (za R2);have A1:=zaa a1;have FS:=zaa ((za SD).aside a2 (za R2) (zej _ _) (za L1));have FC:=zaa ((za CD).newer a2 (by omega));clear a1 a2
   go_wp2
   generalize ((U2.setCell ⟨w.heap.size+1,0,none⟩ (.int .i64 re)).setCell ⟨w.heap.size+1,1,none⟩ (.int .i64 rv))=W9 at *;clear z0 z1 f0 f1;have o0:W9.cell? ⟨w.heap.size+1,0,none⟩=some (.int .i64 re):=zab (za A1) 0 _ rfl;have o1:W9.cell? ⟨w.heap.size+1,1,none⟩=some (.int .i64 rv):=zab (za A1) 1 _ rfl;exact bodyPost_ret (v:=.agg #[.int .i64 re,.int .i64 rv]) (by simp[results,Tryz.results18,go_sem,o0,o1]) rfl ⟨a',tc',by rw[za HD,za HS],by rw[za HD,za HS];exact za FS,za FC⟩
  ·by_cases hsq:seq=tseq
   ·as_aux_lemma =>
    subst hsq;have hd:DD none 0 x=((te,tver),x):=by rw[za DO];simp[hcli]
    have HD:=zaa hd;have F:=zaa (show Below U.heap.size U U.drew from(Below.refl _ _).drew);have SS:=zaa (show ∀ W:World,Below U.heap.size U W→W.cell? ⟨h.S,3,none⟩=some (.map (some h.C))∧W.cell? ⟨w.heap.size,1,none⟩=some (.int .i64 cli)∧(Instr.lookup 77 (.map (some h.C)) (.int .i64 cli) false).run Tryz.prog W=.ok (.agg #[.int .i64 seq,.int .i64 te,.int .i64 tver]) W from fun W hb=>⟨((za SU).later hb).cell.2.2.2,cell_later hb k1,za LK W ((za bU).trans (hb.mono (za bU).size))⟩);clear hd DO DN
    go_wp2_with fail
    refine wp_region_held_drew (S:=fun w'=>w'.cell? ⟨h.S,3,none⟩=some (.map (some h.C))∧w'.cell? ⟨w.heap.size,1,none⟩=some (.int .i64 cli)∧(Instr.lookup 77 (.map (some h.C)) (.int .i64 cli) false).run Tryz.prog w'=.ok (.agg #[.int .i64 seq,.int .i64 te,.int .i64 tver]) w') (by kernel_rfl) ?_ (fun hHeld=>?_)
    ·try dsimp only
     exact za SS _ (za F)
    refine hT 0 ?_;refine hT 1 ?_;refine hT 2 ?_;refine hT 3 ?_;refine hT 4 ?_;refine hT 5 ?_;refine hT 6 ?_;refine wpAnyH_ready (rs:=[7]) (by kernel_rfl) (by simp) ?_;refine AllReadyH.cons rfl (fun K hK=>?_) ?_
    ·refine zny rfl rfl ?_;intro E U3 hE hEn hb;have LE:=zaa (show U.heap.size≤E by rw[← hE];exact(za F).size);have HE:=zaa hEn;have F:=zaa ((za F).trans (hb.mono (za F).size));clear hE hEn hb;refine hK.out _ _ ?_ (fun hHeld=>?_)
     ·try dsimp only
      exact za SS _ (za F)
     clear hK K;refine hP ?_;refine wpAnyH_ready (rs:=[8]) (by kernel_rfl) (by simp) ?_;refine AllReadyH.cons rfl (fun K hK=>?_) ?_
     ·have z0:=zab (za HE) 0 _ rfl;have z1:=zab (za HE) 1 _ rfl;have z2:=zab (za HE) 2 _ rfl;have f0:U3.frozen? ⟨E,0,none⟩=false:=by simp[World.frozen?,za HE]
      have f1:U3.frozen? ⟨E,1,none⟩=false:=by simp[World.frozen?,za HE]
      have f2:U3.frozen? ⟨E,2,none⟩=false:=by simp[World.frozen?,za HE]
      have a1:=zps (x:=.int .i64 seq) (y:=.int .i64 te) (z:=.int .i64 tver) (za HE);have HE2:=zaa a1.1;have F:=zaa ((za F).grown a1.2 (za F).size (fun g e=>by have:=Option.some.inj e;have:=za LE;omega));clear a1;go_simp
      clear z0 z1 z2 f0 f1 f2;refine hK.out _ _ ?_ (fun hHeld=>?_)
      ·try dsimp only
       exact za SS _ (za F)
      clear hK K;refine hP ?_;refine wpAnyH_done (by kernel_rfl) ?_ _;generalize (((U3.setCell ⟨E,0,none⟩ (.int .i64 seq)).setCell ⟨E,1,none⟩ (.int .i64 te)).setCell ⟨E,2,none⟩ (.int .i64 tver))=U4 at *;clear hHeld HE LE;have e0:=zab (za HE2) 0 _ rfl;have e1:=zab (za HE2) 1 _ rfl;have e2:=zab (za HE2) 2 _ rfl;have q2:=cell_later (za F) k2;have R2:=zaa (zac (za F) (za RU));have SD:=zaa ((za SU).later (za F));have CD:=zaa ((za CU).trans (Chg.below (za F)));clear k0 k1 k2 k3 k4 k5 k6 k7 u0 u3;have z0:=zab (za R2) 0 _ rfl;have z1:=zab (za R2) 1 _ rfl;have f0:U4.frozen? ⟨w.heap.size+1,0,none⟩=false:=by simp[World.frozen?,za R2]
      have f1:U4.frozen? ⟨w.heap.size+1,1,none⟩=false:=by simp[World.frozen?,za R2]
      obtain⟨a1,a2⟩:=zru (x:=.int .i64 te) (y:=.int .i64 tver) (za R2);have A1:=zaa a1;have FS:=zaa ((za SD).aside a2 (za R2) (zej _ _) (za L1));have FC:=zaa ((za CD).newer a2 (by omega));clear a1 a2
      go_wp2
      generalize ((U4.setCell ⟨w.heap.size+1,0,none⟩ (.int .i64 te)).setCell ⟨w.heap.size+1,1,none⟩ (.int .i64 tver))=W9 at *;clear z0 z1 f0 f1;have o0:W9.cell? ⟨w.heap.size+1,0,none⟩=some (.int .i64 te):=zab (za A1) 0 _ rfl;have o1:W9.cell? ⟨w.heap.size+1,1,none⟩=some (.int .i64 tver):=zab (za A1) 1 _ rfl;exact bodyPost_ret (v:=.agg #[.int .i64 te,.int .i64 tver]) (by simp[results,Tryz.results18,go_sem,o0,o1]) rfl ⟨none,0,by rw[za HD],by rw[za HD];exact za FS,za FC⟩
     exact AllReadyH.nil
    exact AllReadyH.nil
   ·by_cases hlt:seq<tseq
    ·as_aux_lemma =>
     have hd:DD none 0 x=((12,x.ver),x):=by rw[za DO];simp[hcli,hsq,hlt]
     have HD:=zaa hd;have F:=zaa (show Below U.heap.size U U.drew from(Below.refl _ _).drew);have SS:=zaa (show ∀ W:World,Below U.heap.size U W→W.cell? ⟨h.S,3,none⟩=some (.map (some h.C))∧W.cell? ⟨w.heap.size,1,none⟩=some (.int .i64 cli)∧(Instr.lookup 77 (.map (some h.C)) (.int .i64 cli) false).run Tryz.prog W=.ok (.agg #[.int .i64 tseq,.int .i64 te,.int .i64 tver]) W from fun W hb=>⟨((za SU).later hb).cell.2.2.2,cell_later hb k1,za LK W ((za bU).trans (hb.mono (za bU).size))⟩);clear hd DO DN
     go_wp2_with fail
     refine wp_region_held_drew (S:=fun w'=>w'.cell? ⟨h.S,3,none⟩=some (.map (some h.C))∧w'.cell? ⟨w.heap.size,1,none⟩=some (.int .i64 cli)∧(Instr.lookup 77 (.map (some h.C)) (.int .i64 cli) false).run Tryz.prog w'=.ok (.agg #[.int .i64 tseq,.int .i64 te,.int .i64 tver]) w') (by kernel_rfl) ?_ (fun hHeld=>?_)
     ·try dsimp only
      exact za SS _ (za F)
     refine hT 0 ?_;refine hT 1 ?_;refine hT 2 ?_;refine hT 3 ?_;refine hT 4 ?_;refine hT 5 ?_;refine hT 6 ?_;refine wpAnyH_ready (rs:=[7]) (by kernel_rfl) (by simp) ?_;refine AllReadyH.cons rfl (fun K hK=>?_) ?_
     ·refine zny rfl rfl ?_;intro E U3 hE hEn hb;have LE:=zaa (show U.heap.size≤E by rw[← hE];exact(za F).size);have HE:=zaa hEn;have F:=zaa ((za F).trans (hb.mono (za F).size));clear hE hEn hb;refine hK.out _ _ ?_ (fun hHeld=>?_)
      ·try dsimp only
       exact za SS _ (za F)
      clear hK K;refine hP ?_;refine wpAnyH_ready (rs:=[8]) (by kernel_rfl) (by simp) ?_;refine AllReadyH.cons rfl (fun K hK=>?_) ?_
      ·have z0:=zab (za HE) 0 _ rfl;have z1:=zab (za HE) 1 _ rfl;have z2:=zab (za HE) 2 _ rfl;have f0:U3.frozen? ⟨E,0,none⟩=false:=by simp[World.frozen?,za HE]
       have f1:U3.frozen? ⟨E,1,none⟩=false:=by simp[World.frozen?,za HE]
       have f2:U3.frozen? ⟨E,2,none⟩=false:=by simp[World.frozen?,za HE]
       have a1:=zps (x:=.int .i64 tseq) (y:=.int .i64 te) (z:=.int .i64 tver) (za HE);have HE2:=zaa a1.1;have F:=zaa ((za F).grown a1.2 (za F).size (fun g e=>by have:=Option.some.inj e;have:=za LE;omega));clear a1;go_simp
       clear z0 z1 z2 f0 f1 f2;refine hK.out _ _ ?_ (fun hHeld=>?_)
       ·try dsimp only
        exact za SS _ (za F)
       clear hK K;refine hP ?_;refine wpAnyH_done (by kernel_rfl) ?_ _;generalize (((U3.setCell ⟨E,0,none⟩ (.int .i64 tseq)).setCell ⟨E,1,none⟩ (.int .i64 te)).setCell ⟨E,2,none⟩ (.int .i64 tver))=U4 at *;clear hHeld HE LE;have e0:=zab (za HE2) 0 _ rfl;have q2:=cell_later (za F) k2;have q0:=cell_later (za F) u0;have R2:=zaa (zac (za F) (za RU));have SD:=zaa ((za SU).later (za F));have CD:=zaa ((za CU).trans (Chg.below (za F)));clear k0 k1 k2 k3 k4 k5 k6 k7 u0 u3;have z0:=zab (za R2) 0 _ rfl;have z1:=zab (za R2) 1 _ rfl;have f0:U4.frozen? ⟨w.heap.size+1,0,none⟩=false:=by simp[World.frozen?,za R2]
       have f1:U4.frozen? ⟨w.heap.size+1,1,none⟩=false:=by simp[World.frozen?,za R2]
       obtain⟨a1,a2⟩:=zru (x:=.int .i64 12) (y:=.int .i64 x.ver) (za R2);have A1:=zaa a1;have FS:=zaa ((za SD).aside a2 (za R2) (zej _ _) (za L1));have FC:=zaa ((za CD).newer a2 (by omega));clear a1 a2
       go_wp2
       generalize ((U4.setCell ⟨w.heap.size+1,0,none⟩ (.int .i64 12)).setCell ⟨w.heap.size+1,1,none⟩ (.int .i64 x.ver))=W9 at *;clear z0 z1 f0 f1;have o0:W9.cell? ⟨w.heap.size+1,0,none⟩=some (.int .i64 12):=zab (za A1) 0 _ rfl;have o1:W9.cell? ⟨w.heap.size+1,1,none⟩=some (.int .i64 x.ver):=zab (za A1) 1 _ rfl;exact bodyPost_ret (v:=.agg #[.int .i64 12,.int .i64 x.ver]) (by simp[results,Tryz.results18,go_sem,o0,o1]) rfl ⟨none,0,by rw[za HD],by rw[za HD];exact za FS,za FC⟩
      exact AllReadyH.nil
     exact AllReadyH.nil
    ·as_aux_lemma =>
     have hd:∀ a' tc',DD a' tc' x=((DS a' tc').1,{ (DS a' tc').2 with cl:=zev lid ⟨cli,seq,(DS a' tc').1.1,(DS a' tc').1.2⟩ (DS a' tc').2.cl }):=fun a' tc'=>by rw[za DO];simp[hcli,hsq,hlt]
     have HD:=zaa hd;have F:=zaa (show Below U.heap.size U U.drew from(Below.refl _ _).drew);have SS:=zaa (show ∀ W:World,Below U.heap.size U W→W.cell? ⟨h.S,3,none⟩=some (.map (some h.C))∧W.cell? ⟨w.heap.size,1,none⟩=some (.int .i64 cli)∧(Instr.lookup 77 (.map (some h.C)) (.int .i64 cli) false).run Tryz.prog W=.ok (.agg #[.int .i64 tseq,.int .i64 te,.int .i64 tver]) W from fun W hb=>⟨((za SU).later hb).cell.2.2.2,cell_later hb k1,za LK W ((za bU).trans (hb.mono (za bU).size))⟩);clear hd DO
     go_wp2_with fail
     refine wp_region_held_drew (S:=fun w'=>w'.cell? ⟨h.S,3,none⟩=some (.map (some h.C))∧w'.cell? ⟨w.heap.size,1,none⟩=some (.int .i64 cli)∧(Instr.lookup 77 (.map (some h.C)) (.int .i64 cli) false).run Tryz.prog w'=.ok (.agg #[.int .i64 tseq,.int .i64 te,.int .i64 tver]) w') (by kernel_rfl) ?_ (fun hHeld=>?_)
     ·try dsimp only
      exact za SS _ (za F)
     refine hT 0 ?_;refine hT 1 ?_;refine hT 2 ?_;refine hT 3 ?_;refine hT 4 ?_;refine hT 5 ?_;refine hT 6 ?_;refine wpAnyH_ready (rs:=[7]) (by kernel_rfl) (by simp) ?_;refine AllReadyH.cons rfl (fun K hK=>?_) ?_
     ·refine zny rfl rfl ?_;intro E U3 hE hEn hb;have LE:=zaa (show U.heap.size≤E by rw[← hE];exact(za F).size);have HE:=zaa hEn;have F:=zaa ((za F).trans (hb.mono (za F).size));clear hE hEn hb;refine hK.out _ _ ?_ (fun hHeld=>?_)
      ·try dsimp only
       exact za SS _ (za F)
      clear hK K;refine hP ?_;refine wpAnyH_ready (rs:=[8]) (by kernel_rfl) (by simp) ?_;refine AllReadyH.cons rfl (fun K hK=>?_) ?_
      ·have z0:=zab (za HE) 0 _ rfl;have z1:=zab (za HE) 1 _ rfl;have z2:=zab (za HE) 2 _ rfl;have f0:U3.frozen? ⟨E,0,none⟩=false:=by simp[World.frozen?,za HE]
       have f1:U3.frozen? ⟨E,1,none⟩=false:=by simp[World.frozen?,za HE]
       have f2:U3.frozen? ⟨E,2,none⟩=false:=by simp[World.frozen?,za HE]
       have a1:=zps (x:=.int .i64 tseq) (y:=.int .i64 te) (z:=.int .i64 tver) (za HE);have HE2:=zaa a1.1;have F:=zaa ((za F).grown a1.2 (za F).size (fun g e=>by have:=Option.some.inj e;have:=za LE;omega));clear a1;go_simp
       clear z0 z1 z2 f0 f1 f2;refine hK.out _ _ ?_ (fun hHeld=>?_)
       ·try dsimp only
        exact za SS _ (za F)
       clear hK K;refine hP ?_;refine wpAnyH_done (by kernel_rfl) ?_ _;generalize (((U3.setCell ⟨E,0,none⟩ (.int .i64 tseq)).setCell ⟨E,1,none⟩ (.int .i64 te)).setCell ⟨E,2,none⟩ (.int .i64 tver))=U4 at *;clear hHeld HE LE;have e0:=zab (za HE2) 0 _ rfl;have K4:=zaa (show U4.heap[w.heap.size]? = V.heap[w.heap.size]? from((za F).block _ (by have:=za UZ;omega)).trans (za KU));clear k0 k1 k2 k3 k4 k5 k6 k7;obtain⟨k0,k1,k2,k3,k4,k5,k6,k7⟩:=za HK _ (za K4);have R2:=zaa (zac (za F) (za RU));have CD:=zaa ((za CU).trans (Chg.below (za F)));have FZ:=zaa (za F).size;have DC:=zaa (za DN U4 ((za bU).trans ((za F).mono (za bU).size)) (by first|exact rfl|trivial));clear DN u0 u3
       go_wp2_with fail
       refine(za DC).mono ?_;rintro e U5 ⟨a',tc',rfl,sd,cd⟩;generalize hds:DS a' tc'=ds at *;have HS:=zaa hds;have hy:=za CL a' tc';rw[hds] at hy;obtain⟨⟨re,rv⟩,y⟩:=ds;simp only at sd hy ⊢;have hyl:y.cl.length≤1000:=by rw[hy];exact hx.cn
       obtain⟨t1,t2,t3,t4⟩:=za LT;have K5:=zaa ((cd.block w.heap.size (by have:=za UZ;have:=za FZ;omega) (by omega) (by omega) (by omega) (by omega)).trans (za K4));have R5:=zaa ((cd.block (w.heap.size+1) (by have:=za UZ;have:=za FZ;omega) (by omega) (by omega) (by omega) (by omega)).trans (za R2));have b6:=zaa (show Below U5.heap.size U5 (U5.alloc (.cells #[.int .i64 re,.int .i64 rv] 38)) from(Below.refl _ _).alloc (Nat.le_refl _) _);have X6:=zaa (zad U5 (.cells #[.int .i64 re,.int .i64 rv] 38));have S6:=zaa (sd.later (za b6));have R6:=zaa (zac (za b6) (za R5));have U5Z:=zaa (show w.heap.size+2≤U5.heap.size by have:=za UZ;have:=za FZ;have:=cd.size;omega);have K6:=zaa (((za b6).block w.heap.size (by have:=za U5Z;omega)).trans (za K5));have C6:=zaa (((za CD).trans cd).trans (Chg.below (za b6)));clear sd cd hds DC hy k0 k1 k2 k3 k4 k5 k6 k7 e0 t1 t2 t3 t4
       go_wp2_with fail
       generalize hT7:U5.heap.size=T7 at *;have Z6:=zaa (show T7<(U5.alloc (.cells #[.int .i64 re,.int .i64 rv] 38)).heap.size from(Array.getElem?_eq_some_iff.1 (za X6)).1);generalize U5.alloc (.cells #[.int .i64 re,.int .i64 rv] 38)=U6 at *;obtain⟨W3,hput,sd3,cd3⟩:=((za S6).later (Below.refl _ _).drew).putC ⟨cli,seq,re,rv⟩ ⟨i1,i2⟩ hyl;simp only at hput
       have KB:=zaa (show U6.drew.cell? ⟨h.S,3,none⟩=some (.map (some h.C))∧U6.drew.cell? ⟨w.heap.size,1,none⟩=some (.int .i64 cli)∧U6.drew.cell? ⟨w.heap.size,2,none⟩=some (.int .i64 seq)∧U6.drew.cell? ⟨T7,0,none⟩=some (.int .i64 re)∧U6.drew.cell? ⟨T7,1,none⟩=some (.int .i64 rv) from
        ⟨(za S6).cell.2.2.2,(za HK U6 (za K6)).2.1,(za HK U6 (za K6)).2.2.1,zab (za X6) 0 _ rfl,zab (za X6) 1 _ rfl⟩)
       have KC:=zaa (show W3.cell? ⟨h.S,3,none⟩=some (.map (some h.C))∧W3.cell? ⟨w.heap.size,1,none⟩=some (.int .i64 cli)∧W3.cell? ⟨w.heap.size,2,none⟩=some (.int .i64 seq)∧W3.cell? ⟨T7,0,none⟩=some (.int .i64 re)∧W3.cell? ⟨T7,1,none⟩=some (.int .i64 rv) by
        obtain⟨t1,t2,t3,t4⟩:=za LT;obtain⟨_,q1,q2,q3,q4⟩:=za KB;have hz:=za Z6;have hu:=za U5Z;have hb:W3.heap[w.heap.size]? = U6.drew.heap[w.heap.size]?:=cd3.block _ (show _<U6.heap.size by omega) (by omega) (by omega) (by omega) (by omega);have ht:W3.heap[T7]? = U6.drew.heap[T7]?:=cd3.block _ (show _<U6.heap.size by omega) (by omega) (by omega) (by omega) (by omega)
        exact⟨sd3.cell.2.2.2,(World.cell?_of_block hb).trans q1,(World.cell?_of_block hb).trans q2,(World.cell?_of_block ht).trans q3,(World.cell?_of_block ht).trans q4⟩)
       have R7:=zaa (show W3.heap[w.heap.size+1]? = some (.cells #[.int .i64 0,.int .i64 0] 38 (0,0)) by
        obtain⟨t1,t2,t3,t4⟩:=za LT;have hz:=za Z6;have hu:=za U5Z
        exact(cd3.block _ (show _<U6.heap.size by omega) (by omega) (by omega) (by omega) (by omega)).trans (za R6))
       have SD:=zaa sd3;have CD2:=zaa (((za C6).trans (Chg.below (Below.refl _ _).drew)).trans cd3);clear sd3 cd3 S6 C6;refine wp_region_held_drew (S:=fun w'=>w'.cell? ⟨h.S,3,none⟩=some (.map (some h.C))∧w'.cell? ⟨w.heap.size,1,none⟩=some (.int .i64 cli)∧w'.cell? ⟨w.heap.size,2,none⟩=some (.int .i64 seq)∧w'.cell? ⟨T7,0,none⟩=some (.int .i64 re)∧w'.cell? ⟨T7,1,none⟩=some (.int .i64 rv)) (by kernel_rfl) ?_ (fun hHeld=>?_)
       ·try dsimp only
        first|exact za KC|exact za KB
       refine hT 0 ?_;refine hT 1 ?_;refine hT 2 ?_;refine hT 3 ?_;refine hT 4 ?_;refine hT 5 ?_;refine hT 6 ?_;refine hT 7 ?_;refine hT 8 ?_;refine hT 9 ?_;refine wpAnyH_ready (rs:=[10]) (by kernel_rfl) (by simp) ?_;refine AllReadyH.cons rfl (fun K hK=>?_) ?_
       ·go_simp
        refine hK.out _ _ ?_ (fun hHeld=>?_)
        ·try dsimp only
         first|exact za KC|exact za KB
        clear hK K;refine hP ?_;refine wpAnyH_done (by kernel_rfl) ?_ _;clear hHeld hput;have w0:=(za KC).2.2.2.1;have w1:=(za KC).2.2.2.2;have z0:=zab (za R7) 0 _ rfl;have z1:=zab (za R7) 1 _ rfl;have f0:W3.frozen? ⟨w.heap.size+1,0,none⟩=false:=by simp[World.frozen?,za R7]
        have f1:W3.frozen? ⟨w.heap.size+1,1,none⟩=false:=by simp[World.frozen?,za R7]
        obtain⟨a1,a2⟩:=zru (x:=.int .i64 re) (y:=.int .i64 rv) (za R7);have A1:=zaa a1;have FS:=zaa ((za SD).aside a2 (za R7) (zej _ _) (za L1));have FC:=zaa ((za CD2).newer a2 (by omega));clear a1 a2
        go_wp2
        generalize ((W3.setCell ⟨w.heap.size+1,0,none⟩ (.int .i64 re)).setCell ⟨w.heap.size+1,1,none⟩ (.int .i64 rv))=W9 at *;clear z0 z1 f0 f1;have o0:W9.cell? ⟨w.heap.size+1,0,none⟩=some (.int .i64 re):=zab (za A1) 0 _ rfl;have o1:W9.cell? ⟨w.heap.size+1,1,none⟩=some (.int .i64 rv):=zab (za A1) 1 _ rfl;exact bodyPost_ret (v:=.agg #[.int .i64 re,.int .i64 rv]) (by simp[results,Tryz.results18,go_sem,o0,o1]) rfl ⟨a',tc',by rw[za HD,za HS],by rw[za HD,za HS];exact za FS,za FC⟩
       exact AllReadyH.nil
      exact AllReadyH.nil
     exact AllReadyH.nil
 ·as_aux_lemma =>
  have hd:DD none 0 x=((((ck:Nat):Int),x.ver),x):=by rw[za DO];simp[hck0]
  have HD:=zaa hd;have hci:¬ (ck:Int)=0:=by omega
  clear hd DO DN;clear k0 k1 k2 k3 k4 k5 k6 k7 u3;have z0:=zab (za RU) 0 _ rfl;have z1:=zab (za RU) 1 _ rfl;have f0:U.frozen? ⟨w.heap.size+1,0,none⟩=false:=by simp[World.frozen?,za RU]
  have f1:U.frozen? ⟨w.heap.size+1,1,none⟩=false:=by simp[World.frozen?,za RU]
  obtain⟨a1,a2⟩:=zru (x:=.int .i64 (ck:Int)) (y:=.int .i64 x.ver) (za RU);have A1:=zaa a1;have FS:=zaa ((za SU).aside a2 (za RU) (zej _ _) (za L1));have FC:=zaa ((za CU).newer a2 (by omega));clear a1 a2
  go_wp2
  generalize ((U.setCell ⟨w.heap.size+1,0,none⟩ (.int .i64 (ck:Int))).setCell ⟨w.heap.size+1,1,none⟩ (.int .i64 x.ver))=W9 at *;clear z0 z1 f0 f1;have o0:W9.cell? ⟨w.heap.size+1,0,none⟩=some (.int .i64 (ck:Int)):=zab (za A1) 0 _ rfl;have o1:W9.cell? ⟨w.heap.size+1,1,none⟩=some (.int .i64 x.ver):=zab (za A1) 1 _ rfl;exact bodyPost_ret (v:=.agg #[.int .i64 (ck:Int),.int .i64 x.ver]) (by simp[results,Tryz.results18,go_sem,o0,o1]) rfl ⟨none,0,by rw[za HD],by rw[za HD];exact za FS,za FC⟩
theorem Chg.toBelow {h:StH} {w w1 w2:World} (b:Below w.heap.size w w1) (c:Chg h w1 w2) (hn:w.heap.size≤h.S∧w.heap.size≤h.P∧w.heap.size≤h.R∧w.heap.size≤h.C):Below w.heap.size w w2:=by
 obtain⟨n1,n2,n3,n4⟩:=hn;exact⟨c.os.trans b.os,c.tape.trans b.tape,c.output.trans b.output,Nat.le_trans b.size c.size,fun g hg=>(c.block g (Nat.lt_of_lt_of_le hg b.size) (by omega) (by omega) (by omega) (by omega)).trans (b.block g hg)⟩
theorem zu3 (a:Option Addr) (t:Nat):doS (zfl ⟨#[97]⟩) a t sm0=((0,1),xS1 a t):=by kernel_rfl
theorem zu4 (a b:Option Addr) (t u:Nat):doS (ze8 ⟨#[120,46,121]⟩ ⟨#[47]⟩ ⟨#[97]⟩) b u (xS1 a t)=((0,2),xS2 a t):=by kernel_rfl
theorem zu5 (a b:Option Addr) (t u:Nat):doS xC3 b u (xS2 a t)=((13,2),xS2 a t):=by kernel_rfl
theorem zu2 (a:Option Addr) (t:Nat):SmOk (xS1 a t):=⟨⟨by simp[xS1,Sm.cf],by simp[xS1,Sm.cf],by simp[xS1,Sm.cf],by simp[xS1,Sm.cf];decide⟩,by simp[xS1],by simp[xS1]⟩
theorem zsx (a:Option Addr) (t:Nat):SmOk (xS2 a t):=⟨⟨by simp[xS2,Sm.cf],by simp[xS2,Sm.cf],by simp[xS2,Sm.cf];decide,by simp[xS2,Sm.cf];decide⟩,by simp[xS2],by simp[xS2]⟩
theorem zsc {w:World} {B:Nat} (h:TgsAt w (some ⟨B,0,none⟩) (zfl ⟨#[97]⟩).ts):CmdAt w (zfl ⟨#[97]⟩) (some ⟨B,0,none⟩) 1:=⟨h,by simp[zfl];decide,by decide,by decide,by decide,⟨by simp[zfl,maxLen],by simp[zfl]⟩,by simp,by simp[zfl],by simp[zfl],by simp[zfl],by simp[zfl]⟩
theorem zrp (w:World):TgsAt w none []:=⟨by simp,fun i hi=>by simp at hi⟩
theorem zra (w:World):CmdAt w (ze8 ⟨#[120,46,121]⟩ ⟨#[47]⟩ ⟨#[97]⟩) none 0:=⟨zrp w,by simp[ze8],by decide,by decide,by decide,⟨by simp[ze8],by simp[ze8]⟩,by simp,by simp[ze8],by simp[ze8],by simp[ze8],by simp[ze8]⟩
theorem zu1 (w:World):CmdAt w xC3 none 0:=⟨zrp w,by simp[xC3],by decide,by decide,by decide,⟨by simp[xC3],by simp[xC3]⟩,by simp,by simp[xC3],by simp[xC3],by simp[xC3],by simp[xC3]⟩
theorem zua (W:World):(binOp .eql 38 (.agg #[.int .i64 0,.int .i64 1]) (.agg #[.int .i64 0,.int .i64 1])).run Tryz.prog W=.ok (.bool true) W:=by kernel_rfl
theorem zub (W:World):(binOp .eql 38 (.agg #[.int .i64 0,.int .i64 2]) (.agg #[.int .i64 0,.int .i64 2])).run Tryz.prog W=.ok (.bool true) W:=by kernel_rfl
theorem zuc (W:World):(binOp .eql 38 (.agg #[.int .i64 13,.int .i64 2]) (.agg #[.int .i64 13,.int .i64 2])).run Tryz.prog W=.ok (.bool true) W:=by kernel_rfl
theorem zm8 (w:World) (hm:Mx w):Calls Tryz.prog 13 #[] w fun e w'=>e=.returned (.bool true)∧Below w.heap.size w w':=by
 have MX:=zaa (fun (W:World) (hb:Below w.heap.size w W)=>hm.later hb);have NC:=zaa (zju w);clear hm;go_enter Tryz.func13,Tryz.ntmps13
 go_wp2_with fail
 refine(za NC).mono ?_;rintro e V1 ⟨h,rfl,s1,b1,hS,hP,hR,hC⟩;have NN:=zaa (show w.heap.size≤h.S∧w.heap.size≤h.P∧w.heap.size≤h.R∧w.heap.size≤h.C from⟨hS,hP,hR,hC⟩);have S1:=zaa s1;have B1:=zaa b1;have LP:=zaa (zna V1 ⟨#[97]⟩);clear s1 b1 hS hP hR hC NC
 go_wp2_with fail
 refine(za LP).mono ?_;rintro e V2 ⟨B,rfl,tg,b2⟩;have B2:=zaa ((za B1).trans (b2.mono (za B1).size));have D1:=zaa (zj9 ((za S1).later b2) zux (by simp[sm0]) (zfl ⟨#[97]⟩) _ _ (zsc tg) (za MX V2 (za B2)));clear tg b2 LP
 go_wp2_with fail
 refine(za D1).mono ?_;rintro e V3 ⟨a1,t1,rfl,sd,cd⟩;rw[zu3] at sd ⊢;have B3:=zaa (Chg.toBelow (za B2) cd (za NN));have S3:=zaa sd;have bA:=zaa (show Below V3.heap.size V3 (V3.alloc (.cells #[.int .i64 0,.int .i64 1] 38)) from(Below.refl _ _).alloc (Nat.le_refl _) _);have XA:=zaa (zad V3 (.cells #[.int .i64 0,.int .i64 1] 38));have B4:=zaa ((za B3).trans ((za bA).mono (za B3).size));have S4:=zaa ((za S3).later (za bA));have LR:=zaa (zlh (V3.alloc (.cells #[.int .i64 0,.int .i64 1] 38)) ⟨#[120,46,121]⟩ ⟨#[47]⟩ ⟨#[97]⟩);have L3:=zaa (za S3).lts;clear sd cd D1 S1 B1 B2
 go_wp2_with fail
 have ZA:=zaa (show V3.heap.size<(V3.alloc (.cells #[.int .i64 0,.int .i64 1] 38)).heap.size from(Array.getElem?_eq_some_iff.1 (za XA)).1);generalize hTA:V3.heap.size=TA at *;generalize V3.alloc (.cells #[.int .i64 0,.int .i64 1] 38)=V4 at *;refine(za LR).mono ?_;rintro e V5 ⟨rfl,b5⟩;have XA5:=zaa (zac b5 (za XA));have B5:=zaa ((za B4).trans (b5.mono (za B4).size));have Z5:=zaa (show TA<V5.heap.size from Nat.lt_of_lt_of_le (za ZA) b5.size);have D2:=zaa (zj9 ((za S4).later b5) (zu2 a1 t1) (by simp[xS1]) (ze8 ⟨#[120,46,121]⟩ ⟨#[47]⟩ ⟨#[97]⟩) none 0 (zra V5) (za MX V5 (za B5)));clear b5 LR XA ZA S4 B4 S3 B3 bA
 go_wp2_with fail
 refine(za D2).mono ?_;rintro e V6 ⟨a2,t2,rfl,sd,cd⟩;rw[zu4] at sd ⊢;have XA6:=zaa ((cd.block TA (za Z5) (by have:=za L3;omega) (by have:=za L3;omega) (by have:=za L3;omega) (by have:=za L3;omega)).trans (za XA5));have B6:=zaa (Chg.toBelow (za B5) cd (za NN));have Z6:=zaa (show TA<V6.heap.size from Nat.lt_of_lt_of_le (za Z5) cd.size);have bB:=zaa (show Below V6.heap.size V6 (V6.alloc (.cells #[.int .i64 0,.int .i64 2] 38)) from(Below.refl _ _).alloc (Nat.le_refl _) _);have XB:=zaa (zad V6 (.cells #[.int .i64 0,.int .i64 2] 38));have XA7:=zaa (zac (za bB) (za XA6));have B7:=zaa ((za B6).trans ((za bB).mono (za B6).size));have S7:=zaa (sd.later (za bB));have Z7:=zaa (show V6.heap.size<(V6.alloc (.cells #[.int .i64 0,.int .i64 2] 38)).heap.size from(Array.getElem?_eq_some_iff.1 (za XB)).1);have D3:=zaa (zj9 (za S7) (zsx a1 t1) (by simp[xS2]) xC3 none 0 (zu1 _) (za MX _ (za B7)));clear sd cd D2 XA5 XA6 Z5 B5 B6 bB
 go_wp2_with fail
 generalize hTB:V6.heap.size=TB at *;generalize V6.alloc (.cells #[.int .i64 0,.int .i64 2] 38)=V7 at *;refine(za D3).mono ?_;rintro e V8 ⟨a3,t3,rfl,sd,cd⟩;rw[zu5] at sd ⊢;have ZAB:=za Z6;have XA8:=zaa ((cd.block TA (by have:=za Z7;omega) (by have:=za L3;omega) (by have:=za L3;omega) (by have:=za L3;omega) (by have:=za L3;omega)).trans (za XA7));have XB8:=zaa ((cd.block TB (za Z7) (by have:=za L3;omega) (by have:=za L3;omega) (by have:=za L3;omega) (by have:=za L3;omega)).trans (za XB));have B8:=zaa (Chg.toBelow (za B7) cd (za NN));have bC:=zaa (show Below V8.heap.size V8 (V8.alloc (.cells #[.int .i64 13,.int .i64 2] 38)) from(Below.refl _ _).alloc (Nat.le_refl _) _);have XC:=zaa (zad V8 (.cells #[.int .i64 13,.int .i64 2] 38));have XA9:=zaa (zac (za bC) (za XA8));have XB9:=zaa (zac (za bC) (za XB8));have B9:=zaa ((za B8).trans ((za bC).mono (za B8).size));have CF:=zaa (zdn (sd.later (za bC)) (zsx a1 t1));clear sd cd D3 XA7 XB XA8 XB8 B7 B8 bC S7 ZAB Z6 Z7
 go_wp2_with fail
 generalize hTC:V8.heap.size=TC at *;generalize V8.alloc (.cells #[.int .i64 13,.int .i64 2] 38)=V9 at *;refine(za CF).mono ?_;rintro e V10 ⟨⟨ra,rc,pa,pc⟩,rfl,cf,bb,_,_⟩;obtain⟨b,off,er,r0,r1,r2⟩:=cf.rts.cell 0 (by simp[xS2,Sm.cf]);simp only at er;subst er;have hrc:=cf.rl.2;have bD:=zaa (show Below V10.heap.size V10 (V10.alloc (.cells #[.int .i64 2,.slice (some ⟨b,off,none⟩) 1 rc,.slice pa 1 pc] 45)) from(Below.refl _ _).alloc (Nat.le_refl _) _);have XD:=zaa (zad V10 (.cells #[.int .i64 2,.slice (some ⟨b,off,none⟩) 1 rc,.slice pa 1 pc] 45));have q2:(V10.alloc (.cells #[.int .i64 2,.slice (some ⟨b,off,none⟩) 1 rc,.slice pa 1 pc] 45)).cell? ⟨b,off+2,none⟩=some (.string ⟨#[97]⟩):=cell_later (za bD) r2;have BF:=zaa (((za B9).trans (bb.mono (za B9).size)).trans ((za bD).mono (by have:=(za B9).size;have:=bb.size;omega)));have XAF:=zaa (zac (za bD) (zac bb (za XA9)));have XBF:=zaa (zac (za bD) (zac bb (za XB9)));have XCF:=zaa (zac (za bD) (zac bb (za XC)));have ea0:=zab (za XAF) 0 _ rfl;have ea1:=zab (za XAF) 1 _ rfl;have eb0:=zab (za XBF) 0 _ rfl;have eb1:=zab (za XBF) 1 _ rfl;have ec0:=zab (za XCF) 0 _ rfl;have ec1:=zab (za XCF) 1 _ rfl;have ed0:=zab (za XD) 0 _ rfl;have ed1:=zab (za XD) 1 _ rfl;have ed2:=zab (za XD) 2 _ rfl;have h1:=zua;have h2:=zub;have h3:=zuc;rw[show zcw (xS2 a1 t1).cf ⟨some ⟨b,off,none⟩,rc,pa,pc⟩=.agg #[.int .i64 2,.slice (some ⟨b,off,none⟩) 1 rc,.slice pa 1 pc] from rfl]
 clear cf bb r0 r1 r2 CF XA9 XB9 XC B9
 go_wp2_with fail
 go_ret
 exact⟨rfl,za BF⟩
end
end Go.Proofs.YtjcjleaicjhpeaaGreatDoor
