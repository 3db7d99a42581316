/- Proved: a command that expects a version is done just there, else it is stale and changes nothing; for every commands (up to 150) and number; no condition beyond the library's variable that is read (lz_of). -/
import Derived.Test.YtjcjleaicjhpeaaGreatDoorB30
import Derived.Test.YtjcjleaicjhpeaaGreatDoorB28
import Derived.Test.YtjcjleaicjhpeaaGreatDoorB20
import Derived.Deep.RegionHeld3
import Derived.Test.YtjcjleaicjhpeaaGreatDoorTie
import Derived.Test.YtjcjleaicjhpeaaGreatDoorCards
import Derived.Lay
import Derived.MakeChecks
import Derived.SevenTiedAt
import Derived.Stop.Joined
set_option linter.unusedVariables false
set_option maxRecDepth 20000
set_option maxHeartbeats 16000000
namespace Go.Proofs.YtjcjleaicjhpeaaGreatDoor.confExpects
open Go.ChangeShapes Go.WideShapes Go.ChangeAt Go.RowKit
theorem own:ownKnob Tryz.prog.godebug=none:=by kernel_rfl
theorem zd3:laidOutB Tryz.prog=true:=by kernel_rfl
theorem zn2 {w:World} {B:Nat} {n:Int} (h:TgsAt w (some ⟨B,0,none⟩) (zzC n).ts) (hn:0≤n∧n≤1099511627775):CmdAt w (zzC n) (some ⟨B,0,none⟩) 1 :=
 ⟨h,by simp[zzC];decide,by show ByteArray.size ⟨#[]⟩≤_;decide,by show ByteArray.size ⟨#[]⟩≤_;decide,by show ByteArray.size ⟨#[122,122]⟩≤_;decide,⟨by simp[zzC,maxLen],by simp[zzC]⟩,by simp,by simp[zzC],by simp[zzC],by simp[zzC],by simp only[zzC];omega⟩
theorem zga (a b:Int) (W:World):(Instr.build 38 #[(0,.int .i64 a),(1,.int .i64 b)]).run Tryz.prog W=.ok (.agg #[.int .i64 a,.int .i64 b]) W:=run_build W 38 _ _ (by kernel_rfl)
theorem zkm (b:Int) (W:World):(Instr.build 38 #[(1,.int .i64 b)]).run Tryz.prog W=.ok (.agg #[.int .i64 0,.int .i64 b]) W:=run_build W 38 _ _ (by kernel_rfl)
theorem walk (a:Option Addr) (cc:Nat) (l:List CmdQ) (n:Int) (w:World) (hx:l.length≤maxLen) (hC:CmdsAt w a l) (hn:-9223372036854775808≤n∧n≤9223372036854775807) (hLz:Lz w) :
  Calls Tryz.prog 5 #[.slice a l.length cc,.int .i64 n] w fun e w'=>e=.returned (.bool true)∧Below w.heap.size w w':=by
 have MX:=zaa (fun (W:World) (hb:Below w.heap.size w W)=>Mx.later hLz hb);have PL:=zaa (zdl a cc l w hx hC hLz);clear hx hC hLz;go_enter Tryz.func5,Tryz.ntmps5
 go_wp2_with fail
 refine(za PL).mono ?_;rintro e V ⟨h,r,z,j,hj,rfl,P,R,B⟩;have BV:=zaa B;have CF:=zaa (P.conf (by omega));have PV:=zaa P;have LV:=zaa (fun (W:World) (hb:Below w.heap.size w W)=>zdi W (za MX W hb))
 have VR:=zaa (show 0≤z.ver∧z.ver≤150 from by
  obtain⟨x,h1,h2,h3,h4,h5⟩:=P.ex;have:=h4.vr;rw[h2.ver] at this
  omega)
 clear P R B PL;by_cases hlow:n<0
 ·as_aux_lemma =>
  have LW:=zaa (za LV V (za BV))
  go_wp2_with fail
  refine(za LW).mono ?_;rintro e U ⟨rfl,u⟩;have F:=zaa ((za BV).trans (u.mono (za BV).size));clear u LW
  go_wp2
  go_ret
  exact⟨rfl,za F⟩
 by_cases hhigh:n ≥ 1099511627776
 ·as_aux_lemma =>
  have LW:=zaa (za LV V (za BV));have hh:(1099511627776:Int)≤n:=hhigh
  go_wp2_with fail
  refine(za LW).mono ?_;rintro e U ⟨rfl,u⟩;have F:=zaa ((za BV).trans (u.mono (za BV).size));clear u LW
  go_wp2
  go_ret
  exact⟨rfl,za F⟩
 have hh:¬ (1099511627776:Int)≤n:=hhigh;clear hhigh;have HN:=zaa (show 0≤n∧n≤1099511627775 by omega)
 go_wp2_with fail
 refine(za CF).mono ?_;rintro e V1 ⟨⟨ra,rc,pa,pc⟩,rfl,cf,v1,_,_⟩;have B1:=zaa ((za BV).trans (v1.mono (za BV).size));have P1:=zaa ((za PV).later v1);have CF1:=zaa cf;rw[show zb1 z.cf ⟨ra,rc,pa,pc⟩=.agg #[.int .i64 z.ver,.slice ra z.rs.length rc,.slice pa (z.ps.map Pq.po).length pc] from rfl];rw[List.length_map];clear cf v1 CF;have bD:=zaa (show Below V1.heap.size V1 (V1.alloc (.cells #[.int .i64 z.ver,.slice ra z.rs.length rc,.slice pa z.ps.length pc] 45)) from(Below.refl _ _).alloc (Nat.le_refl _) _);have XD:=zaa (zad V1 (.cells #[.int .i64 z.ver,.slice ra z.rs.length rc,.slice pa z.ps.length pc] 45));have LP:=zaa (zdj (V1.alloc (.cells #[.int .i64 z.ver,.slice ra z.rs.length rc,.slice pa z.ps.length pc] 45)) ⟨#[122,122]⟩)
 go_wp2_with fail
 generalize hD:V1.heap.size=D at *;have P2:=zaa ((za P1).later (by rw[hD];exact za bD));have B2:=zaa ((za B1).trans ((za bD).mono (by rw[← hD];exact(za B1).size)));have CF2:=zaa ((za CF1).later (by rw[hD];exact za bD));have LD:=(Array.getElem?_eq_some_iff.1 (za XD)).1;generalize V1.alloc (.cells #[.int .i64 z.ver,.slice ra z.rs.length rc,.slice pa z.ps.length pc] 45)=V2 at *;refine(za LP).mono ?_;rintro e V3 ⟨B,rfl,tg,v3⟩;rw[show zam (za5 ⟨#[122,122]⟩) (some ⟨B,0,none⟩) 1=.agg #[.int .i64 1,.int .i64 0,.int .i64 0,.int .i64 (-1),.string ⟨#[]⟩,.string ⟨#[]⟩,.string ⟨#[122,122]⟩,.slice (some ⟨B,0,none⟩) 1 1] from rfl];have XD3:=zaa (zac v3 (za XD));have P3:=zaa ((za P2).later v3);have B3:=zaa ((za B2).trans (v3.mono (za B2).size));have CF3:=zaa ((za CF2).later v3);have TG:=zaa tg;have LD3:=zaa (show D<V3.heap.size from Nat.lt_of_lt_of_le LD v3.size);have XC4:=zaa (zad V3 (.cells #[.int .i64 1,.int .i64 0,.int .i64 0,.int .i64 n,.string ⟨#[]⟩,.string ⟨#[]⟩,.string ⟨#[122,122]⟩,.slice (some ⟨B,0,none⟩) 1 1] 33));have b4:=zaa (show Below V3.heap.size V3 (V3.alloc (.cells #[.int .i64 1,.int .i64 0,.int .i64 0,.int .i64 n,.string ⟨#[]⟩,.string ⟨#[]⟩,.string ⟨#[122,122]⟩,.slice (some ⟨B,0,none⟩) 1 1] 33)) from(Below.refl _ _).alloc (Nat.le_refl _) _);have XD4:=zaa (zac (za b4) (za XD3));have d2:=zab (za XD4) 2 (.slice pa z.ps.length pc) rfl;have P4:=zaa ((za P3).later (za b4))
 have B4:=zaa ((za B3).trans ((za b4).mono (za B3).size));have CF4:=zaa ((za CF3).later (za b4));have TG4:=zaa (show TgsAt _ (some ⟨B,0,none⟩) (zzC n).ts from(za TG).later (za b4));clear tg v3 LP LD bD XD P1 P2 B1 B2 CF1 CF2 XD3 P3 B3 CF3 TG b4;by_cases hp:32≤z.ps.length
 ·as_aux_lemma =>
  have hpI:(32:Int)≤(z.ps.length:Int):=by omega
  have hpD:decide (32≤z.ps.length)=true:=decide_eq_true hp
  go_wp2_with fail
  generalize V3.alloc (.cells #[.int .i64 1,.int .i64 0,.int .i64 0,.int .i64 n,.string ⟨#[]⟩,.string ⟨#[]⟩,.string ⟨#[122,122]⟩,.slice (some ⟨B,0,none⟩) 1 1] 33)=V5 at *;generalize hCC:V3.heap.size=C at *;have P5:=P4;have B5:=B4;have XD5:=XD4;have XC5:=XC4;have CF5:=CF4;have TG5:=TG4;clear P4 B4 XD4 XC4 CF4 TG4 d2;have c0:=zab (za XC5) 0 (.int .i64 1) rfl;have c1:=zab (za XC5) 1 (.int .i64 0) rfl;have c2:=zab (za XC5) 2 (.int .i64 0) rfl;have c3:=zab (za XC5) 3 (.int .i64 n) rfl;have c4:=zab (za XC5) 4 (.string ⟨#[]⟩) rfl;have c5:=zab (za XC5) 5 (.string ⟨#[]⟩) rfl;have c6:=zab (za XC5) 6 (.string ⟨#[122,122]⟩) rfl;have c7:=zab (za XC5) 7 (.slice (some ⟨B,0,none⟩) 1 1) rfl;have DO:=zaa ((za P5).do (by omega) (zzC n) (some ⟨B,0,none⟩) 1 (zn2 (za TG5) (za HN)) (za MX _ (za B5)));rw[show zam (zzC n) (some ⟨B,0,none⟩) 1=.agg #[.int .i64 1,.int .i64 0,.int .i64 0,.int .i64 n,.string ⟨#[]⟩,.string ⟨#[]⟩,.string ⟨#[122,122]⟩,.slice (some ⟨B,0,none⟩) 1 1] from rfl] at DO;clear XC5 TG5 P5
  go_wp2_with fail
  refine(za DO).mono ?_;rintro e V6 ⟨rfl,p6,u6,_,x6,s6,cg6⟩;have XD6:=zaa (cg6.cells s6 (by decide) (za XD5));have CF6:=zaa ((za CF5).chg s6 cg6);have B6:=zaa ((za B5).trans u6);have P6:=zaa p6;clear p6 u6 s6 cg6 DO XD5 CF5 B5 c0 c1 c2 c3 c4 c5 c6 c7;by_cases hv:n=z.ver
  ·as_aux_lemma =>
   skip
   generalize doS (zzC n) none 0 z=rr at *;obtain⟨⟨er,vr⟩,z'⟩:=rr;dsimp only at *
   skip
   have bT:=zaa (show Below V6.heap.size V6 (V6.alloc (.cells #[.int .i64 er,.int .i64 vr] 38)) from(Below.refl _ _).alloc (Nat.le_refl _) _);have XT:=zaa (zad V6 (.cells #[.int .i64 er,.int .i64 vr] 38));have d0:=zab (zac (za bT) (za XD6)) 0 (.int .i64 z.ver) rfl;have hne:¬ (n≠z.ver):=fun e=>e hv;have hbe:(n==z.ver)=true:=by rw[hv];exact beq_self_eq_true _
   have B7:=zaa ((za B6).trans ((za bT).mono (za B6).size));have LW:=zaa (za LV _ (za B7));have hwr:IntKind.i64.wrap (z.ver+1)=z.ver+1:=by have:=za VR;rw[IntKind.wrap_i64];omega
   have HV:=zaa hv;clear hv
   go_wp2_with fail
   refine(za LW).mono ?_;rintro e V8 ⟨rfl,v8⟩;have XT8:=zac v8 (za XT);have d8:=zab (zac v8 (zac (za bT) (za XD6))) 0 (.int .i64 z.ver) rfl;have F:=zaa ((za B7).trans (v8.mono (za B7).size));have t0:=zab XT8 0 (.int .i64 er) rfl;have t1:=zab XT8 1 (.int .i64 vr) rfl
   skip
   clear v8 LW XT8
   go_wp2
   go_ret
   exact⟨rfl,za F⟩
  ·as_aux_lemma =>
   have hrr:=zie (z:=z) (za HN) hv;rw[hrr] at P6 ⊢;dsimp only at *;clear hrr;have bT:=zaa (show Below V6.heap.size V6 (V6.alloc (.cells #[.int .i64 12,.int .i64 z.ver] 38)) from(Below.refl _ _).alloc (Nat.le_refl _) _);have XT:=zaa (zad V6 (.cells #[.int .i64 12,.int .i64 z.ver] 38));have XD7:=zaa (zac (za bT) (za XD6));have d0:=zab (za XD7) 0 (.int .i64 z.ver) rfl;have hbe:(n==z.ver)=false:=by rw[beq_eq_false_iff_ne];exact hv
   have B7:=zaa ((za B6).trans ((za bT).mono (za B6).size));have LW:=zaa (fun (W:World) (hb:Below w.heap.size w W)=>za LV _ hb);have P7:=zaa ((za P6).later (za bT));have CF7:=zaa ((za CF6).later (za bT));have er:=zlp 12 z.ver 12 z.ver;have bu:=zga
   go_wp2_with fail
   generalize hTD:V6.heap.size=T at *;generalize V6.alloc (.cells #[.int .i64 12,.int .i64 z.ver] 38)=V7 at *;have KF:=zaa (show ∀ W:World,Below V7.heap.size V7 W→W.cell? ⟨T,0,none⟩=some (.int .i64 12)∧W.cell? ⟨T,1,none⟩=some (.int .i64 z.ver)∧W.cell? ⟨D,0,none⟩=some (.int .i64 z.ver)∧W.cell? ⟨D,1,none⟩=some (.slice ra z.rs.length rc)∧W.cell? ⟨D,2,none⟩=some (.slice pa z.ps.length pc) from fun W hb=>⟨zab (zac hb (za XT)) 0 _ rfl,zab (zac hb (za XT)) 1 _ rfl,zab (zac hb (za XD7)) 0 _ rfl,zab (zac hb (za XD7)) 1 _ rfl,zab (zac hb (za XD7)) 2 _ rfl⟩);have bZ:=zaa (show Below V7.heap.size V7 V7.drew from(Below.refl _ _).drew);have KB:=zaa (za KF _ (za bZ));have EC:=zaa (show zb1 z.cf ⟨ra,rc,pa,pc⟩=.agg #[.int .i64 z.ver,.slice ra z.rs.length rc,.slice pa z.ps.length pc] from by simp[zb1,Sm.cf]);refine wp_region_held_drew (S:=fun W=>W.cell? ⟨T,0,none⟩=some (.int .i64 12)∧W.cell? ⟨T,1,none⟩=some (.int .i64 z.ver)∧W.cell? ⟨D,0,none⟩=some (.int .i64 z.ver)∧W.cell? ⟨D,1,none⟩=some (.slice ra z.rs.length rc)∧W.cell? ⟨D,2,none⟩=some (.slice pa z.ps.length pc)) (by kernel_rfl) ?_ (fun hHeld=>?_)
   ·try dsimp only
    first|exact za K3|exact za K2|exact za K1|exact za KB
   refine hO 0 (fun K hK=>?_);go_simp
   first
    |(go_at_call 13
      refine(za LW _ ((za B7).trans ((za bZ).mono (za B7).size))).mono ?_;rintro e U1 ⟨rfl,u1⟩;have b1:=zaa ((za bZ).trans (u1.mono (za bZ).size));have K1:=zaa (za KF _ (za b1));have C2:=zaa (((za P7).later (za b1)).conf (by omega))
      clear u1)
    |(go_at_call 19
      refine(za C2).mono ?_;rintro e U2 ⟨k2,rfl,cf2,u2,_,_⟩;have b2:=zaa ((za b1).trans (u2.mono (za b1).size));have K2:=zaa (za KF _ (za b2));have SC:=zaa (za3 cf2 ((za CF7).later (za b2)));rw[za EC] at SC
      clear u2 cf2)
    |(go_at_call 21
      refine(za SC).mono ?_;rintro e U3 ⟨rfl,u3⟩;have b3:=zaa ((za b2).trans (u3.mono (za b2).size));have K3:=zaa (za KF _ (za b3))
      clear u3)
   go_wp2_with fail
   refine hK.out _ _ ?_ (fun hHeld=>?_)
   ·try dsimp only
    first|exact za K3|exact za K2|exact za K1|exact za KB
   clear hK K;refine hP ?_;refine hT 1 ?_;refine hT 2 ?_;refine hT 3 ?_;refine hT 4 ?_;refine hT 5 ?_;refine hT 6 ?_;refine hT 7 ?_;refine hT 8 ?_;refine hT 9 ?_;refine hT 11 ?_;refine hO 10 (fun K hK=>?_);go_simp
   first
    |(go_at_call 13
      refine(za LW _ ((za B7).trans ((za bZ).mono (za B7).size))).mono ?_;rintro e U1 ⟨rfl,u1⟩;have b1:=zaa ((za bZ).trans (u1.mono (za bZ).size));have K1:=zaa (za KF _ (za b1));have C2:=zaa (((za P7).later (za b1)).conf (by omega))
      clear u1)
    |(go_at_call 19
      refine(za C2).mono ?_;rintro e U2 ⟨k2,rfl,cf2,u2,_,_⟩;have b2:=zaa ((za b1).trans (u2.mono (za b1).size));have K2:=zaa (za KF _ (za b2));have SC:=zaa (za3 cf2 ((za CF7).later (za b2)));rw[za EC] at SC
      clear u2 cf2)
    |(go_at_call 21
      refine(za SC).mono ?_;rintro e U3 ⟨rfl,u3⟩;have b3:=zaa ((za b2).trans (u3.mono (za b2).size));have K3:=zaa (za KF _ (za b3))
      clear u3)
   go_wp2_with fail
   refine hK.out _ _ ?_ (fun hHeld=>?_)
   ·try dsimp only
    first|exact za K3|exact za K2|exact za K1|exact za KB
   clear hK K;refine hP ?_;refine hO 12 (fun K hK=>?_);go_simp
   first
    |(go_at_call 13
      refine(za LW _ ((za B7).trans ((za bZ).mono (za B7).size))).mono ?_;rintro e U1 ⟨rfl,u1⟩;have b1:=zaa ((za bZ).trans (u1.mono (za bZ).size));have K1:=zaa (za KF _ (za b1));have C2:=zaa (((za P7).later (za b1)).conf (by omega))
      clear u1)
    |(go_at_call 19
      refine(za C2).mono ?_;rintro e U2 ⟨k2,rfl,cf2,u2,_,_⟩;have b2:=zaa ((za b1).trans (u2.mono (za b1).size));have K2:=zaa (za KF _ (za b2));have SC:=zaa (za3 cf2 ((za CF7).later (za b2)));rw[za EC] at SC
      clear u2 cf2)
    |(go_at_call 21
      refine(za SC).mono ?_;rintro e U3 ⟨rfl,u3⟩;have b3:=zaa ((za b2).trans (u3.mono (za b2).size));have K3:=zaa (za KF _ (za b3))
      clear u3)
   go_wp2_with fail
   refine hK.out _ _ ?_ (fun hHeld=>?_)
   ·try dsimp only
    first|exact za K3|exact za K2|exact za K1|exact za KB
   clear hK K;refine hP ?_;refine hT 13 ?_;refine hT 14 ?_;refine wpAnyH_done (by kernel_rfl) ?_ _;have F:=zaa ((za B7).trans ((za b3).mono (za B7).size))
   go_wp2
   go_ret
   exact⟨rfl,za F⟩
 ·as_aux_lemma =>
  have hpI:¬ (32:Int)≤(z.ps.length:Int):=by omega
  have hpD:decide (32≤z.ps.length)=false:=decide_eq_false hp;have PP:=zaa ((za P4).put (by omega))
  go_wp2_with fail
  refine(za PP).mono ?_;rintro e V5 ⟨sp,m,c,rfl,hm,_,v5⟩;have P5:=zaa ((za P4).later v5);have B5:=zaa ((za B4).trans (v5.mono (za B4).size));have XD5:=zaa (zac v5 (za XD4));have XC5:=zaa (zac v5 (za XC4));have CF5:=zaa ((za CF4).later v5);have TG5:=zaa ((za TG4).later v5);clear PP v5 P4 B4 XD4 XC4 CF4 TG4 d2;generalize hCC:V3.heap.size=C at *;by_cases hm2:11900<m
  ·as_aux_lemma =>
   have hmI:(11900:Int)<(m:Int):=by omega
   have hmD:decide (11900<m)=true:=decide_eq_true hm2;clear hm2;have c0:=zab (za XC5) 0 (.int .i64 1) rfl;have c1:=zab (za XC5) 1 (.int .i64 0) rfl;have c2:=zab (za XC5) 2 (.int .i64 0) rfl;have c3:=zab (za XC5) 3 (.int .i64 n) rfl;have c4:=zab (za XC5) 4 (.string ⟨#[]⟩) rfl;have c5:=zab (za XC5) 5 (.string ⟨#[]⟩) rfl;have c6:=zab (za XC5) 6 (.string ⟨#[122,122]⟩) rfl;have c7:=zab (za XC5) 7 (.slice (some ⟨B,0,none⟩) 1 1) rfl;have DO:=zaa ((za P5).do (by omega) (zzC n) (some ⟨B,0,none⟩) 1 (zn2 (za TG5) (za HN)) (za MX _ (za B5)));rw[show zam (zzC n) (some ⟨B,0,none⟩) 1=.agg #[.int .i64 1,.int .i64 0,.int .i64 0,.int .i64 n,.string ⟨#[]⟩,.string ⟨#[]⟩,.string ⟨#[122,122]⟩,.slice (some ⟨B,0,none⟩) 1 1] from rfl] at DO;clear XC5 TG5 P5
   go_wp2_with fail
   refine(za DO).mono ?_;rintro e V6 ⟨rfl,p6,u6,_,x6,s6,cg6⟩;have XD6:=zaa (cg6.cells s6 (by decide) (za XD5));have CF6:=zaa ((za CF5).chg s6 cg6);have B6:=zaa ((za B5).trans u6);have P6:=zaa p6;clear p6 u6 s6 cg6 DO XD5 CF5 B5 c0 c1 c2 c3 c4 c5 c6 c7;by_cases hv:n=z.ver
   ·as_aux_lemma =>
    skip
    generalize doS (zzC n) none 0 z=rr at *;obtain⟨⟨er,vr⟩,z'⟩:=rr;dsimp only at *
    skip
    have bT:=zaa (show Below V6.heap.size V6 (V6.alloc (.cells #[.int .i64 er,.int .i64 vr] 38)) from(Below.refl _ _).alloc (Nat.le_refl _) _);have XT:=zaa (zad V6 (.cells #[.int .i64 er,.int .i64 vr] 38));have d0:=zab (zac (za bT) (za XD6)) 0 (.int .i64 z.ver) rfl;have hne:¬ (n≠z.ver):=fun e=>e hv;have hbe:(n==z.ver)=true:=by rw[hv];exact beq_self_eq_true _
    have B7:=zaa ((za B6).trans ((za bT).mono (za B6).size));have LW:=zaa (za LV _ (za B7));have hwr:IntKind.i64.wrap (z.ver+1)=z.ver+1:=by have:=za VR;rw[IntKind.wrap_i64];omega
    have HV:=zaa hv;clear hv
    go_wp2_with fail
    refine(za LW).mono ?_;rintro e V8 ⟨rfl,v8⟩;have XT8:=zac v8 (za XT);have d8:=zab (zac v8 (zac (za bT) (za XD6))) 0 (.int .i64 z.ver) rfl;have F:=zaa ((za B7).trans (v8.mono (za B7).size));have t0:=zab XT8 0 (.int .i64 er) rfl;have t1:=zab XT8 1 (.int .i64 vr) rfl
    skip
    clear v8 LW XT8
    go_wp2
    go_ret
    exact⟨rfl,za F⟩
   ·as_aux_lemma =>
    have hrr:=zie (z:=z) (za HN) hv;rw[hrr] at P6 ⊢;dsimp only at *;clear hrr;have bT:=zaa (show Below V6.heap.size V6 (V6.alloc (.cells #[.int .i64 12,.int .i64 z.ver] 38)) from(Below.refl _ _).alloc (Nat.le_refl _) _);have XT:=zaa (zad V6 (.cells #[.int .i64 12,.int .i64 z.ver] 38));have XD7:=zaa (zac (za bT) (za XD6));have d0:=zab (za XD7) 0 (.int .i64 z.ver) rfl;have hbe:(n==z.ver)=false:=by rw[beq_eq_false_iff_ne];exact hv
    have B7:=zaa ((za B6).trans ((za bT).mono (za B6).size));have LW:=zaa (fun (W:World) (hb:Below w.heap.size w W)=>za LV _ hb);have P7:=zaa ((za P6).later (za bT));have CF7:=zaa ((za CF6).later (za bT));have er:=zlp 12 z.ver 12 z.ver;have bu:=zga
    go_wp2_with fail
    generalize hTD:V6.heap.size=T at *;generalize V6.alloc (.cells #[.int .i64 12,.int .i64 z.ver] 38)=V7 at *;have KF:=zaa (show ∀ W:World,Below V7.heap.size V7 W→W.cell? ⟨T,0,none⟩=some (.int .i64 12)∧W.cell? ⟨T,1,none⟩=some (.int .i64 z.ver)∧W.cell? ⟨D,0,none⟩=some (.int .i64 z.ver)∧W.cell? ⟨D,1,none⟩=some (.slice ra z.rs.length rc)∧W.cell? ⟨D,2,none⟩=some (.slice pa z.ps.length pc) from fun W hb=>⟨zab (zac hb (za XT)) 0 _ rfl,zab (zac hb (za XT)) 1 _ rfl,zab (zac hb (za XD7)) 0 _ rfl,zab (zac hb (za XD7)) 1 _ rfl,zab (zac hb (za XD7)) 2 _ rfl⟩);have bZ:=zaa (show Below V7.heap.size V7 V7.drew from(Below.refl _ _).drew);have KB:=zaa (za KF _ (za bZ));have EC:=zaa (show zb1 z.cf ⟨ra,rc,pa,pc⟩=.agg #[.int .i64 z.ver,.slice ra z.rs.length rc,.slice pa z.ps.length pc] from by simp[zb1,Sm.cf]);refine wp_region_held_drew (S:=fun W=>W.cell? ⟨T,0,none⟩=some (.int .i64 12)∧W.cell? ⟨T,1,none⟩=some (.int .i64 z.ver)∧W.cell? ⟨D,0,none⟩=some (.int .i64 z.ver)∧W.cell? ⟨D,1,none⟩=some (.slice ra z.rs.length rc)∧W.cell? ⟨D,2,none⟩=some (.slice pa z.ps.length pc)) (by kernel_rfl) ?_ (fun hHeld=>?_)
    ·try dsimp only
     first|exact za K3|exact za K2|exact za K1|exact za KB
    refine hO 0 (fun K hK=>?_);go_simp
    first
     |(go_at_call 13
       refine(za LW _ ((za B7).trans ((za bZ).mono (za B7).size))).mono ?_;rintro e U1 ⟨rfl,u1⟩;have b1:=zaa ((za bZ).trans (u1.mono (za bZ).size));have K1:=zaa (za KF _ (za b1));have C2:=zaa (((za P7).later (za b1)).conf (by omega))
       clear u1)
     |(go_at_call 19
       refine(za C2).mono ?_;rintro e U2 ⟨k2,rfl,cf2,u2,_,_⟩;have b2:=zaa ((za b1).trans (u2.mono (za b1).size));have K2:=zaa (za KF _ (za b2));have SC:=zaa (za3 cf2 ((za CF7).later (za b2)));rw[za EC] at SC
       clear u2 cf2)
     |(go_at_call 21
       refine(za SC).mono ?_;rintro e U3 ⟨rfl,u3⟩;have b3:=zaa ((za b2).trans (u3.mono (za b2).size));have K3:=zaa (za KF _ (za b3))
       clear u3)
    go_wp2_with fail
    refine hK.out _ _ ?_ (fun hHeld=>?_)
    ·try dsimp only
     first|exact za K3|exact za K2|exact za K1|exact za KB
    clear hK K;refine hP ?_;refine hT 1 ?_;refine hT 2 ?_;refine hT 3 ?_;refine hT 4 ?_;refine hT 5 ?_;refine hT 6 ?_;refine hT 7 ?_;refine hT 8 ?_;refine hT 9 ?_;refine hT 11 ?_;refine hO 10 (fun K hK=>?_);go_simp
    first
     |(go_at_call 13
       refine(za LW _ ((za B7).trans ((za bZ).mono (za B7).size))).mono ?_;rintro e U1 ⟨rfl,u1⟩;have b1:=zaa ((za bZ).trans (u1.mono (za bZ).size));have K1:=zaa (za KF _ (za b1));have C2:=zaa (((za P7).later (za b1)).conf (by omega))
       clear u1)
     |(go_at_call 19
       refine(za C2).mono ?_;rintro e U2 ⟨k2,rfl,cf2,u2,_,_⟩;have b2:=zaa ((za b1).trans (u2.mono (za b1).size));have K2:=zaa (za KF _ (za b2));have SC:=zaa (za3 cf2 ((za CF7).later (za b2)));rw[za EC] at SC
       clear u2 cf2)
     |(go_at_call 21
       refine(za SC).mono ?_;rintro e U3 ⟨rfl,u3⟩;have b3:=zaa ((za b2).trans (u3.mono (za b2).size));have K3:=zaa (za KF _ (za b3))
       clear u3)
    go_wp2_with fail
    refine hK.out _ _ ?_ (fun hHeld=>?_)
    ·try dsimp only
     first|exact za K3|exact za K2|exact za K1|exact za KB
    clear hK K;refine hP ?_;refine hO 12 (fun K hK=>?_);go_simp
    first
     |(go_at_call 13
       refine(za LW _ ((za B7).trans ((za bZ).mono (za B7).size))).mono ?_;rintro e U1 ⟨rfl,u1⟩;have b1:=zaa ((za bZ).trans (u1.mono (za bZ).size));have K1:=zaa (za KF _ (za b1));have C2:=zaa (((za P7).later (za b1)).conf (by omega))
       clear u1)
     |(go_at_call 19
       refine(za C2).mono ?_;rintro e U2 ⟨k2,rfl,cf2,u2,_,_⟩;have b2:=zaa ((za b1).trans (u2.mono (za b1).size));have K2:=zaa (za KF _ (za b2));have SC:=zaa (za3 cf2 ((za CF7).later (za b2)));rw[za EC] at SC
       clear u2 cf2)
     |(go_at_call 21
       refine(za SC).mono ?_;rintro e U3 ⟨rfl,u3⟩;have b3:=zaa ((za b2).trans (u3.mono (za b2).size));have K3:=zaa (za KF _ (za b3))
       clear u3)
    go_wp2_with fail
    refine hK.out _ _ ?_ (fun hHeld=>?_)
    ·try dsimp only
     first|exact za K3|exact za K2|exact za K1|exact za KB
    clear hK K;refine hP ?_;refine hT 13 ?_;refine hT 14 ?_;refine wpAnyH_done (by kernel_rfl) ?_ _;have F:=zaa ((za B7).trans ((za b3).mono (za B7).size))
    go_wp2
    go_ret
    exact⟨rfl,za F⟩
  ·as_aux_lemma =>
   have hmI:¬ (11900:Int)<(m:Int):=by omega
   have hmD:decide (11900<m)=false:=decide_eq_false hm2;have MZ:=zaa (show(zkd z).length≤11900 from by rw[za hm];omega);clear hm2;have c0:=zab (za XC5) 0 (.int .i64 1) rfl;have c1:=zab (za XC5) 1 (.int .i64 0) rfl;have c2:=zab (za XC5) 2 (.int .i64 0) rfl;have c3:=zab (za XC5) 3 (.int .i64 n) rfl;have c4:=zab (za XC5) 4 (.string ⟨#[]⟩) rfl;have c5:=zab (za XC5) 5 (.string ⟨#[]⟩) rfl;have c6:=zab (za XC5) 6 (.string ⟨#[122,122]⟩) rfl;have c7:=zab (za XC5) 7 (.slice (some ⟨B,0,none⟩) 1 1) rfl;have DO:=zaa ((za P5).do (by omega) (zzC n) (some ⟨B,0,none⟩) 1 (zn2 (za TG5) (za HN)) (za MX _ (za B5)));rw[show zam (zzC n) (some ⟨B,0,none⟩) 1=.agg #[.int .i64 1,.int .i64 0,.int .i64 0,.int .i64 n,.string ⟨#[]⟩,.string ⟨#[]⟩,.string ⟨#[122,122]⟩,.slice (some ⟨B,0,none⟩) 1 1] from rfl] at DO;clear XC5 TG5 P5
   go_wp2_with fail
   refine(za DO).mono ?_;rintro e V6 ⟨rfl,p6,u6,_,x6,s6,cg6⟩;have XD6:=zaa (cg6.cells s6 (by decide) (za XD5));have CF6:=zaa ((za CF5).chg s6 cg6);have B6:=zaa ((za B5).trans u6);have P6:=zaa p6;clear p6 u6 s6 cg6 DO XD5 CF5 B5 c0 c1 c2 c3 c4 c5 c6 c7;by_cases hv:n=z.ver
   ·as_aux_lemma =>
    have hrr:(doS (zzC n) none 0 z).1=(0,z.ver+1):=by rw[hv];exact zn3 ⟨(za VR).1,by have:=(za VR).2;omega⟩ (by omega) (za MZ)
    generalize doS (zzC n) none 0 z=rr at *;obtain⟨⟨er,vr⟩,z'⟩:=rr;dsimp only at *;obtain⟨rfl,rfl⟩:=Prod.mk.inj hrr;have bT:=zaa (show Below V6.heap.size V6 (V6.alloc (.cells #[.int .i64 0,.int .i64 (z.ver+1)] 38)) from(Below.refl _ _).alloc (Nat.le_refl _) _);have XT:=zaa (zad V6 (.cells #[.int .i64 0,.int .i64 (z.ver+1)] 38));have d0:=zab (zac (za bT) (za XD6)) 0 (.int .i64 z.ver) rfl;have hne:¬ (n≠z.ver):=fun e=>e hv;have hbe:(n==z.ver)=true:=by rw[hv];exact beq_self_eq_true _
    have B7:=zaa ((za B6).trans ((za bT).mono (za B6).size));have LW:=zaa (za LV _ (za B7));have hwr:IntKind.i64.wrap (z.ver+1)=z.ver+1:=by have:=za VR;rw[IntKind.wrap_i64];omega
    have HV:=zaa hv;clear hv
    go_wp2_with fail
    refine(za LW).mono ?_;rintro e V8 ⟨rfl,v8⟩;have XT8:=zac v8 (za XT);have d8:=zab (zac v8 (zac (za bT) (za XD6))) 0 (.int .i64 z.ver) rfl;have F:=zaa ((za B7).trans (v8.mono (za B7).size));have t0:=zab XT8 0 (.int .i64 0) rfl;have t1:=zab XT8 1 (.int .i64 (z.ver+1)) rfl;have er9:=zlp 0 (z.ver+1) 0 (z.ver+1);have bu9:=zkm (z.ver+1);clear v8 LW XT8
    go_wp2
    go_ret
    exact⟨rfl,za F⟩
   ·as_aux_lemma =>
    have hrr:=zie (z:=z) (za HN) hv;rw[hrr] at P6 ⊢;dsimp only at *;clear hrr;have bT:=zaa (show Below V6.heap.size V6 (V6.alloc (.cells #[.int .i64 12,.int .i64 z.ver] 38)) from(Below.refl _ _).alloc (Nat.le_refl _) _);have XT:=zaa (zad V6 (.cells #[.int .i64 12,.int .i64 z.ver] 38));have XD7:=zaa (zac (za bT) (za XD6));have d0:=zab (za XD7) 0 (.int .i64 z.ver) rfl;have hbe:(n==z.ver)=false:=by rw[beq_eq_false_iff_ne];exact hv
    have B7:=zaa ((za B6).trans ((za bT).mono (za B6).size));have LW:=zaa (fun (W:World) (hb:Below w.heap.size w W)=>za LV _ hb);have P7:=zaa ((za P6).later (za bT));have CF7:=zaa ((za CF6).later (za bT));have er:=zlp 12 z.ver 12 z.ver;have bu:=zga
    go_wp2_with fail
    generalize hTD:V6.heap.size=T at *;generalize V6.alloc (.cells #[.int .i64 12,.int .i64 z.ver] 38)=V7 at *;have KF:=zaa (show ∀ W:World,Below V7.heap.size V7 W→W.cell? ⟨T,0,none⟩=some (.int .i64 12)∧W.cell? ⟨T,1,none⟩=some (.int .i64 z.ver)∧W.cell? ⟨D,0,none⟩=some (.int .i64 z.ver)∧W.cell? ⟨D,1,none⟩=some (.slice ra z.rs.length rc)∧W.cell? ⟨D,2,none⟩=some (.slice pa z.ps.length pc) from fun W hb=>⟨zab (zac hb (za XT)) 0 _ rfl,zab (zac hb (za XT)) 1 _ rfl,zab (zac hb (za XD7)) 0 _ rfl,zab (zac hb (za XD7)) 1 _ rfl,zab (zac hb (za XD7)) 2 _ rfl⟩);have bZ:=zaa (show Below V7.heap.size V7 V7.drew from(Below.refl _ _).drew);have KB:=zaa (za KF _ (za bZ));have EC:=zaa (show zb1 z.cf ⟨ra,rc,pa,pc⟩=.agg #[.int .i64 z.ver,.slice ra z.rs.length rc,.slice pa z.ps.length pc] from by simp[zb1,Sm.cf]);refine wp_region_held_drew (S:=fun W=>W.cell? ⟨T,0,none⟩=some (.int .i64 12)∧W.cell? ⟨T,1,none⟩=some (.int .i64 z.ver)∧W.cell? ⟨D,0,none⟩=some (.int .i64 z.ver)∧W.cell? ⟨D,1,none⟩=some (.slice ra z.rs.length rc)∧W.cell? ⟨D,2,none⟩=some (.slice pa z.ps.length pc)) (by kernel_rfl) ?_ (fun hHeld=>?_)
    ·try dsimp only
     first|exact za K3|exact za K2|exact za K1|exact za KB
    refine hO 0 (fun K hK=>?_);go_simp
    first
     |(go_at_call 13
       refine(za LW _ ((za B7).trans ((za bZ).mono (za B7).size))).mono ?_;rintro e U1 ⟨rfl,u1⟩;have b1:=zaa ((za bZ).trans (u1.mono (za bZ).size));have K1:=zaa (za KF _ (za b1));have C2:=zaa (((za P7).later (za b1)).conf (by omega))
       clear u1)
     |(go_at_call 19
       refine(za C2).mono ?_;rintro e U2 ⟨k2,rfl,cf2,u2,_,_⟩;have b2:=zaa ((za b1).trans (u2.mono (za b1).size));have K2:=zaa (za KF _ (za b2));have SC:=zaa (za3 cf2 ((za CF7).later (za b2)));rw[za EC] at SC
       clear u2 cf2)
     |(go_at_call 21
       refine(za SC).mono ?_;rintro e U3 ⟨rfl,u3⟩;have b3:=zaa ((za b2).trans (u3.mono (za b2).size));have K3:=zaa (za KF _ (za b3))
       clear u3)
    go_wp2_with fail
    refine hK.out _ _ ?_ (fun hHeld=>?_)
    ·try dsimp only
     first|exact za K3|exact za K2|exact za K1|exact za KB
    clear hK K;refine hP ?_;refine hT 1 ?_;refine hT 2 ?_;refine hT 3 ?_;refine hT 4 ?_;refine hT 5 ?_;refine hT 6 ?_;refine hT 7 ?_;refine hT 8 ?_;refine hT 9 ?_;refine hT 11 ?_;refine hO 10 (fun K hK=>?_);go_simp
    first
     |(go_at_call 13
       refine(za LW _ ((za B7).trans ((za bZ).mono (za B7).size))).mono ?_;rintro e U1 ⟨rfl,u1⟩;have b1:=zaa ((za bZ).trans (u1.mono (za bZ).size));have K1:=zaa (za KF _ (za b1));have C2:=zaa (((za P7).later (za b1)).conf (by omega))
       clear u1)
     |(go_at_call 19
       refine(za C2).mono ?_;rintro e U2 ⟨k2,rfl,cf2,u2,_,_⟩;have b2:=zaa ((za b1).trans (u2.mono (za b1).size));have K2:=zaa (za KF _ (za b2));have SC:=zaa (za3 cf2 ((za CF7).later (za b2)));rw[za EC] at SC
       clear u2 cf2)
     |(go_at_call 21
       refine(za SC).mono ?_;rintro e U3 ⟨rfl,u3⟩;have b3:=zaa ((za b2).trans (u3.mono (za b2).size));have K3:=zaa (za KF _ (za b3))
       clear u3)
    go_wp2_with fail
    refine hK.out _ _ ?_ (fun hHeld=>?_)
    ·try dsimp only
     first|exact za K3|exact za K2|exact za K1|exact za KB
    clear hK K;refine hP ?_;refine hO 12 (fun K hK=>?_);go_simp
    first
     |(go_at_call 13
       refine(za LW _ ((za B7).trans ((za bZ).mono (za B7).size))).mono ?_;rintro e U1 ⟨rfl,u1⟩;have b1:=zaa ((za bZ).trans (u1.mono (za bZ).size));have K1:=zaa (za KF _ (za b1));have C2:=zaa (((za P7).later (za b1)).conf (by omega))
       clear u1)
     |(go_at_call 19
       refine(za C2).mono ?_;rintro e U2 ⟨k2,rfl,cf2,u2,_,_⟩;have b2:=zaa ((za b1).trans (u2.mono (za b1).size));have K2:=zaa (za KF _ (za b2));have SC:=zaa (za3 cf2 ((za CF7).later (za b2)));rw[za EC] at SC
       clear u2 cf2)
     |(go_at_call 21
       refine(za SC).mono ?_;rintro e U3 ⟨rfl,u3⟩;have b3:=zaa ((za b2).trans (u3.mono (za b2).size));have K3:=zaa (za KF _ (za b3))
       clear u3)
    go_wp2_with fail
    refine hK.out _ _ ?_ (fun hHeld=>?_)
    ·try dsimp only
     first|exact za K3|exact za K2|exact za K1|exact za KB
    clear hK K;refine hP ?_;refine hT 13 ?_;refine hT 14 ?_;refine wpAnyH_done (by kernel_rfl) ?_ _;have F:=zaa ((za B7).trans ((za b3).mono (za B7).size))
    go_wp2
    go_ret
    exact⟨rfl,za F⟩
theorem zgo (os:Os) (started:os.Started) (H:Type) (enc:TypeId×Value→H) :
  ReturnsInHanded {} Tryz.checked os 5 .any (fun w args=>(Rows.confExpectsSpec.pre enc Tryz.prog Tryz.f5 Rows.confExpectsRow.domain false w args∧laidMetH Tryz.prog Rows.confExpectsRow.laid w)∧sizedMet enc Tryz.prog Tryz.f5 (OpenSpec.ofChange Rows.confExpectsSpec) false w args)
   (Rows.confExpectsSpec.post enc Tryz.prog Tryz.f5 false true false false):=by
 refine zdh (C:=Tryz.checked) (X:=fun w _=>laidMetH Tryz.prog Rows.confExpectsRow.laid w) (fun _ _ _ hh h=>h.of_heap hh) own started (by kernel_rfl) Tryz.func5
  (ChangeSpec.witness_shaped (enc:=enc) (C:=Tryz.checked) (os:=os) (X:=fun w _=>laidMetH Tryz.prog Rows.confExpectsRow.laid w) false (World.laidAll Tryz.prog os Rows.confExpectsRow.laid) #[.slice none 0 0,.int .i64 0] 8 (World.laidAll_os _ _ _)
   (World.shaped_of_ZipB (by kernel_rfl) (by kernel_rfl)) (by kernel_rfl) (by kernel_rfl) (by kernel_rfl)
   (by rw[MakeChecks.laidMetH_plain _ _ _ (by kernel_rfl)];exact laidMet_laidAll _ (by kernel_rfl) (by kernel_rfl))) ?_
 intro W base args ds gs before hval0 hW hcnd hsz hL hsh _;have hLz:Lz W:=ziy (by rw[MakeChecks.laidMetH_plain _ _ _ (by kernel_rfl)] at hL;exact hL) hsh;have hval:∀ (j:Nat) t v,Tryz.f5.params[j]? = some t→args[j]? = some v→Value.okWide Tryz.prog W .any base t v:=hval0;have hW':=hW;obtain⟨p,q,hA0,hV,rfl,hfz,hnd⟩:=hW;have hA:DataW.TrodAll enc Tryz.prog W 0 (fun _=>true) true Tryz.f5.params.toList args.toList ds p:=hA0;rw[Tryz.params5] at hA hval;obtain⟨v0,vs0,d0,ds0,p0,q0,hargs,rfl,rfl,h0,r0⟩:=trodAll_cons hA;obtain⟨v1,vs1,d1,ds1,p1,q1,rfl,rfl,rfl,h1,r1⟩:=trodAll_cons r0;obtain⟨rfl,rfl,rfl⟩:=trodAll_nil r1;obtain rfl:args=#[v0,v1]:=by cases args;simp_all
 obtain⟨rfl,rfl⟩:=trodVars_none hV;obtain⟨a0,len0,c0,rfl⟩:=okWide_slice Tryz.underlying22 (hval 0 22 v0 rfl rfl);have k0:=h0;have lt0:∀ x∈p0,x.block<W.heap.size:=by obtain⟨m,hm⟩:=k0;exact DataW.trod_lt m _ _ _ hm
 obtain⟨l0,rfl,hx0,hb0⟩:=zf1 h0 (fun n hn=>of_decide_eq_true (List.all_eq_true.1 hsz n (DataW.weights_mem_each (j:=0) (d:=d0) rfl rfl n hn)));obtain⟨n1,rfl,rfl,rfl,w1⟩:=open_int Tryz.underlying3 (hval 1 3 v1 rfl rfl) h1;have hn1:=zc6 w1;clear hA0 hval0;refine(walk a0 c0 l0 n1 W hx0 hb0 hn1 hLz).mono fun e W' ⟨he,bel⟩=>?_;subst he;exact⟨_,rfl,_,_,_,[],_,[],hW',trodAll_mk1 (shut_bool Tryz.underlying4 _),(trodAll_cons_mk (Below.trod zd3 (by kernel_rfl) (of_decide_eq_true (by kernel_rfl)) k0 bel lt0) (trodAll_cons_mk (shut_int Tryz.underlying3 w1) trodAll_mk0)),rfl,bel.frame _,fun h=>by cases h⟩
theorem proved:Rows.ConfExpectsSaid :=
 OpenClaim.holds_of_wide 5 Tryz.f5 rfl rfl rfl rfl rfl rfl rfl ⟨rfl,rfl,rfl,rfl,rfl⟩ rfl rfl rfl rfl rfl (by kernel_rfl) Tryz.func5 (by kernel_rfl)
  (of_decide_eq_true (by kernel_rfl)) (by unfold Func.isWrapper;first|(rw[if_pos (by decide +kernel)];kernel_rfl)|(rw[if_neg (by decide +kernel)];exact⟨rfl,rfl⟩))
  (fun os started H enc _=>zgo os started H enc)
theorem card:Rows.ConfExpectsCardSaid :=
 Claim7.holds_tied_plain_at .later [] [.data,.pinned] true (true,"89d1760e23aee8cb48403b92d66bdb27becc73d2bdf8439e6d812ff72b70fd86") true proved (fun _ h=>by cases h) (by kernel_rfl) (fun _ h=>by cases h) confExpects_row_tie rfl ⟨rfl,rfl⟩ (by kernel_rfl) rfl
  (fun f fn hf hfn=>by
   obtain rfl:f=5:=Option.some.inj ((show Tryz.prog.funcNamed "tollgate/tollgatelaw08.ConfExpects" = some 5 by kernel_rfl).symm.trans hf) |>.symm;obtain rfl:fn=Tryz.f5:=(Option.some.inj (Tryz.func5.symm.trans hfn)).symm
   exact⟨by kernel_rfl,fun j t ht=>by
    rw[Tryz.params5] at ht;have hm:t∈[22,3]:=by simpa using Array.mem_of_getElem? ht
    have hall:([22,3].all fun u=>!Tryz.prog.wantsStandIn u)=true:=by kernel_rfl
    exact(show Tryz.prog.wantsStandIn t=false by simpa using List.all_eq_true.1 hall t hm)⟩)
  (by kernel_rfl)
end Go.Proofs.YtjcjleaicjhpeaaGreatDoor.confExpects
namespace Go.Proofs.YtjcjleaicjhpeaaGreatDoor
theorem confExpects_holds:Rows.ConfExpectsCardSaid:=confExpects.card
#print axioms confExpects_holds
end Go.Proofs.YtjcjleaicjhpeaaGreatDoor
