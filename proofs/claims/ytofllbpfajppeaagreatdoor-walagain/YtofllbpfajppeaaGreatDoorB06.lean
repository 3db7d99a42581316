/- Disk: Write. -/
import Derived.Test.YtofllbpfajppeaaGreatDoorB05
import Derived.Deep.RegionHeld3
import Derived.Test.YtofllbpfajppeaaGreatDoorB01
import Derived.Test.YtofllbpfajppeaaGreatDoorRows
import Derived.ShutString
import Derived.ChangeOld
import Derived.SizedLaws
set_option linter.unusedVariables false
set_option maxRecDepth 20000
set_option maxHeartbeats 16000000
namespace Go.Proofs.YtofllbpfajppeaaGreatDoor
section
open Go.ChangeShapes Go.WideShapes Go.ChangeAt Go.RowKit Go.Maps
section
variable {base d M room N:Nat} {w w' w0:World} {fs fs':List Fe}
theorem zun (h:DiskAt base w d M room N fs) (s:ByteArray) (z:Int) (xp:Option Addr) (xn xc:Nat) (o:List Nat) (hnm:zec s=false) :
  Calls Tryz.prog 106 #[.pointer (some ⟨d,0,none⟩),.string s,.int .i64 z,.slice xp xn xc] w (zh9 base d M room (N+1) w fs (zai room s.data.toList z o (sps fs))):=by
 have hd:zai room s.data.toList z o (sps fs)=(14,sps fs):=by
  unfold zai;rw[← zge,if_pos hnm]
 rw[hd];have E1:=zaa (fun w' (hb:Below w.heap.size w w')=>zh9.below (w:=w) (r:=(14,sps fs)) (e:=.returned (.int .i64 14)) (h.mono (Nat.le_succ N)) rfl rfl hb);clear h hd;go_enter Tryz.func106,Tryz.ntmps106
 go_wp2_with (go_at_call 137;refine(zbe s _).mono ?_;rintro e W ⟨rfl,b1⟩;have E2:=zaa (za E1 W b1);clear b1)
 go_ret
 exact za E2
theorem zup (h:DiskAt base w d M room N fs) (hbs:base≤w.heap.size) (hN:N≤1000000) (s:ByteArray) (hs:s.size≤maxLen) (hnm:zec s=true) (F:Nat) (f:Fil) (hg:zcc s.data.toList fs=some (F,f)) (z:Int) (hz64:z≤9223372036854775807) (xp:Option Addr) (xn xc:Nat) (o:List Nat) (ho:o.length=xn) (hxc:xn≤xc) (hB:BytesAt w xp o) (hx0:xp=none→xc=0) (hne:∀ b off,xp=some ⟨b,off,none⟩→0<xn→¬ znr d M fs b) (hxl:xn≤140737488355328) :
  Calls Tryz.prog 106 #[.pointer (some ⟨d,0,none⟩),.string s,.int .i64 z,.slice xp xn xc] w (zh9 base d M room (N+1) w fs (zai room s.data.toList z o (sps fs))):=by
 have hm:=zcp hg;have hgs:zcc s.data.toList (sps fs)=some f.sp:=by rw[zgj,hg];rfl
 have hn:f.sp.now=f.b:=h.nows hm;have h8:f.b.length≤262144:=(h.ok _ hm).b8;have hd:zai room s.data.toList z o (sps fs)=if z<0∨z > f.b.length then (2,sps fs) else if (xn:Int) > 262144 - z then (6,sps fs) else if (usedS (sps fs):Int)+max (z+xn - f.b.length) 0 > room then (9,sps fs) else (0,zbi s.data.toList (wrote f.sp z.toNat o) (sps fs)):=by
  unfold zai;rw[← zge,hgs,hnm,if_neg (by simp)];simp only[Option.getD_some,Option.isNone_some,Bool.false_eq_true,false_and,false_or,hn,ho]
 rw[hd];have EB:=zaa (fun w' (hb:Below w.heap.size w w') (k:Nat)=>zh9.below (w:=w) (r:=(k,sps fs)) (e:=.returned (.int .i64 (k:Int))) (h.mono (Nat.le_succ N)) rfl rfl hb)
 have LK:=zaa (fun W (hb:Below w.heap.size w W)=>show W.cell? ⟨d,1,none⟩=some (.map (some M))∧(Instr.lookup 92 (.map (some M)) (.string s) true).run Tryz.prog W=.ok (.tuple #[.pointer (some ⟨F,0,none⟩),.bool true]) W∧W.cell? ⟨F,0,none⟩=some (.slice f.bp f.b.length f.bc) from
  ⟨(h.later hb).c1,((h.later hb).map.look_yes s hs F (List.mem_map.2 ⟨_,hm,rfl⟩)).1,((h.later hb).file _ hm).c0⟩)
 by_cases hA:z<0∨z > f.b.length
 ·rw[if_pos hA];clear h hbs hg hm hgs hn hB hne hd;generalize f.b.length=n at *;by_cases hz0:z<0
  ·clear hA;go_enter Tryz.func106,Tryz.ntmps106
   go_wp2_with (go_at_call 137;refine(zbe s _).mono ?_;rintro e W ⟨rfl,b1⟩;obtain⟨q1,q2,q3⟩:=za LK W b1;have E2:=zaa (za EB W b1 2);clear b1)
   go_ret
   exact za E2
  ·have hz1:(n:Int)<z:=by omega
   clear hA;go_enter Tryz.func106,Tryz.ntmps106
   go_wp2_with (go_at_call 137;refine(zbe s _).mono ?_;rintro e W ⟨rfl,b1⟩;obtain⟨q1,q2,q3⟩:=za LK W b1;have E2:=zaa (za EB W b1 2);clear b1)
   go_ret
   exact za E2
 ·rw[if_neg hA];obtain⟨k,rfl⟩:∃ k:Nat,z=(k:Int):=⟨z.toNat,by omega⟩
  have hk:k≤f.b.length:=by omega
  have hz0:¬ ((k:Int)<0):=by omega
  have hz1:¬ ((f.b.length:Int)<(k:Int)):=by omega
  have hw3:IntKind.i64.wrap (262144 - (k:Int))=262144 - (k:Int):=by rw[IntKind.wrap_i64];omega
  by_cases hC:(xn:Int) > 262144 - (k:Int)
  ·rw[if_pos hC];have hC2:(262144 - (k:Int))<(xn:Int):=hC;clear h hbs hg hm hgs hn hB hne hd hA hk hC;generalize f.b.length=n at *;go_enter Tryz.func106,Tryz.ntmps106
   go_wp2_with (go_at_call 137;refine(zbe s _).mono ?_;rintro e W ⟨rfl,b1⟩;obtain⟨q1,q2,q3⟩:=za LK W b1;have E2:=zaa (za EB W b1 6);clear b1)
   go_ret
   exact za E2
  ·rw[if_neg hC];have hC2:¬ ((262144 - (k:Int))<(xn:Int)):=hC;have hw1:IntKind.i64.wrap ((k:Int)+(xn:Int))=(k:Int)+(xn:Int):=by rw[IntKind.wrap_i64];omega
   have hw2:IntKind.i64.wrap ((k:Int)+(xn:Int) - (f.b.length:Int))=(k:Int)+(xn:Int) - (f.b.length:Int):=by rw[IntKind.wrap_i64];omega
   obtain⟨G,hG⟩:∃ G:Nat,max ((k:Int)+(xn:Int) - (f.b.length:Int)) 0=(G:Int):=⟨((k:Int)+(xn:Int) - (f.b.length:Int)).toNat,by omega⟩
   have hGl:G≤262144:=by omega
   rw[hG];have hul:usedS (sps fs)≤4194304:=by rw[h.usedS];exact h.used_le
   have UC:=zaa (fun W (hb:Below w.heap.size w W)=>zkk (h.later hb).drew);have RC:=zaa (fun W (hb:Below w.heap.size w W)=>(h.later hb).c0);have hw4:IntKind.i64.wrap ((usedS (sps fs):Int)+(G:Int))=(usedS (sps fs):Int)+(G:Int):=by rw[IntKind.wrap_i64];omega
   by_cases hD:(usedS (sps fs):Int)+(G:Int) > (room:Int)
   ·rw[if_pos hD];have hD2:(room:Int)<(usedS (sps fs):Int)+(G:Int):=hD;clear h hbs hg hm hgs hn hB hne hd hA hk hC hD;generalize f.b.length=n at *;generalize usedS (sps fs)=u at *;go_enter Tryz.func106,Tryz.ntmps106
    go_wp2_with (go_at_call 137;refine(zbe s _).mono ?_;rintro e W ⟨rfl,b1⟩;obtain⟨q1,q2,q3⟩:=za LK W b1;have r0:=za RC W b1;have B1:=zaa b1;clear b1)
    go_region_held3 (fun w'=>w'.cell? ⟨d,0,none⟩=some (.int .i64 (room:Int))) (first|go_keep|exact r0|exact r1) (first
     |(go_at_call 138
       refine(za UC W (za B1)).mono ?_;rintro e W2 ⟨rfl,b2⟩;have B2:=zaa (show Below w.heap.size w W2 from(za B1).trans (Below.mono ⟨b2.os,b2.tape,b2.output,b2.size,b2.block⟩ (za B1).size));have r1:=za RC W2 (za B2);have E2:=zaa (za EB W2 (za B2) 9)
       clear b2))
    all_goals
     go_wp2
     go_ret
     exact za E2
   ·rw[if_neg hD];have hD2:¬ ((room:Int)<(usedS (sps fs):Int)+(G:Int)):=hD
    have EC:=zaa (show ∀ W,Below w.heap.size w W→∃ P:Ending→World→Prop,Calls Tryz.prog 139 #[.pointer (some ⟨F,0,none⟩),.int .i64 (k:Int),.slice xp xn xc] W P∧∀ e W3,P e W3→e=.returned (.tuple #[])∧W3.cell? ⟨d,1,none⟩=some (.map (some M))∧∃ W4,(Instr.mapUpdate 92 (.map (some M)) (.string s) (.pointer (some ⟨F,0,none⟩))).run Tryz.prog W3=.ok () W4∧zh9 base d M room (N+1) w fs (0,zbi s.data.toList (wrote f.sp k o) (sps fs)) (.returned (.int .i64 0)) W4 from fun W bW=>by
     have h1:=h.later bW;have hb1:base≤W.heap.size:=Nat.le_trans hbs bW.size;have hfin:∀ W3 f',FileAt base W3 F f'→FGrew F W f W3 f'→FOk (N+1) f'→f'.sp=wrote f.sp k o→W3.cell? ⟨d,1,none⟩=some (.map (some M))∧∃ W4,(Instr.mapUpdate 92 (.map (some M)) (.string s) (.pointer (some ⟨F,0,none⟩))).run Tryz.prog W3=.ok () W4∧zh9 base d M room (N+1) w fs (0,zbi s.data.toList (wrote f.sp k o) (sps fs)) (.returned (.int .i64 0)) W4:=by
      intro W3 f' hf hgw hok hsp;obtain⟨k1,k2⟩:=h1.upd (w':=W3) hm hf hgw hok (Nat.le_succ N);obtain⟨W4,hu,hm4,hg4,_⟩:=k1.map.store (k1.rise.map (fun x:Nat×Fil=>x.1)) s hs F (by rw[ptrs,List.length_map];exact Nat.le_trans k1.few (by omega));obtain⟨k3,k4⟩:=k1.restore (w':=W4) (s.data.toList,F,f') ((zb3 h.rise _).2 (.inl rfl)) hg4 hm4;refine⟨k1.c1,W4,hu,rfl,_,k3,(DGrew.ofBelow bW).trans (k2.trans k4),?_⟩;rw[zlm,hsp]
     by_cases h0:xn=0
     ·subst h0;have ho0:o=[]:=List.eq_nil_of_length_eq_zero ho;refine⟨_,zno base W F f (h1.file _ hm) k hk xp xc hx0 (by omega) hb1,?_⟩;rintro e W3 ⟨rfl,bp,bc,hf,hgw⟩;refine⟨rfl,hfin W3 _ hf hgw (((h.ok _ hm).over0 k bp bc).mono (Nat.le_succ N)) ?_⟩;simp[wrote,ho0,Fil.over,Fil.sp]
     ·have hp:0<xn:=Nat.pos_of_ne_zero h0;refine⟨_,znp base W F f (h1.file _ hm) k hk xp xn xc o ho hp hxc (hB.later bW) hx0 (fun b off e hmu=>hne b off e hp (.inr (.inr ⟨_,hm,hmu⟩))) (by omega) (by have:=(h.ok _ hm).few;simp only at this;omega) hb1,?_⟩;rintro e W3 ⟨rfl,bp,bc,cp,cc,dp,hf,hgw⟩;refine⟨rfl,hfin W3 _ hf hgw ((h.ok _ hm).write k hk o (by omega) (by omega) bp bc cp cc (dp,xn)) ?_⟩;simp only[wrote];rw[if_neg (by omega)]
      simp[Fil.sp,Fil.more,Fil.over])
    rw[Int.toNat_natCast];clear h hbs hg hm hgs hn hB hne hd hA hk hC hD;generalize f.b.length=n at *;generalize usedS (sps fs)=u at *;go_enter Tryz.func106,Tryz.ntmps106
    go_wp2_with (go_at_call 137;refine(zbe s _).mono ?_;rintro e W ⟨rfl,b1⟩;obtain⟨q1,q2,q3⟩:=za LK W b1;have r0:=za RC W b1;have B1:=zaa b1;clear b1)
    go_region_held3 (fun w'=>w'.cell? ⟨d,0,none⟩=some (.int .i64 (room:Int))) (first|go_keep|exact r0|exact r1) (first
     |(go_at_call 138
       refine(za UC W (za B1)).mono ?_;rintro e W2 ⟨rfl,b2⟩;have B2:=zaa (show Below w.heap.size w W2 from(za B1).trans (Below.mono ⟨b2.os,b2.tape,b2.output,b2.size,b2.block⟩ (za B1).size));have r1:=za RC W2 (za B2)
       clear b2))
    all_goals
     obtain⟨P,hP,hP2⟩:=za EC _ (za B2);have P1:=zaa hP;have P2:=zaa hP2;clear hP hP2
     go_wp2_with (go_at_call 139;refine(za P1).mono ?_;intro e W3 hp3;obtain⟨rfl,v1,W4,v2,v3⟩:=za P2 e W3 hp3;have V3:=zaa v3;clear v3 hp3)
     go_ret
     exact za V3
theorem zuo (h:DiskAt base w d M room N fs) (hbs:base≤w.heap.size) (s:ByteArray) (hs:s.size≤maxLen) (hnm:zec s=true) (hg:zcc s.data.toList fs=none) (z:Int) (hz64:z≤9223372036854775807) (xp:Option Addr) (xn xc:Nat) (o:List Nat) (ho:o.length=xn) (hxc:xn≤xc) (hB:BytesAt w xp o) (hx0:xp=none→xc=0) (hxl:xn≤140737488355328) :
  Calls Tryz.prog 106 #[.pointer (some ⟨d,0,none⟩),.string s,.int .i64 z,.slice xp xn xc] w (zh9 base d M room (N+1) w fs (zai room s.data.toList z o (sps fs))):=by
 have hgs:zcc s.data.toList (sps fs)=none:=by rw[zgj,hg];rfl
 have hsl:(sps fs).length=fs.length:=by simp[sps]
 have hd:zai room s.data.toList z o (sps fs)=if z<0∨z > 0 then (2,sps fs) else if 16≤fs.length∨(xn:Int) > 262144 - z then (6,sps fs) else if (usedS (sps fs):Int)+max (z+xn - 0) 0 > room then (9,sps fs) else (0,zbi s.data.toList (wrote sp0 z.toNat o) (sps fs)):=by
  unfold zai;rw[← zge,hgs,hnm,if_neg (by simp)];simp only[Option.getD_none,Option.isNone_none,true_and,hsl,ho];rfl
 rw[hd];have EB:=zaa (fun w' (hb:Below w.heap.size w w') (k:Nat)=>zh9.below (w:=w) (r:=(k,sps fs)) (e:=.returned (.int .i64 (k:Int))) (h.mono (Nat.le_succ N)) rfl rfl hb);have AB:=zaa (show ∀ W,Below w.heap.size w W→Below w.heap.size w (W.alloc (.cells #[.slice none 0 0,.slice none 0 0,.bool false,.slice none 0 0] 122)) from fun W hb=>hb.alloc hb.size _)
 have LK:=zaa (fun W (hb:Below w.heap.size w W)=>show W.cell? ⟨d,1,none⟩=some (.map (some M))∧(Instr.lookup 92 (.map (some M)) (.string s) true).run Tryz.prog W=.ok (.tuple #[.pointer none,.bool false]) W∧(W.alloc (.cells #[.slice none 0 0,.slice none 0 0,.bool false,.slice none 0 0] 122)).cell? ⟨d,1,none⟩=some (.map (some M))∧(W.alloc (.cells #[.slice none 0 0,.slice none 0 0,.bool false,.slice none 0 0] 122)).cell? ⟨d,0,none⟩=some (.int .i64 (room:Int))∧(∀ ty,(Builtin.len_ #[92] ty #[.map (some M)]).run Tryz.prog (W.alloc (.cells #[.slice none 0 0,.slice none 0 0,.bool false,.slice none 0 0] 122))=.ok (.int .i64 (fs.length:Int)) (W.alloc (.cells #[.slice none 0 0,.slice none 0 0,.bool false,.slice none 0 0] 122))) from
  ⟨(h.later hb).c1,(h.later hb).map.look_no s hs (by rw[ptrs,List.map_map];exact zb8.1 hg),(h.later (za AB W hb)).c1,(h.later (za AB W hb)).c0,fun ty=>by
   have:=(h.later (za AB W hb)).map.len ty;rw[ptrs,List.length_map] at this
   exact this⟩)
 have hf16:=h.few;by_cases hA:z<0∨z > 0
 ·rw[if_pos hA];clear h hbs hg hgs hB hd hsl;by_cases hz0:z<0
  ·clear hA;go_enter Tryz.func106,Tryz.ntmps106
   go_wp2_with (go_at_call 137;refine(zbe s _).mono ?_;rintro e W ⟨rfl,b1⟩;obtain⟨q1,q2,q3,q4,q5⟩:=za LK W b1;have E2:=zaa (za EB _ (za AB W b1) 2);clear b1)
   go_ret
   exact za E2
  ·have hz1:0<z:=by omega
   clear hA;go_enter Tryz.func106,Tryz.ntmps106
   go_wp2_with (go_at_call 137;refine(zbe s _).mono ?_;rintro e W ⟨rfl,b1⟩;obtain⟨q1,q2,q3,q4,q5⟩:=za LK W b1;have E2:=zaa (za EB _ (za AB W b1) 2);clear b1)
   go_ret
   exact za E2
 ·rw[if_neg hA];obtain rfl:z=0:=by omega
  by_cases hC:16≤fs.length∨(xn:Int) > 262144 - 0
  ·rw[if_pos hC];by_cases hC1:16≤fs.length
   ·have hC2:(16:Int)≤(fs.length:Int):=by omega
    clear h hbs hg hgs hB hd hA hC hsl hC1;go_enter Tryz.func106,Tryz.ntmps106
    go_wp2_with (go_at_call 137;refine(zbe s _).mono ?_;rintro e W ⟨rfl,b1⟩;obtain⟨q1,q2,q3,q4,q5⟩:=za LK W b1;have E2:=zaa (za EB _ (za AB W b1) 6);clear b1)
    go_ret
    exact za E2
   ·have hC2:¬ (16:Int)≤(fs.length:Int):=by omega
    have hC3:(262144:Int)<(xn:Int):=by omega
    clear h hbs hg hgs hB hd hA hC hsl hC1;go_enter Tryz.func106,Tryz.ntmps106
    go_wp2_with (go_at_call 137;refine(zbe s _).mono ?_;rintro e W ⟨rfl,b1⟩;obtain⟨q1,q2,q3,q4,q5⟩:=za LK W b1;have E2:=zaa (za EB _ (za AB W b1) 6);clear b1)
    go_ret
    exact za E2
  ·rw[if_neg hC];have hC2:¬ (16:Int)≤(fs.length:Int):=by omega
   have hC3:¬ (262144:Int)<(xn:Int):=by omega
   have hw1:IntKind.i64.wrap (xn:Int)=(xn:Int):=by rw[IntKind.wrap_i64];omega
   have hG:max (xn:Int) 0=(xn:Int):=by omega
   rw[show max ((0:Int)+(xn:Int) - 0) 0=(xn:Int) by omega];have hul:usedS (sps fs)≤4194304:=by rw[h.usedS];exact h.used_le
   have UC:=zaa (fun W (hb:Below w.heap.size w W)=>zkk (h.later hb).drew);have RC:=zaa (fun W (hb:Below w.heap.size w W)=>(h.later hb).c0);have hw4:IntKind.i64.wrap ((usedS (sps fs):Int)+(xn:Int))=(usedS (sps fs):Int)+(xn:Int):=by rw[IntKind.wrap_i64];omega
   by_cases hD:(usedS (sps fs):Int)+(xn:Int) > (room:Int)
   ·rw[if_pos hD];have hD2:(room:Int)<(usedS (sps fs):Int)+(xn:Int):=hD;clear h hbs hg hgs hB hd hA hC hD hsl;generalize usedS (sps fs)=u at *;go_enter Tryz.func106,Tryz.ntmps106
    go_wp2_with (go_at_call 137;refine(zbe s _).mono ?_;rintro e W ⟨rfl,b1⟩;obtain⟨q1,q2,q3,q4,q5⟩:=za LK W b1;have B1:=zaa (za AB W b1);clear b1)
    generalize W.alloc (.cells #[.slice none 0 0,.slice none 0 0,.bool false,.slice none 0 0] 122)=WA at *
    go_region_held3 (fun w'=>w'.cell? ⟨d,0,none⟩=some (.int .i64 (room:Int))) (first|go_keep|exact q4|exact r1) (first
     |(go_at_call 138
       refine(za UC WA (za B1)).mono ?_;rintro e W2 ⟨rfl,b2⟩;have B2:=zaa (show Below w.heap.size w W2 from(za B1).trans (Below.mono ⟨b2.os,b2.tape,b2.output,b2.size,b2.block⟩ (za B1).size));have r1:=za RC W2 (za B2);have E2:=zaa (za EB W2 (za B2) 9)
       clear b2))
    all_goals
     go_wp2
     go_ret
     exact za E2
   ·rw[if_neg hD];have hD2:¬ ((room:Int)<(usedS (sps fs):Int)+(xn:Int)):=hD
    have EC:=zaa (show ∀ W,Below w.heap.size w W→∀ W2,Below (W.alloc (.cells #[.slice none 0 0,.slice none 0 0,.bool false,.slice none 0 0] 122)).heap.size (W.alloc (.cells #[.slice none 0 0,.slice none 0 0,.bool false,.slice none 0 0] 122)) W2→∃ P:Ending→World→Prop,Calls Tryz.prog 139 #[.pointer (some ⟨W.heap.size,0,none⟩),.int .i64 0,.slice xp xn xc] W2 P∧∀ e W3,P e W3→e=.returned (.tuple #[])∧W3.cell? ⟨d,1,none⟩=some (.map (some M))∧∃ W4,(Instr.mapUpdate 92 (.map (some M)) (.string s) (.pointer (some ⟨W.heap.size,0,none⟩))).run Tryz.prog W3=.ok () W4∧zh9 base d M room (N+1) w fs (0,zbi s.data.toList (wrote sp0 0 o) (sps fs)) (.returned (.int .i64 0)) W4 from fun W bW W2 bW2=>by
     have hfz:=(FileAt.zero (base:=base) W (Nat.le_trans hbs bW.size)).later bW2;have bA:=za AB W bW;have b2:Below w.heap.size w W2:=bA.trans (bW2.mono bA.size);have hb1:base≤W2.heap.size:=Nat.le_trans hbs b2.size;have hFl:w.heap.size≤W.heap.size:=bW.size;have hfin:∀ W3 f',FileAt base W3 W.heap.size f'→FGrew W.heap.size W2 zo6 W3 f'→FOk (N+1) f'→f'.sp=wrote sp0 0 o→W3.cell? ⟨d,1,none⟩=some (.map (some M))∧∃ W4,(Instr.mapUpdate 92 (.map (some M)) (.string s) (.pointer (some ⟨W.heap.size,0,none⟩))).run Tryz.prog W3=.ok () W4∧zh9 base d M room (N+1) w fs (0,zbi s.data.toList (wrote sp0 0 o) (sps fs)) (.returned (.int .i64 0)) W4:=by
      intro W3 f' hf hgw hok hsp;have hs3:∀ g,g<w.heap.size→W3.heap[g]? = w.heap[g]?:=fun g hlt=>(hgw.block g (Nat.lt_of_lt_of_le hlt b2.size) (fun hm=>by rw[zn3] at hm;omega)).trans (b2.block g hlt);have h3:=(h.mono (Nat.le_succ N)).still hs3;have b3:Below w.heap.size w W3:=⟨hgw.os.trans b2.os,hgw.tape.trans b2.tape,hgw.output.trans b2.output,Nat.le_trans b2.size hgw.size,hs3⟩
      obtain⟨W4,hu,hm4,hg4,_⟩:=h3.map.store (h3.rise.map (fun x:Nat×Fil=>x.1)) s hs W.heap.size (by rw[ptrs,List.length_map];omega)
      obtain⟨k3,k4⟩:=h3.add (w0:=w) (w':=W4) s.data.toList (by
       have:=hnm;simp only[zec,Bool.and_eq_true,decide_eq_true_eq] at this
       rw[Array.length_toList];exact this.2.1) hg W.heap.size f' hf hok (by omega) (fun g hgm=>by
       rcases hgw.muts g hgm with h1|h1
       ·rw[zn3] at h1;omega
       ·have:=b2.size;omega) (fun g hgm=>by
       rcases hgw.reds g hgm with h1|h1
       ·exact absurd h1 (zy7 g)
       ·have:=b2.size;omega) (fun g hgm=>hgm.elim (fun hh=>(h.mut_lt hh).2) (fun hh=>(h.red_lt hh).2)) b3 hg4 hm4
      refine⟨h3.c1,W4,hu,rfl,_,k3,k4,?_⟩;rw[zlm,hsp]
     by_cases h0:xn=0
     ·subst h0;have ho0:o=[]:=List.eq_nil_of_length_eq_zero ho;refine⟨_,zno base W2 W.heap.size zo6 hfz 0 (by simp) xp xc hx0 (by simp[zo6]) hb1,?_⟩;rintro e W3 ⟨rfl,bp,bc,hf,hgw⟩;refine⟨rfl,hfin W3 _ hf hgw ((FOk.zero (N+1)).over0 0 bp bc) ?_⟩;simp[wrote,ho0,Fil.over,Fil.sp,zo6,sp0]
     ·have hp:0<xn:=Nat.pos_of_ne_zero h0
      refine⟨_,znp base W2 W.heap.size zo6 hfz 0 (by simp) xp xn xc o ho hp hxc (hB.later b2) hx0 (fun b off e hmu=>by
       rw[zn3] at hmu;obtain⟨b',off',e1,e2⟩:=hB.cell 0 (by omega);rw[e1] at e;have hbb:b'=b:=by simpa using congrArg (fun x=>x.map Addr.block) e
       have:=World.block_lt_of_cell? _ _ e2;simp only at this
       omega) (by simp[zo6];omega) (by simp[zo6]) hb1,?_⟩
      rintro e W3 ⟨rfl,bp,bc,cp,cc,dp,hf,hgw⟩;refine⟨rfl,hfin W3 _ hf hgw ((FOk.zero N).write 0 (by simp) o (by omega) (by omega) bp bc cp cc (dp,xn)) ?_⟩;simp only[wrote];rw[if_neg (by omega)]
      simp[Fil.sp,Fil.more,Fil.over,zo6,sp0])
    clear h hbs hg hgs hB hd hA hC hD hsl;generalize usedS (sps fs)=u at *;go_enter Tryz.func106,Tryz.ntmps106
    go_wp2_with (go_at_call 137;refine(zbe s _).mono ?_;rintro e W ⟨rfl,b1⟩;obtain⟨q1,q2,q3,q4,q5⟩:=za LK W b1;have B1:=zaa (za AB W b1);have E3:=zaa (za EC W b1);clear b1)
    generalize W.alloc (.cells #[.slice none 0 0,.slice none 0 0,.bool false,.slice none 0 0] 122)=WA at *;generalize W.heap.size=F at *
    go_region_held3 (fun w'=>w'.cell? ⟨d,0,none⟩=some (.int .i64 (room:Int))) (first|go_keep|exact q4|exact r1) (first
     |(go_at_call 138
       refine(za UC WA (za B1)).mono ?_;rintro e W2 ⟨rfl,b2⟩;have B3:=zaa (show Below WA.heap.size WA W2 from⟨b2.os,b2.tape,b2.output,b2.size,b2.block⟩);have r1:=za RC W2 ((za B1).trans ((za B3).mono (za B1).size))
       clear b2))
    all_goals
     obtain⟨P,hP,hP2⟩:=za E3 _ (za B3);have P1:=zaa hP;have P2:=zaa hP2;clear hP hP2
     go_wp2_with (go_at_call 139;refine(za P1).mono ?_;intro e W3 hp3;obtain⟨rfl,v1,W4,v2,v3⟩:=za P2 e W3 hp3;have V3:=zaa v3;clear v3 hp3)
     go_ret
     exact za V3
theorem zpo (h:DiskAt base w d M room N fs) (hbs:base≤w.heap.size) (hN:N≤1000000) (s:ByteArray) (hs:s.size≤maxLen) (z:Int) (hz64:z≤9223372036854775807) (xp:Option Addr) (xn xc:Nat) (o:List Nat) (ho:o.length=xn) (hxc:xn≤xc) (hB:BytesAt w xp o) (hx0:xp=none→xc=0) (hne:∀ b off,xp=some ⟨b,off,none⟩→0<xn→¬ znr d M fs b) (hxl:xn≤140737488355328) :
  Calls Tryz.prog 106 #[.pointer (some ⟨d,0,none⟩),.string s,.int .i64 z,.slice xp xn xc] w (zh9 base d M room (N+1) w fs (zai room s.data.toList z o (sps fs))):=by
 cases hnm:zec s with
 |false=>exact zun h s z xp xn xc o hnm
 |true =>
  cases hg:zcc s.data.toList fs with
  |none=>exact zuo h hbs s hs hnm hg z hz64 xp xn xc o ho hxc hB hx0 hxl
  |some x=>exact zup h hbs hN s hs hnm x.1 x.2 hg z hz64 xp xn xc o ho hxc hB hx0 hne hxl
end
end
section
open Go.ChangeShapes Go.WideShapes Go.ChangeAt Go.RowKit
def IsRow (k:IntKind) (w:World) (a:Option Addr) (len cap:Nat) (zs:List Int):Prop :=
 (a=none∧len=0∧cap=0∧zs=[]) ∨
 ∃ x,a=some x∧len≤cap∧cap≤maxLen∧zs.length=cap∧(∀ i,i<zs.length→w.cell? (x.add i)=some (.int k (zs.getD i 0)))∧∀ n∈zs,(Lit.int k n).wf=true
theorem zks {w:World} {a:Option Addr} {len cap:Nat} {zs:List Int} (h:IsRow .u8 w a len cap zs):∃ l:List Nat,l.length=len∧len≤cap∧cap≤maxLen∧cap=zs.length∧BytesAt w a l:=by
 rcases h with⟨rfl,rfl,rfl,rfl⟩|⟨x,rfl,hl,hm,hz,hcell,hwz⟩
 ·exact⟨[],rfl,Nat.le_refl _,by simp[maxLen],rfl,⟨by simp,by simp⟩⟩
 ·have hbd:∀ n∈zs,0≤n∧n≤255:=fun n hn=>bounds_u8 (hwz n hn);refine⟨(zs.take len).map Int.toNat,by simp;omega,hl,hm,hz.symm,⟨?_,?_⟩⟩
  ·intro c hc;obtain⟨n,hn,rfl⟩:=List.mem_map.1 hc;have:=hbd n (List.mem_of_mem_take hn);omega
  ·intro i hi;simp only[List.length_map,List.length_take] at hi;have hiz:i<zs.length:=by omega
   have hc:=hcell i hiz;obtain⟨b,off,spot⟩:=x;have hspot:spot=none:=by simpa [Addr.add] using World.cell?_spot (hcell 0 (by omega))
   subst hspot;refine⟨b,off,rfl,?_⟩;rw[Addr.add_lit] at hc;rw[hc];have e1:zs.getD i 0=zs[i]:=by rw[List.getD_eq_getElem?_getD,List.getElem?_eq_getElem hiz];rfl
   have e2:((zs.take len).map Int.toNat).getD i 0=(zs[i]).toNat:=by
    rw[List.getD_eq_getElem?_getD,List.getElem?_map,List.getElem?_take,if_pos (by omega),List.getElem?_eq_getElem hiz];rfl
   have:=hbd zs[i] (List.getElem_mem hiz);rw[e1,e2,Int.toNat_of_nonneg this.1]
theorem row8 {H:Type} {enc:TypeId×Value→H} {W:World} {a:Option Addr} {len cap:Nat} {d:DataW H} {p:List MemPlace}
  (h:DataW.Trod enc Tryz.prog W 0 (fun _=>true) true 62 (.slice a len cap) d p) :
  ∃ l:List Nat,l.length=len∧len≤cap∧cap≤maxLen∧BytesAt W a l∧(a=none→cap=0)∧((d=.nil∧cap=0)∨∃ es sp,d=.slice es sp∧es.length+sp.length=cap):=by
 obtain⟨fuel,hf⟩:=h;rcases open_ints Tryz.underlying62 Tryz.underlying5 (by kernel_rfl) hf with⟨hcs,hx⟩|⟨x,l,c,zs,hcs,_,hl,hm,hz,hx,hcell,hwz⟩
 ·simp[Value.cells] at hcs;obtain⟨rfl,rfl,rfl⟩:=hcs;obtain⟨k,h1,h2,h3,h4,h5⟩:=zks (w:=W) (a:=none) (len:=0) (cap:=0) (zs:=[]) (.inl ⟨rfl,rfl,rfl,rfl⟩);exact⟨k,h1,h2,h3,h5,(fun _=>rfl),.inl ⟨(Prod.mk.inj hx).1,rfl⟩⟩
 ·simp[Value.cells] at hcs;obtain⟨rfl,rfl,rfl⟩:=hcs;have hz':zs.length=cap:=by simpa using hz
  obtain⟨k,h1,h2,h3,h4,h5⟩:=zks (w:=W) (a:=some x) (len:=len) (cap:=cap) (zs:=zs) (.inr ⟨_,rfl,hl,hm,hz',hcell,hwz⟩);exact⟨k,h1,h2,h3,h5,(fun h=>by cases h),.inr ⟨_,_,(Prod.mk.inj hx).1,by simp[lits];omega⟩⟩
theorem zdg {n:Int} (h:(Lit.int .i64 n).wf=true):-9223372036854775808≤n∧n≤9223372036854775807:=bounds_i64 h
structure IntsAt (w:World) (a:Option Addr) (l:List Int):Prop where
 bd:∀ n∈l,-9223372036854775808≤n∧n≤9223372036854775807
 cell:∀ i (hi:i<l.length),∃ b off,a=some ⟨b,off,none⟩∧w.cell? ⟨b,off+i,none⟩=some (.int .i64 l[i])
theorem IntsAt.later {w w':World} {a:Option Addr} {l:List Int} (h:IntsAt w a l) (hb:Below w.heap.size w w'):IntsAt w' a l :=
 ⟨h.bd,fun i hi=>by obtain⟨b,off,e,hc⟩:=h.cell i hi;exact⟨b,off,e,cell_later hb hc⟩⟩
theorem zBy {H:Type} {enc:TypeId×Value→H} {W:World} {a:Option Addr} {len cap:Nat} {d:DataW H} {p:List MemPlace}
  (h:DataW.Trod enc Tryz.prog W 0 (fun _=>true) true 32 (.slice a len cap) d p) :
  ∃ l:List Int,l.length=len∧len≤maxLen∧IntsAt W a l:=by
 obtain⟨fuel,hf⟩:=h;rcases open_ints Tryz.underlying32 Tryz.underlying3 (by kernel_rfl) hf with⟨hcs,hx⟩|⟨x,l,c,zs,hcs,_,hl,hm,hz,hx,hcell,hwz⟩
 ·simp[Value.cells] at hcs;obtain⟨rfl,rfl,rfl⟩:=hcs;exact⟨[],rfl,by simp[maxLen],⟨by simp,by simp⟩⟩
 ·simp[Value.cells] at hcs;obtain⟨rfl,rfl,rfl⟩:=hcs;have hz':zs.length=cap:=by simpa using hz
  refine⟨zs.take len,by rw[List.length_take];omega,by omega,⟨fun n hn=>bounds_i64 (hwz n (List.mem_of_mem_take hn)),fun i hi=>?_⟩⟩;rw[List.length_take] at hi;have hiz:i<zs.length:=by omega
  have hc:=hcell i hiz;obtain⟨b,off,spot⟩:=x;have hspot:spot=none:=by simpa [Addr.add] using World.cell?_spot (hcell 0 (by omega))
  subst hspot;refine⟨b,off,rfl,?_⟩;rw[Addr.add_lit] at hc;rw[hc,List.getElem_take,List.getD_eq_getElem?_getD,List.getElem?_eq_getElem hiz];rfl
end
section
open Go.ChangeShapes Go.WideShapes Go.ChangeAt Go.RowKit Go.Maps
def zbw (ks:List Int) (i:Nat):Nat:=(ks.getD i 0).toNat
def zcf (U:Nat) (x:Nm×Sp):Ds:=if x.2.la=false∧(za3 x.2.cs x.2.y U).2=U then [] else [(x.1,⟨true,(za3 x.2.cs x.2.y U).1,[]⟩)]
def za5 (ks:List Int):Nat→Ds→Ds
 |_,[]=>[]
 |i,x::r=>zcf (zbw ks i) x++za5 ks (i+1) r
theorem ztq {α:Type} {k:Nm} {u v:α} : ∀ (p r:List (Nm×α)),zbf (p++(k,u)::r)→zbi k v (p++(k,u)::r)=p++(k,v)::r
 |[],r,_=>by simp[zbi,zbd]
 |x::p,r,h=>by
  have h1:=List.pairwise_cons.1 (show(x::(p++(k,u)::r)).Pairwise _ from h);have h2:x.1<k:=h1.1 (k,u) (by simp);show zbi k v (x::(p++(k,u)::r))=_
  unfold zbi;rw[if_pos h2,ztq p r h1.2];rfl
theorem zy0 {α:Type} {k:Nm} {u:α} (p r:List (Nm×α)) (h:zbf (p++(k,u)::r)):zdm k (p++(k,u)::r)=p++r:=by
 have hn:=h.nodup;rw[List.map_append,List.map_cons] at hn;have hp:∀ x∈p,x.1≠k:=fun x hx e=>by
  rw[List.nodup_append] at hn;exact hn.2.2 x.1 (List.mem_map.2 ⟨x,hx,rfl⟩) k (by simp) e
 have hr:∀ x∈r,x.1≠k:=fun x hx e=>by
  rw[List.nodup_append] at hn;have:=(List.nodup_cons.1 hn.2.1).1;exact this (List.mem_map.2 ⟨x,hx,e⟩)
 unfold zdm;rw[List.filter_append,List.filter_cons,if_neg (by simp)];rw[List.filter_eq_self.2 (fun x hx=>by simpa using hp x hx),List.filter_eq_self.2 (fun x hx=>by simpa using hr x hx)]
section
variable {base d M room N:Nat} {w w' w2:World} {fs fs':List Fe}
theorem DiskAt.other (h:DiskAt base w d M room N fs) {g:Nat} {cs:Array Value} {T:TypeId} (hg:w.heap[g]? = some (.cells cs T (0,0))) (h1:T≠122) (h2:T≠5) (h3:T≠131) (h4:T≠94):¬ znr d M fs g∧¬ zua fs g:=by
 constructor
 ·rintro(rfl|rfl|⟨x,hx,hm⟩)
  ·rw[h.box] at hg;simp only[Option.some.injEq,Obj.cells.injEq] at hg;exact h4 hg.2.1.symm
  ·obtain⟨es,k,hm⟩:=h.map.isMap;rw[hm] at hg;simp at hg
  ·obtain⟨cur,T',hc,hT⟩:=(h.file x hx).mut_is hm;rw[hc] at hg;simp only[Option.some.injEq,Obj.cells.injEq] at hg;rw[hg.2.1] at hT;rcases hT with e|e|e
   ·exact h1 e
   ·exact h2 e
   ·exact h3 e
 ·rintro⟨x,hx,hm⟩;obtain⟨_,_,cur,hc⟩:=(h.file x hx).red_lt hm;rw[hc] at hg;simp only[Option.some.injEq,Obj.cells.injEq] at hg;exact h2 hg.2.1.symm
theorem DiskAt.lose (h:DiskAt base w d M room N fs) {x:Fe} (hx:x∈fs) {f':Fil} (hg:FGrew x.2.1 w x.2.2 w' f') (hgr:w'.grownBy w2 (some M)) (hm:MapAt w2 M (zdm x.1 (ptrs fs))) :
  DiskAt base w2 d M room N (zdm x.1 fs)∧DGrew d M w fs w2 (zdm x.1 fs):=by
 have hk:∀ g,g<w.heap.size→¬ x.mut g→g≠M→w2.heap[g]? = w.heap[g]?:=fun g hlt h1 h2=>(hgr.block g (Nat.lt_of_lt_of_le hlt hg.size) (fun e=>h2 (Option.some.inj e))).trans (hg.block g hlt h1);have hmem:=fun (y:Fe)=>zbq (k:=x.1) (fs:=fs) y
 refine⟨⟨(hk d h.ltD (h.notD hx).1 h.dm).trans h.box,by rw[zob];exact hm,h.rise.del _,?_,fun y hy=>h.ok y ((hmem y).1 hy).1,h.lowD,h.lowM,fun y hy z hz=>h.ap y ((hmem y).1 hy).1 z ((hmem z).1 hz).1,fun y hy z hz=>h.rd y ((hmem y).1 hy).1 z ((hmem z).1 hz).1,Nat.le_trans (List.length_filter_le _ _) h.few,fun y hy=>h.names y ((hmem y).1 hy).1⟩,
  ⟨hgr.os.trans hg.os,hgr.tape.trans hg.tape,hgr.output.trans hg.output,Nat.le_trans hg.size hgr.size,fun i hi hn=>hk i hi (fun e=>hn (.inr (.inr ⟨x,hx,e⟩))) (fun e=>hn (.inr (.inl e))),?_,?_⟩⟩
 ·intro y hy;obtain⟨hy,hne⟩:=(hmem y).1 hy;refine(h.file y hy).same (fun g hgy=>?_);rcases hgy with hgy|hgy
  ·exact hk g ((h.file y hy).mut_lt hgy).2 (fun e=>h.ap y hy x hx hne g hgy e) (fun e=>(h.notM hy).1 (e ▸ hgy))
  ·exact hk g ((h.file y hy).red_lt hgy).2.1 (fun e=>h.rd x hx y hy g e hgy) (fun e=>(h.notM hy).2 (e ▸ hgy))
 ·rintro g (e|e|⟨y,hy,hm⟩)
  ·exact .inl (.inl e)
  ·exact .inl (.inr (.inl e))
  ·exact .inl (.inr (.inr ⟨y,((hmem y).1 hy).1,hm⟩))
 ·rintro g ⟨y,hy,hm⟩;exact .inl ⟨y,((hmem y).1 hy).1,hm⟩
theorem zru (c:Array Value) (w:World):(callFunc 55 c).run Tryz.prog w=.ok (.enter 55 c) w:=by
 simp[callFunc,go_sem,Tryz.func55];rw[if_neg (by decide +kernel),if_neg (fun h=>by cases h)]
structure Visited (base d M room N:Nat) (w:World) (p r:List Fe) (x:Fe) (P i U:Nat) (w':World):Prop where
 cnt:w'.heap[P]? = some (.cells #[.int .i64 ((i+1:Nat):Int)] 3 (0,0))
 same:∀ g,g<w.heap.size→¬ znr d M (p++x::r) g→g≠P→w'.heap[g]? = w.heap[g]?
 os:w'.os=w.os
 tape:w'.tape=w.tape
 output:w'.output=w.output
 size:w.heap.size≤w'.heap.size
 left:∃ p',DiskAt base w' d M room N (p'++r)∧(∀ g,znr d M (p'++r) g→znr d M (p++x::r) g∨w.heap.size≤g)∧(∀ g,zua (p'++r) g→zua (p++x::r) g∨w.heap.size≤g)∧sps p'=sps p++zcf U (x.1,x.2.2.sp)
theorem zpi (p r:List Fe) (x:Fe) (h:DiskAt base w d M room N (p++x::r)) (hbs:base≤w.heap.size) (hN:N≤1000000) (P K Q i:Nat) (hi:i≤1000) (hP:w.heap[P]? = some (.cells #[.int .i64 (i:Int)] 3 (0,0)))
  (kp:Option Addr) (kn kc:Nat) (hK:w.heap[K]? = some (.cells #[.slice kp kn kc] 32 (0,0))) (hQ:w.heap[Q]? = some (.cells #[.pointer (some ⟨d,0,none⟩)] 38 (0,0))) (ks:List Int) (hks:ks.length=kn) (hI:IntsAt w kp ks) :
  Calls Tryz.prog 55 #[.string (str x.1),.pointer (some ⟨x.2.1,0,none⟩),.pointer (some ⟨P,0,none⟩),.pointer (some ⟨K,0,none⟩),.pointer (some ⟨Q,0,none⟩)] w fun e w'=>e=.returned (.tuple #[])∧Visited base d M room N w p r x P i (zbw ks i) w':=by
 have hx:x∈p++x::r:=by simp
 have hoP:=h.other hP (by decide) (by decide) (by decide) (by decide);have hoQ:=h.other hQ (by decide) (by decide) (by decide) (by decide);have hPQ:P≠Q:=fun e=>by rw[e,hQ] at hP;simp at hP
 have h1:DiskAt base (w.setCell ⟨P,0,none⟩ (.int .i64 ((i+1:Nat):Int))) d M room N (p++x::r):=h.same (fun g hlt hg=>heap_setCell_other _ ⟨P,0,none⟩ g _ (fun e=>by
  have e2:g=P:=e;rw[e2] at hg
  exact hg.elim hoP.1 hoP.2))
 have hs1:(w.setCell ⟨P,0,none⟩ (.int .i64 ((i+1:Nat):Int))).heap.size=w.heap.size:=by simp[World.setCell]
 have hP1:=heap_setCell_same w P 0 #[.int .i64 (i:Int)] 3 (.int .i64 ((i+1:Nat):Int)) hP;have hQ1:(w.setCell ⟨P,0,none⟩ (.int .i64 ((i+1:Nat):Int))).heap[Q]? = some (.cells #[.pointer (some ⟨d,0,none⟩)] 38 (0,0)):=(heap_setCell_other _ ⟨P,0,none⟩ Q _ (fun e=>hPQ e.symm)).trans hQ;have hUle:zbw ks i≤9223372036854775807:=by
  unfold zbw;by_cases hik:i<ks.length
  ·rw[List.getD_eq_getElem?_getD,List.getElem?_eq_getElem hik];have:=hI.bd _ (List.getElem_mem hik);simp only[Option.getD_some];omega
  ·rw[List.getD_eq_getElem?_getD,List.getElem?_eq_none (by omega)];simp
 have hok:=h.ok x hx;have C1:=zaa (zrs base (w.setCell ⟨P,0,none⟩ (.int .i64 ((i+1:Nat):Int))) x.2.1 x.2.2 (h1.file x hx) (zbw ks i) hUle (by have:=hok.few;omega) hok.fit (by have:=hok.y8;omega) (by rw[hs1];exact hbs));have hU:max (ks.getD i 0) 0=((zbw ks i:Nat):Int):=by unfold zbw;omega
 have hnm:=h.names x hx
 have KE:=zaa (show ∀ e w2,zs6 base (w.setCell ⟨P,0,none⟩ (.int .i64 ((i+1:Nat):Int))) x.2.1 x.2.2 (zbw ks i) e w2 →
   (e=.returned (.bool false)∧w2.cell? ⟨Q,0,none⟩=some (.pointer (some ⟨d,0,none⟩))∧w2.cell? ⟨d,1,none⟩=some (.map (some M))∧∃ w3,(∀ ty,(Builtin.delete_ #[92,9] ty #[.map (some M),.string (str x.1)]).run Tryz.prog w2=.ok (.tuple #[]) w3)∧Visited base d M room N w p r x P i (zbw ks i) w3) ∨
   (e=.returned (.bool true)∧Visited base d M room N w p r x P i (zbw ks i) w2) from by
  intro e w2 hend;rcases hend with⟨a1,a2,rfl,g,hg⟩|⟨b1,rfl,g,hf,hg,hb,hy,hl,hxs⟩
  ·refine .inl ⟨rfl,?_,?_,?_⟩
   ·exact zan ((hg.block Q (by rw[hs1];exact(Array.getElem?_eq_some_iff.1 hQ).1) (fun e=>hoQ.1 (.inr (.inr ⟨x,hx,e⟩)))).trans hQ1) 0 _ rfl
   ·exact zan ((hg.block d h1.ltD (h1.notD hx).1).trans h1.box) 1 _ rfl
   ·have hm2:MapAt w2 M (ptrs (p++x::r)):=h1.map.same (hg.block M h1.map.lt (h1.notM hx).1);obtain⟨w3,hd,hm3,hg3,_⟩:=hm2.drop (h.rise.map (fun x:Nat×Fil=>x.1)) (str x.1) (by rw[zb];simp only[maxLen];omega) 0;rw[zam] at hm3;obtain⟨k1,k2⟩:=h1.lose hx hg hg3 hm3;have e1:zdm x.1 (p++x::r)=p++r:=zy0 (u:=x.2) p r h.rise;rw[e1] at k1 k2;refine⟨w3,fun _=>hd,⟨?_,?_,k2.os,k2.tape,k2.output,by have:=k2.size;rw[hs1] at this;exact this,p,k1,?_,?_,?_⟩⟩
    ·exact(k2.block P (by rw[hs1];exact(Array.getElem?_eq_some_iff.1 hP).1) hoP.1).trans hP1
    ·intro g hlt hn hne;exact(k2.block g (by rw[hs1];exact hlt) hn).trans (heap_setCell_other _ ⟨P,0,none⟩ g _ hne)
    ·intro g hg';have:=k2.muts g hg';rw[hs1] at this;exact this
    ·intro g hg';have:=k2.reds g hg';rw[hs1] at this;exact this
    ·have e3:zcf (zbw ks i) (x.1,x.2.2.sp)=[]:=if_pos ⟨a1,a2⟩;rw[e3,List.append_nil]
  ·refine .inr ⟨rfl,?_⟩;obtain⟨k1,k2⟩:=h1.upd hx hf hg (hok.crashed (zbw ks i) hb hy hl hxs) (Nat.le_refl _);have e1:zbi x.1 (x.2.1,g) (p++x::r)=p++(x.1,x.2.1,g)::r:=ztq (u:=x.2) p r h.rise;rw[e1] at k1 k2;have e2:p++(x.1,x.2.1,g)::r=(p++[(x.1,x.2.1,g)])++r:=by simp
   rw[e2] at k1 k2;refine⟨?_,?_,k2.os,k2.tape,k2.output,by have:=k2.size;rw[hs1] at this;exact this,p++[(x.1,x.2.1,g)],k1,?_,?_,?_⟩
   ·exact(k2.block P (by rw[hs1];exact(Array.getElem?_eq_some_iff.1 hP).1) hoP.1).trans hP1
   ·intro g hlt hn hne;exact(k2.block g (by rw[hs1];exact hlt) hn).trans (heap_setCell_other _ ⟨P,0,none⟩ g _ hne)
   ·intro g hg';have:=k2.muts g hg';rw[hs1] at this;exact this
   ·intro g hg';have:=k2.reds g hg';rw[hs1] at this;exact this
   ·have e3:zcf (zbw ks i) (x.1,x.2.2.sp)=[(x.1,⟨true,(za3 x.2.2.sp.cs x.2.2.sp.y (zbw ks i)).1,[]⟩)]:=if_neg b1;rw[e3,sps,List.map_append]
    simp[Fil.sp,hl,hy,hxs])
 have q0:=zan hP 0 (.int .i64 (i:Int)) rfl;have qz:=zio hP 0;have q1:=zan hK 0 (.slice kp kn kc) rfl;have hw:IntKind.i64.wrap ((i:Int)+1)=((i+1:Nat):Int):=by rw[IntKind.wrap_i64];omega
 have HI:=zaa hI;have HKS:=zaa hks;clear h h1 hbs hI hks hP1 hQ1 hs1 hoP hoQ hok hUle hnm hx hP hK hQ;generalize zbw ks i=U at *;generalize str x.1=nm at *;generalize x.2.1=F at *;by_cases hik:i<kn
 ·have hi0:(0:Int)≤(i:Int):=by omega
  have hi1:(i:Int)<(kn:Int):=by omega
  have hik2:i<ks.length:=by rw[za HKS];exact hik
  obtain⟨b,off,rfl,p0⟩:=(za HI).cell i hik2;have hU2:max ks[i] 0=(U:Int):=by
   rw[← hU,List.getD_eq_getElem?_getD,List.getElem?_eq_getElem hik2];rfl
  generalize ks[i]=kk at *;clear hU;go_enter Tryz.func55,Tryz.ntmps55
  go_wp2_with fail
  refine(za C1).mono ?_;intro e w2 hend;rcases za KE e w2 hend with⟨rfl,r1,r2,w3,r3,r4⟩|⟨rfl,r4⟩
  ·have R4:=zaa r4;clear r4 hend
   go_wp2
   go_end0
   exact⟨rfl,za R4⟩
  ·have R4:=zaa r4;clear r4 hend
   go_wp2
   go_end0
   exact⟨rfl,za R4⟩
 ·have hi1:¬ (i:Int)<(kn:Int):=by omega
  have hU2:U=0:=by
   rw[List.getD_eq_getElem?_getD,List.getElem?_eq_none (by rw[za HKS];omega)] at hU;simp at hU;omega
  subst hU2;clear hU;go_enter Tryz.func55,Tryz.ntmps55
  go_wp2_with fail
  refine(za C1).mono ?_;intro e w2 hend;rcases za KE e w2 hend with⟨rfl,r1,r2,w3,r3,r4⟩|⟨rfl,r4⟩
  ·have R4:=zaa r4;clear r4 hend
   go_wp2
   go_end0
   exact⟨rfl,za R4⟩
  ·have R4:=zaa r4;clear r4 hend
   go_wp2
   go_end0
   exact⟨rfl,za R4⟩
end
section
variable {base d M room N:Nat} {w w' w2:World} {fs fs':List Fe}
theorem IntsAt.same {w w':World} {a:Option Addr} {l:List Int} (h:IntsAt w a l) (hs:∀ b off,a=some ⟨b,off,none⟩→0<l.length→w'.heap[b]? = w.heap[b]?):IntsAt w' a l :=
 ⟨h.bd,fun i hi=>by
  obtain⟨b,off,e,hc⟩:=h.cell i hi
  exact⟨b,off,e,by rw[World.cell?_of_block (w:=w) (w':=w') (hs b off e (by omega))];exact hc⟩⟩
theorem zpk (h:DiskAt base w d M room N fs) (hbs:base≤w.heap.size) (hN:N≤1000000) (kp:Option Addr) (kn kc:Nat) (ks:List Int) (hks:ks.length=kn) (hI:IntsAt w kp ks) (hne:∀ b off,kp=some ⟨b,off,none⟩→0<ks.length→¬ znr d M fs b) :
  Calls Tryz.prog 20 #[.pointer (some ⟨d,0,none⟩),.slice kp kn kc] w fun e w'=>e=.returned (.tuple #[])∧∃ fs',DiskAt base w' d M room N fs'∧DGrew d M w fs w' fs'∧sps fs'=za5 ks 0 (sps fs):=by
 have b1:Below w.heap.size w (w.alloc (.cells #[.pointer (some ⟨d,0,none⟩)] 38)):=(Below.refl _ _).alloc (Nat.le_refl _) _;have b2:Below w.heap.size w ((w.alloc (.cells #[.pointer (some ⟨d,0,none⟩)] 38)).alloc (.cells #[.slice kp kn kc] 32)):=b1.alloc b1.size _;have b3:Below w.heap.size w (((w.alloc (.cells #[.pointer (some ⟨d,0,none⟩)] 38)).alloc (.cells #[.slice kp kn kc] 32)).alloc (.cells #[.int .i64 0] 3)):=b2.alloc b2.size _;have s1:(w.alloc (.cells #[.pointer (some ⟨d,0,none⟩)] 38)).heap.size=w.heap.size+1:=by simp
 have s2:((w.alloc (.cells #[.pointer (some ⟨d,0,none⟩)] 38)).alloc (.cells #[.slice kp kn kc] 32)).heap.size=w.heap.size+2:=by simp
 have s3:(((w.alloc (.cells #[.pointer (some ⟨d,0,none⟩)] 38)).alloc (.cells #[.slice kp kn kc] 32)).alloc (.cells #[.int .i64 0] 3)).heap.size=w.heap.size+3:=by simp
 have hQ:(((w.alloc (.cells #[.pointer (some ⟨d,0,none⟩)] 38)).alloc (.cells #[.slice kp kn kc] 32)).alloc (.cells #[.int .i64 0] 3)).heap[w.heap.size]? = some (.cells #[.pointer (some ⟨d,0,none⟩)] 38 (0,0)):=by
  rw[Below.heap_alloc _ _ _ (by omega),Below.heap_alloc _ _ _ (by omega)];exact zad _ _
 have hK:(((w.alloc (.cells #[.pointer (some ⟨d,0,none⟩)] 38)).alloc (.cells #[.slice kp kn kc] 32)).alloc (.cells #[.int .i64 0] 3)).heap[w.heap.size+1]? = some (.cells #[.slice kp kn kc] 32 (0,0)):=by
  rw[Below.heap_alloc _ _ _ (by omega),← s1];exact zad _ _
 have hP:(((w.alloc (.cells #[.pointer (some ⟨d,0,none⟩)] 38)).alloc (.cells #[.slice kp kn kc] 32)).alloc (.cells #[.int .i64 0] 3)).heap[w.heap.size+2]? = some (.cells #[.int .i64 0] 3 (0,0)):=by
  rw[← s2];exact zad _ _
 have hlow:∀ g,znr d M fs g∨zua fs g→g<w.heap.size:=fun g hg=>hg.elim (fun hh=>(h.mut_lt hh).2) (fun hh=>(h.red_lt hh).2)
 have EC:=zaa (show ∀ W3:World,Below w.heap.size w W3→W3.heap.size=w.heap.size+3→W3.heap[w.heap.size]? = some (.cells #[.pointer (some ⟨d,0,none⟩)] 38 (0,0))→W3.heap[w.heap.size+1]? = some (.cells #[.slice kp kn kc] 32 (0,0))→W3.heap[w.heap.size+2]? = some (.cells #[.int .i64 0] 3 (0,0)) →
   Calls Tryz.prog 54 #[.pointer (some ⟨d,0,none⟩),.func (.func 55) #[] #[.pointer (some ⟨w.heap.size+2,0,none⟩),.pointer (some ⟨w.heap.size+1,0,none⟩),.pointer (some ⟨w.heap.size,0,none⟩)]] W3 fun e w'=>e=.returned (.tuple #[])∧∃ fs',DiskAt base w' d M room N fs'∧DGrew d M w fs w' fs'∧sps fs'=za5 ks 0 (sps fs) from fun W3 b3 s3 hQ hK hP =>
  zja base d M room N W3 fs (h.later b3) 55 _ zru
  (fun w'=>∃ fs',DiskAt base w' d M room N fs'∧DGrew d M w fs w' fs'∧sps fs'=za5 ks 0 (sps fs)) (fun W0 hb=>by
   have hb0:Below w.heap.size w W0:=b3.trans (hb.mono b3.size);have hW0:w.heap.size+3≤W0.heap.size:=by have:=hb.size;omega
   refine⟨fun i w1=>∃ p',DiskAt base w1 d M room N (p'++fs.drop i)∧sps p'++za5 ks i (sps (fs.drop i))=za5 ks 0 (sps fs)∧(∀ g,znr d M (p'++fs.drop i) g→znr d M fs g∨W0.heap.size≤g)∧(∀ g,zua (p'++fs.drop i) g→zua fs g∨W0.heap.size≤g)∧w1.heap[w.heap.size+2]? = some (.cells #[.int .i64 (i:Int)] 3 (0,0))∧(∀ g,g<W0.heap.size→¬ znr d M fs g→g≠w.heap.size+2→w1.heap[g]? = W0.heap[g]?)∧(w1.os=W0.os∧w1.tape=W0.tape∧w1.output=W0.output∧W0.heap.size≤w1.heap.size),?_,?_,?_,?_⟩
   ·refine⟨[],h.later hb0,by simp[sps],fun g hg=>.inl hg,fun g hg=>.inl hg,?_,fun g _ _ _=>rfl,rfl,rfl,rfl,Nat.le_refl _⟩;rw[hb.block _ (by omega)];exact hP
   ·rintro i w1 ⟨p',_,_,_,_,_,hs,_⟩ g hg1 hg2;exact hs g hg2 (fun hm=>by have:=hlow g (.inl hm);omega) (by omega)
   ·rintro i hi w1 ⟨p',hd,hsp,hmu,hre,hP1,hs,ho,ht,hou,hsz⟩;have hdrop:fs.drop i=fs[i]::fs.drop (i+1):=List.drop_eq_getElem_cons hi;rw[hdrop] at hd hsp hmu hre;have hx:fs[i]∈p'++fs[i]::fs.drop (i+1):=List.mem_append_right _ List.mem_cons_self;have hnm:=hd.names _ hx;refine⟨hd.c1,(hd.map.look_yes (str fs[i].1) (by rw[zb];simp only[maxLen];omega) fs[i].2.1 (List.mem_map.2 ⟨fs[i],hx,rfl⟩)).2,?_⟩;have hsame:∀ g,w.heap.size≤g→g<w.heap.size+2→w1.heap[g]? = W3.heap[g]?:=fun g h1 h2=>(hs g (by omega) (fun hm=>by have:=hlow g (.inl hm);omega) (by omega)).trans (hb.block g (by omega));have hi16:=h.few;refine(zpi p' (fs.drop (i+1)) fs[i] hd (Nat.le_trans hbs (Nat.le_trans hb0.size hsz)) hN (w.heap.size+2) (w.heap.size+1) w.heap.size i (by omega) hP1 kp kn kc ((hsame _ (by omega) (by omega)).trans hK) ((hsame _ (by omega) (by omega)).trans hQ) ks hks (hI.same (fun b off e h0=>?_))).mono ?_
    ·have hbl:b<w.heap.size:=by
      obtain⟨b',off',e1,e2⟩:=hI.cell 0 h0;rw[e1] at e;have hbb:b'=b:=by simpa using congrArg (fun x=>x.map Addr.block) e
      have:=World.block_lt_of_cell? _ _ e2;simp only at this;omega
     exact(hs b (Nat.lt_of_lt_of_le hbl hb0.size) (hne b off e h0) (by omega)).trans (hb0.block b hbl)
    ·rintro e w2 ⟨rfl,hv⟩;refine⟨rfl,?_⟩;obtain⟨p2,k1,k2,k3,k4⟩:=hv.left;refine⟨p2,k1,?_,fun g hg=>?_,fun g hg=>?_,hv.cnt,fun g h1 h2 h3=>?_,hv.os.trans ho,hv.tape.trans ht,hv.output.trans hou,Nat.le_trans hsz hv.size⟩
     ·rw[k4,List.append_assoc,← hsp];rfl
     ·rcases k2 g hg with h1|h1
      ·exact hmu g h1
      ·exact .inr (Nat.le_trans hsz h1)
     ·rcases k3 g hg with h1|h1
      ·exact hre g h1
      ·exact .inr (Nat.le_trans hsz h1)
     ·refine(hv.same g (Nat.lt_of_lt_of_le h1 hsz) (fun hm=>?_) h3).trans (hs g h1 h2 h3);rcases hmu g hm with h4|h4
      ·exact h2 h4
      ·omega
   ·rintro w1 ⟨p',hd,hsp,hmu,hre,hP1,hs,ho,ht,hou,hsz⟩;rw[List.drop_length,List.append_nil] at hd hmu hre;rw[List.drop_length] at hsp;refine⟨p',hd,⟨ho.trans hb0.os,ht.trans hb0.tape,hou.trans hb0.output,Nat.le_trans hb0.size hsz,fun g hg hn=>?_,fun g hg=>(hmu g hg).imp id (Nat.le_trans hb0.size),fun g hg=>(hre g hg).imp id (Nat.le_trans hb0.size)⟩,?_⟩
    ·exact(hs g (Nat.lt_of_lt_of_le hg hb0.size) hn (by omega)).trans (hb0.block g hg)
    ·rw[← hsp];show sps p'=sps p'++za5 ks fs.length (sps [])
     rw[show sps []=[] from rfl,za5,List.append_nil]))
 have EC2:=zaa (za EC _ b3 s3 hQ hK hP);clear EC h hbs hI hne b1 b2 b3 s1 s2 s3 hQ hK hP hlow;go_enter Tryz.func20,Tryz.ntmps20
 go_wp2_with (go_at_call 54;refine(za EC2).mono ?_;rintro e W ⟨rfl,hE⟩;have HE:=zaa hE;clear hE)
 go_end0
 exact⟨rfl,za HE⟩
end
end
end Go.Proofs.YtofllbpfajppeaaGreatDoor
