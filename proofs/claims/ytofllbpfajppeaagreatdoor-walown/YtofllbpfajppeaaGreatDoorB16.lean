/- Logs: replaceFile. -/
import Derived.Test.YtofllbpfajppeaaGreatDoorB15
import Derived.Test.YtofllbpfajppeaaGreatDoorB07
set_option linter.unusedVariables false
set_option maxRecDepth 20000
set_option maxHeartbeats 16000000
namespace Go.Proofs.YtofllbpfajppeaaGreatDoor
section
open Go.ChangeShapes Go.WideShapes Go.ChangeAt Go.RowKit
def za1 (room n:Nat) (b:List Nat) (ss:Ds):Nat×Ds :=
 if (zai room zau 0 b ss).1≠0 then zai room zau 0 b ss
 else if (zax zau (zai room zau 0 b ss).2).1≠0 then zax zau (zai room zau 0 b ss).2
 else if n=1099511627776 then (6,(zax zau (zai room zau 0 b ss).2).2)
 else if n≠0∧walNm n ∉ (zax zau (zai room zau 0 b ss).2).2.map (·.1) then (8,(zax zau (zai room zau 0 b ss).2).2)
 else if (zak zau (walNm (n+1)) (zax zau (zai room zau 0 b ss).2).2).1≠0∨n=0 then zak zau (walNm (n+1)) (zax zau (zai room zau 0 b ss).2).2
 else zat (walNm n) (zak zau (walNm (n+1)) (zax zau (zai room zau 0 b ss).2).2).2
section
variable {Av:Nat→Prop} {base:Nat} {w w':World} {L d M room N N':Nat} {ss ss':Ds} {c:Wc} {n:Nat} {ep:Option Addr} {ec:Nat} {hs:List (Option Addr×Nat)}
theorem zi4:(⟨#[119,97,108,46,116,109,112]⟩:ByteArray).size≤maxLen:=by decide
theorem zol (z:WAt Av base w L d M room N ss c n ep ec hs) (hN:N+1≤1000000) (xp:Option Addr) (xn xc:Nat) (b:List Nat) (ho:b.length=xn) (hxc:xn≤xc) (hB:BytesAt w xp b) (hx0:xp=none→xc=0) (hlo:∀ g off,xp=some ⟨g,off,none⟩→0<xn→g<base∨Av g) (hxl:xn≤140737488355328) :
  Calls Tryz.prog 92 #[.pointer (some ⟨L,0,none⟩),.slice xp xn xc] w (zns Av base L d M room (N+1) w c n ep ec hs (za1 room n b ss)):=by
 have WR:=zaa (show za1 room n b ss=(if (zai room zau 0 b ss).1≠0 then zai room zau 0 b ss
  else if (zax zau (zai room zau 0 b ss).2).1≠0 then zax zau (zai room zau 0 b ss).2
  else if n=1099511627776 then (6,(zax zau (zai room zau 0 b ss).2).2)
  else if n≠0∧walNm n ∉ (zax zau (zai room zau 0 b ss).2).2.map (·.1) then (8,(zax zau (zai room zau 0 b ss).2).2)
  else if (zak zau (walNm (n+1)) (zax zau (zai room zau 0 b ss).2).2).1≠0∨n=0 then zak zau (walNm (n+1)) (zax zau (zai room zau 0 b ss).2).2
  else zat (walNm n) (zak zau (walNm (n+1)) (zax zau (zai room zau 0 b ss).2).2).2) from rfl)
 have WC:=zaa (zgs z.dk hN ⟨#[119,97,108,46,116,109,112]⟩ zi4 0 (by omega) xp xn xc b ho hxc hB hx0 (fun g off e h0=>(hlo g off e h0).imp id .inl) hxl);rw[show(⟨#[119,97,108,46,116,109,112]⟩:ByteArray).data.toList=zau from rfl] at WC;have Z:=zaa z;have hnn:=z.nn;have c0:=z.ptr.1;generalize za1 room n b ss=wr at *;generalize zai room zau 0 b ss=r1 at *;obtain⟨e1,s1⟩:=r1;dsimp only at WR WC;clear z hB hlo;go_enter Tryz.func92,Tryz.ntmps92
 go_wp2_with fail
 clear c0;go_at_call 106
 refine(za WC).mono ?_;rintro e V1 ⟨rfl,dk1,as1⟩;have A:=zaa ((za Z).asd as1);have Z:=zaa ((za Z).disk dk1 as1);clear dk1 as1 WC;dsimp only;by_cases h1:e1=0
 ·subst h1;rw[if_neg (by simp)] at WR;have SC:=zaa (zkf (za Z).dk ⟨#[119,97,108,46,116,109,112]⟩ zi4);rw[show(⟨#[119,97,108,46,116,109,112]⟩:ByteArray).data.toList=zau from rfl] at SC;generalize zax zau s1=r2 at *;obtain⟨e2,s2⟩:=r2;dsimp only at WR SC;have c0:=(za Z).ptr.1
  go_wp2_with fail
  clear c0;go_at_call 52
  refine(za SC).mono ?_;rintro e V2 ⟨rfl,dk2,as2⟩;have A:=zaa ((za A).trans ((za Z).asd as2));have Z:=zaa ((za Z).disk dk2 as2);clear dk2 as2 SC;dsimp only;by_cases h2:e2=0
  ·subst h2;rw[if_neg (by simp)] at WR;obtain⟨c0,c6,_⟩:=(za Z).ptr;by_cases h3:n=1099511627776
   ·rw[if_pos h3] at WR;have FE:=zaa (show zns Av base L d M room (N+1) w c n ep ec hs wr (.returned (.int .i64 6)) V2 by rw[za WR];exact⟨rfl,za Z,za A⟩);have h3':((n:Int)==1099511627776)=true:=by simp[h3]
    clear h3
    go_wp2
    go_ret
    exact za FE
   ·rw[if_neg h3] at WR;have h3':((n:Int)==1099511627776)=false:=by simp;omega
    have h3'':¬ (n:Int)=1099511627776:=by omega
    by_cases h4:n=0
    ·have NN:=zaa h4;rw[if_neg (fun hh=>hh.1 h4),if_pos (.inr h4)] at WR;have h4':((n:Int)==0)=true:=by simp[h4]
     have d0:V2.drew.cell? ⟨L,0,none⟩=some (.pointer (some ⟨d,0,none⟩)):=c0;have d6:V2.drew.cell? ⟨L,6,none⟩=some (.int .i64 (n:Int)):=c6;have hwr:IntKind.i64.wrap ((n:Int)+1)=((n+1:Nat):Int):=by
      rw[IntKind.wrap_i64];omega
     have FN:=zaa (zel (n+1) (by omega) V2.drew ((za Z).tzw.later ((Below.refl _ _).drew)));have RC:=zaa (fun (W:World) (u:Below V2.heap.size V2 W)=>zil ((za Z).dk.later u) ⟨#[119,97,108,46,116,109,112]⟩ (str (walNm (n+1))) zi4 (by rw[zb];have:=walNm_len (n+1) (by omega);simp only[maxLen];omega));rw[show(⟨#[119,97,108,46,116,109,112]⟩:ByteArray).data.toList=zau from rfl,zam] at RC;generalize zak zau (walNm (n+1)) s2=r3 at *;obtain⟨e3,s3⟩:=r3;try dsimp only at WR RC
     generalize str (walNm (n+1))=nm1 at *;generalize ((n+1:Nat):Int)=n1 at *;have H4:=zaa h4';clear h4 h4' h3;have h4b:=za H4
     go_wp2_with fail
     refine wp_region_held_drew (S:=fun w'=>w'.cell? ⟨L,0,none⟩=some (.pointer (some ⟨d,0,none⟩))∧w'.cell? ⟨L,6,none⟩=some (.int .i64 (n:Int))) (by kernel_rfl) ?_ (fun hHeld=>?_)
     ·try dsimp only
      first|exact⟨d0,d6⟩|exact⟨d01,d61⟩|exact⟨d02,d62⟩
     refine hT 0 ?_;refine hT 1 ?_;refine hT 2 ?_;refine hT 3 ?_;refine hT 4 ?_;refine hT 5 ?_;refine hT 6 ?_;refine hT 7 ?_;refine hT 8 ?_;refine hO 9 (fun K hK=>?_);go_simp
     first
      |(go_at_call 61
        refine(za FN).mono ?_;rintro e V6 ⟨rfl,v6⟩;have d01:=cell_later v6 d0;have d61:=cell_later v6 d6;have B6:=zaa (show Below V2.heap.size V2 V6 from⟨v6.os,v6.tape,v6.output,v6.size,v6.block⟩)
        clear v6)
      |(go_at_call 122
        refine(za RC _ (za B6)).mono ?_;rintro e V7 ⟨rfl,dk7,as7⟩;have Z7:=zaa (((za Z).later (za B6)).disk dk7 as7);have A7:=zaa (((za A).trans ((za Z).asdB (za B6))).trans (((za Z).later (za B6)).asd as7));have d02:=(za Z7).ptr.1;have d62:=(za Z7).ptr.2.1
        clear dk7 as7)
     go_wp2_with fail
     refine hK.out _ _ ?_ (fun hHeld=>?_)
     ·try dsimp only
      first|exact⟨d0,d6⟩|exact⟨d01,d61⟩|exact⟨d02,d62⟩
     clear hK K;refine hP ?_;refine hO 10 (fun K hK=>?_);go_simp
     first
      |(go_at_call 61
        refine(za FN).mono ?_;rintro e V6 ⟨rfl,v6⟩;have d01:=cell_later v6 d0;have d61:=cell_later v6 d6;have B6:=zaa (show Below V2.heap.size V2 V6 from⟨v6.os,v6.tape,v6.output,v6.size,v6.block⟩)
        clear v6)
      |(go_at_call 122
        refine(za RC _ (za B6)).mono ?_;rintro e V7 ⟨rfl,dk7,as7⟩;have Z7:=zaa (((za Z).later (za B6)).disk dk7 as7);have A7:=zaa (((za A).trans ((za Z).asdB (za B6))).trans (((za Z).later (za B6)).asd as7));have d02:=(za Z7).ptr.1;have d62:=(za Z7).ptr.2.1
        clear dk7 as7)
     go_wp2_with fail
     refine hK.out _ _ ?_ (fun hHeld=>?_)
     ·try dsimp only
      first|exact⟨d0,d6⟩|exact⟨d01,d61⟩|exact⟨d02,d62⟩
     clear hK K;refine hP ?_;refine hT 11 ?_;refine wpAnyH_done (by kernel_rfl) ?_ _;have FE:=zaa (show zns Av base L d M room (N+1) w c n ep ec hs wr (.returned (.int .i64 (e3:Int))) V7 by rw[za WR];exact⟨rfl,za Z7,za A7⟩);clear h4b;have h4c:=za H4;by_cases h6:e3=0
     ·subst h6
      go_wp2
      go_ret
      exact za FE
     ·have h6':((e3:Int)==0)=false:=by simp;omega
      have h6'':¬ (e3:Int)=0:=by omega
      go_wp2
      go_ret
      exact za FE
    ·have h4':((n:Int)==0)=false:=by simp;omega
     have h4'':¬ (n:Int)=0:=by omega
     have NC:=zaa (zep (za Z).dk)
     go_wp2_with fail
     clear c0 c6;go_at_call 41
     refine(za NC).mono ?_;rintro e V3 ⟨sp3,n3,k3,rfl,hn3,on3,v3⟩;have A:=zaa ((za A).trans ((za Z).asdB v3));have L16:=zaa (za Z).dk.len;have Z:=zaa ((za Z).later v3);have ON:=zaa on3;have HN3:=zaa hn3;clear v3 on3 hn3 NC;have FC:=zaa (zay (za Z))
     go_wp2_with fail
     go_at_call 23
     refine(za FC).mono ?_;rintro e V4 ⟨rfl,v4⟩;have A:=zaa ((za A).trans ((za Z).asdB v4));have Z:=zaa ((za Z).later v4);have ON:=zaa ((za ON).later v4);clear v4 FC;have CC:=zaa (zlz (n:=n3) (za ON) (show(s2.map (·.1)).length=n3 by rw[List.length_map];exact za HN3) (by have:=za HN3;have:=za L16;omega) (walNm n))
     go_wp2_with fail
     go_at_call 121
     refine(za CC).mono ?_;rintro e V5 ⟨rfl,hV⟩;subst hV;clear CC ON;by_cases h5:walNm n∈s2.map (·.1)
     ·rw[if_neg (fun hh=>hh.2 h5)] at WR;rw[decide_eq_true h5];clear h5;obtain⟨c0,c6,_⟩:=(za Z).ptr;have d0:V5.drew.cell? ⟨L,0,none⟩=some (.pointer (some ⟨d,0,none⟩)):=c0;have d6:V5.drew.cell? ⟨L,6,none⟩=some (.int .i64 (n:Int)):=c6;have hwr:IntKind.i64.wrap ((n:Int)+1)=((n+1:Nat):Int):=by
       rw[IntKind.wrap_i64];omega
      have FN:=zaa (zel (n+1) (by omega) V5.drew ((za Z).tzw.later ((Below.refl _ _).drew)));have RC:=zaa (fun (W:World) (u:Below V5.heap.size V5 W)=>zil ((za Z).dk.later u) ⟨#[119,97,108,46,116,109,112]⟩ (str (walNm (n+1))) zi4 (by rw[zb];have:=walNm_len (n+1) (by omega);simp only[maxLen];omega));rw[show(⟨#[119,97,108,46,116,109,112]⟩:ByteArray).data.toList=zau from rfl,zam] at RC;generalize zak zau (walNm (n+1)) s2=r3 at *;obtain⟨e3,s3⟩:=r3;try dsimp only at WR RC
      generalize str (walNm (n+1))=nm1 at *;generalize ((n+1:Nat):Int)=n1 at *;by_cases h6:e3=0
      ·subst h6;rw[if_neg (by simp[h4])] at WR;clear h3 h4
       go_wp2_with fail
       refine wp_region_held_drew (S:=fun w'=>w'.cell? ⟨L,0,none⟩=some (.pointer (some ⟨d,0,none⟩))∧w'.cell? ⟨L,6,none⟩=some (.int .i64 (n:Int))) (by kernel_rfl) ?_ (fun hHeld=>?_)
       ·try dsimp only
        first|exact⟨d0,d6⟩|exact⟨d01,d61⟩|exact⟨d02,d62⟩
       refine hT 0 ?_;refine hT 1 ?_;refine hT 2 ?_;refine hT 3 ?_;refine hT 4 ?_;refine hT 5 ?_;refine hT 6 ?_;refine hT 7 ?_;refine hT 8 ?_;refine hO 9 (fun K hK=>?_);go_simp
       first
        |(go_at_call 61
          refine(za FN).mono ?_;rintro e V6 ⟨rfl,v6⟩;have d01:=cell_later v6 d0;have d61:=cell_later v6 d6;have B6:=zaa (show Below V5.heap.size V5 V6 from⟨v6.os,v6.tape,v6.output,v6.size,v6.block⟩)
          clear v6)
        |(go_at_call 122
          refine(za RC _ (za B6)).mono ?_;rintro e V7 ⟨rfl,dk7,as7⟩;have Z7:=zaa (((za Z).later (za B6)).disk dk7 as7);have A7:=zaa (((za A).trans ((za Z).asdB (za B6))).trans (((za Z).later (za B6)).asd as7));have d02:=(za Z7).ptr.1;have d62:=(za Z7).ptr.2.1
          clear dk7 as7)
       go_wp2_with fail
       refine hK.out _ _ ?_ (fun hHeld=>?_)
       ·try dsimp only
        first|exact⟨d0,d6⟩|exact⟨d01,d61⟩|exact⟨d02,d62⟩
       clear hK K;refine hP ?_;refine hO 10 (fun K hK=>?_);go_simp
       first
        |(go_at_call 61
          refine(za FN).mono ?_;rintro e V6 ⟨rfl,v6⟩;have d01:=cell_later v6 d0;have d61:=cell_later v6 d6;have B6:=zaa (show Below V5.heap.size V5 V6 from⟨v6.os,v6.tape,v6.output,v6.size,v6.block⟩)
          clear v6)
        |(go_at_call 122
          refine(za RC _ (za B6)).mono ?_;rintro e V7 ⟨rfl,dk7,as7⟩;have Z7:=zaa (((za Z).later (za B6)).disk dk7 as7);have A7:=zaa (((za A).trans ((za Z).asdB (za B6))).trans (((za Z).later (za B6)).asd as7));have d02:=(za Z7).ptr.1;have d62:=(za Z7).ptr.2.1
          clear dk7 as7)
       go_wp2_with fail
       refine hK.out _ _ ?_ (fun hHeld=>?_)
       ·try dsimp only
        first|exact⟨d0,d6⟩|exact⟨d01,d61⟩|exact⟨d02,d62⟩
       clear hK K;refine hP ?_;refine hT 11 ?_;refine wpAnyH_done (by kernel_rfl) ?_ _;have c0:=(za Z7).ptr.1;have d0:V7.drew.cell? ⟨L,0,none⟩=some (.pointer (some ⟨d,0,none⟩)):=c0;have FC:=zaa (zay ((za Z7).later ((Below.refl _ _).drew)));have DC:=zaa (fun (W:World) (u:Below V7.heap.size V7 W)=>zf8 ((za Z7).dk.later u) (str (walNm n)) (zg4 n hnn));rw[zam] at DC;generalize zat (walNm n) s3=r4 at *;obtain⟨e4,s4⟩:=r4;generalize str (walNm n)=nm at *
       go_wp2_with fail
       refine wp_region_held_drew (S:=fun w'=>w'.cell? ⟨L,0,none⟩=some (.pointer (some ⟨d,0,none⟩))) (by kernel_rfl) ?_ (fun hHeld=>?_)
       ·try dsimp only
        first|exact d0|exact d1|exact d2
       refine hT 0 ?_;refine hT 1 ?_;refine hT 2 ?_;refine hT 3 ?_;refine hT 4 ?_;refine hO 5 (fun K hK=>?_);go_simp
       first
        |(go_at_call 23
          refine(za FC).mono ?_;rintro e V8 ⟨rfl,v8⟩;have d1:=cell_later v8 d0;have B8:=zaa (show Below V7.heap.size V7 V8 from⟨v8.os,v8.tape,v8.output,v8.size,v8.block⟩)
          clear v8)
        |(go_at_call 91
          refine(za DC _ (za B8)).mono ?_;rintro e V9 ⟨rfl,dk9,as9⟩;have Z9:=zaa (((za Z7).later (za B8)).disk dk9 as9);have A9:=zaa (((za A7).trans ((za Z7).asdB (za B8))).trans (((za Z7).later (za B8)).asd as9));have d2:=(za Z9).ptr.1
          clear dk9 as9)
       go_wp2_with fail
       refine hK.out _ _ ?_ (fun hHeld=>?_)
       ·try dsimp only
        first|exact d0|exact d1|exact d2
       clear hK K;refine hP ?_;refine hO 6 (fun K hK=>?_);go_simp
       first
        |(go_at_call 23
          refine(za FC).mono ?_;rintro e V8 ⟨rfl,v8⟩;have d1:=cell_later v8 d0;have B8:=zaa (show Below V7.heap.size V7 V8 from⟨v8.os,v8.tape,v8.output,v8.size,v8.block⟩)
          clear v8)
        |(go_at_call 91
          refine(za DC _ (za B8)).mono ?_;rintro e V9 ⟨rfl,dk9,as9⟩;have Z9:=zaa (((za Z7).later (za B8)).disk dk9 as9);have A9:=zaa (((za A7).trans ((za Z7).asdB (za B8))).trans (((za Z7).later (za B8)).asd as9));have d2:=(za Z9).ptr.1
          clear dk9 as9)
       go_wp2_with fail
       refine hK.out _ _ ?_ (fun hHeld=>?_)
       ·try dsimp only
        first|exact d0|exact d1|exact d2
       clear hK K;refine hP ?_;refine hT 7 ?_;refine wpAnyH_done (by kernel_rfl) ?_ _;have FE:=zaa (show zns Av base L d M room (N+1) w c n ep ec hs wr (.returned (.int .i64 (e4:Int))) V9 by rw[za WR];exact⟨rfl,za Z9,za A9⟩)
       go_wp2
       go_ret
       exact za FE
      ·rw[if_pos (.inl h6)] at WR;have h6':((e3:Int)==0)=false:=by simp;omega
       have h6'':¬ (e3:Int)=0:=by omega
       clear h3 h4
       go_wp2_with fail
       refine wp_region_held_drew (S:=fun w'=>w'.cell? ⟨L,0,none⟩=some (.pointer (some ⟨d,0,none⟩))∧w'.cell? ⟨L,6,none⟩=some (.int .i64 (n:Int))) (by kernel_rfl) ?_ (fun hHeld=>?_)
       ·try dsimp only
        first|exact⟨d0,d6⟩|exact⟨d01,d61⟩|exact⟨d02,d62⟩
       refine hT 0 ?_;refine hT 1 ?_;refine hT 2 ?_;refine hT 3 ?_;refine hT 4 ?_;refine hT 5 ?_;refine hT 6 ?_;refine hT 7 ?_;refine hT 8 ?_;refine hO 9 (fun K hK=>?_);go_simp
       first
        |(go_at_call 61
          refine(za FN).mono ?_;rintro e V6 ⟨rfl,v6⟩;have d01:=cell_later v6 d0;have d61:=cell_later v6 d6;have B6:=zaa (show Below V5.heap.size V5 V6 from⟨v6.os,v6.tape,v6.output,v6.size,v6.block⟩)
          clear v6)
        |(go_at_call 122
          refine(za RC _ (za B6)).mono ?_;rintro e V7 ⟨rfl,dk7,as7⟩;have Z7:=zaa (((za Z).later (za B6)).disk dk7 as7);have A7:=zaa (((za A).trans ((za Z).asdB (za B6))).trans (((za Z).later (za B6)).asd as7));have d02:=(za Z7).ptr.1;have d62:=(za Z7).ptr.2.1
          clear dk7 as7)
       go_wp2_with fail
       refine hK.out _ _ ?_ (fun hHeld=>?_)
       ·try dsimp only
        first|exact⟨d0,d6⟩|exact⟨d01,d61⟩|exact⟨d02,d62⟩
       clear hK K;refine hP ?_;refine hO 10 (fun K hK=>?_);go_simp
       first
        |(go_at_call 61
          refine(za FN).mono ?_;rintro e V6 ⟨rfl,v6⟩;have d01:=cell_later v6 d0;have d61:=cell_later v6 d6;have B6:=zaa (show Below V5.heap.size V5 V6 from⟨v6.os,v6.tape,v6.output,v6.size,v6.block⟩)
          clear v6)
        |(go_at_call 122
          refine(za RC _ (za B6)).mono ?_;rintro e V7 ⟨rfl,dk7,as7⟩;have Z7:=zaa (((za Z).later (za B6)).disk dk7 as7);have A7:=zaa (((za A).trans ((za Z).asdB (za B6))).trans (((za Z).later (za B6)).asd as7));have d02:=(za Z7).ptr.1;have d62:=(za Z7).ptr.2.1
          clear dk7 as7)
       go_wp2_with fail
       refine hK.out _ _ ?_ (fun hHeld=>?_)
       ·try dsimp only
        first|exact⟨d0,d6⟩|exact⟨d01,d61⟩|exact⟨d02,d62⟩
       clear hK K;refine hP ?_;refine hT 11 ?_;refine wpAnyH_done (by kernel_rfl) ?_ _;have FE:=zaa (show zns Av base L d M room (N+1) w c n ep ec hs wr (.returned (.int .i64 (e3:Int))) V7 by rw[za WR];exact⟨rfl,za Z7,za A7⟩)
       go_wp2
       go_ret
       exact za FE
     ·rw[if_pos ⟨h4,h5⟩] at WR;rw[decide_eq_false h5];have FE:=zaa (show zns Av base L d M room (N+1) w c n ep ec hs wr (.returned (.int .i64 8)) V5 by rw[za WR];exact⟨rfl,za Z,za A⟩);clear h5
      go_wp2
      go_ret
      exact za FE
  ·rw[if_pos h2] at WR;have h2':((e2:Int)==0)=false:=by simp;omega
   have h2'':¬ (e2:Int)=0:=by omega
   have FE:=zaa (show zns Av base L d M room (N+1) w c n ep ec hs wr (.returned (.int .i64 (e2:Int))) V2 by rw[za WR];exact⟨rfl,za Z,za A⟩)
   go_wp2
   go_ret
   exact za FE
 ·rw[if_pos h1] at WR;have h1':((e1:Int)==0)=false:=by simp;omega
  have h1'':¬ (e1:Int)=0:=by omega
  have FE:=zaa (show zns Av base L d M room (N+1) w c n ep ec hs wr (.returned (.int .i64 (e1:Int))) V1 by rw[za WR];exact⟨rfl,za Z,za A⟩)
  go_wp2
  go_ret
  exact za FE
end
def zbm (room n:Nat) (b:List Nat) (ss:Ds):Nat×Ds :=
 if (za1 room n b ss).1=0 then za1 room n b ss else ((za1 room n b ss).1,(zat zau (za1 room n b ss).2).2)
theorem zrj {room n:Nat} {b:List Nat} {ss:Ds} (h:(za1 room n b ss).1=0):n≠1099511627776:=by
 rintro rfl;unfold za1 at h;split at h
 ·exact absurd h (by assumption)
 split at h
 ·exact absurd h (by assumption)
 rw[if_pos rfl] at h;cases h
theorem zyq {c:Wc} (hk:WOk c):(za7 c).length≤42+c.es.length*2100:=by
 have h1:=zkv c.bi c.bt hk.bi hk.bt;have h2:=zg2 c.ht c.hv hk.ht hk.hv;have h3:=zgx c.es hk.es;unfold za7;rw[List.length_append,List.length_append];omega
theorem set6 {w:World} {g:Nat} {o a b c d e f x y z u v q:Value} {T:TypeId} (h:w.heap[g]? = some (.cells #[o,a,b,c,d,e,f] T (0,0))):((((((w.setCell ⟨g,1,none⟩ x).setCell ⟨g,2,none⟩ y).setCell ⟨g,3,none⟩ z).setCell ⟨g,4,none⟩ u).setCell ⟨g,5,none⟩ v).setCell ⟨g,6,none⟩ q).heap[g]? = some (.cells #[o,x,y,z,u,v,q] T (0,0))∧w.grownBy ((((((w.setCell ⟨g,1,none⟩ x).setCell ⟨g,2,none⟩ y).setCell ⟨g,3,none⟩ z).setCell ⟨g,4,none⟩ u).setCell ⟨g,5,none⟩ v).setCell ⟨g,6,none⟩ q) (some g):=by
 have h1:=heap_setCell_same w g 1 #[o,a,b,c,d,e,f] T x h;have h2:=heap_setCell_same _ g 2 _ T y h1;have h3:=heap_setCell_same _ g 3 _ T z h2;have h4:=heap_setCell_same _ g 4 _ T u h3;have h5:=heap_setCell_same _ g 5 _ T v h4;have h6:=heap_setCell_same _ g 6 _ T q h5;exact⟨h6,(((((zaf w g 1 x).trans (zaf _ g 2 y)).trans (zaf _ g 3 z)).trans (zaf _ g 4 u)).trans (zaf _ g 5 v)).trans (zaf _ g 6 q)⟩
section
variable {Av:Nat→Prop} {base:Nat} {w w':World} {L d M room N N':Nat} {ss ss':Ds} {c c2:Wc} {n:Nat} {ep ep2:Option Addr} {ec ec2:Nat} {hs hs2:List (Option Addr×Nat)}
theorem OwnL.neL (h:OwnL base w ep ec c.es hs) (hL:CtAt w L 84 [.pointer (some ⟨d,0,none⟩)] [.int .i64 (n:Int)] c2 ep2 ec2):¬ zc6 ep hs L:=by
 intro hf;obtain⟨_,_,cur,T,h1,h2⟩:=h.foot L hf;rw[hL.row] at h1
 injection Option.some.inj h1 with _ h3
 rcases h2 with h2|h2 <;> rw[h2] at h3 <;> exact absurd h3 (by decide)
theorem WAt.put (z:WAt Av base w L d M room N ss c n ep ec hs) {n':Nat} (hL:CtAt w' L 84 [.pointer (some ⟨d,0,none⟩)] [.int .i64 (n':Int)] c2 ep2 ec2) (hg:w.grownBy w' (some L)) (ho:OwnL base w ep2 ec2 c2.es hs2) (hf:∀ g,zc6 ep2 hs2 g→Av g∨zc6 ep hs g) (hk:WOk c2) (hn:n'≤1099511627776) (hle:c2.es.length≤1000000) :
  WAt (fun g=>Av g∧¬ zc6 ep2 hs2 g) base w' L d M room N ss c2 n' ep2 ec2 hs2∧Asd Av base w w':=by
 have hb:Below base w w':=⟨hg.os,hg.tape,hg.output,hg.size,fun i hi=>hg.block i (Nat.lt_of_lt_of_le hi z.dk.le) (fun e=>by have:=z.bl;have:=Option.some.inj e;omega)⟩
 have hnL:=ho.neL z.lg;refine⟨⟨(z.dk.aside (fun g hg1 hn=>hg.block g hg1 (fun e=>hn (.inr (.inl (Option.some.inj e))))) hg.size).av (fun g hg1=>?_),hL,ho.same (fun g hg1=>hg.block g (ho.foot g hg1).2.1 (fun e=>hnL (Option.some.inj e ▸ hg1))),z.bl,fun g hg1=>⟨(z.av g hg1.1).1,hg1.2⟩,hk,hn,hle,let ⟨w0,h1,h2,h3⟩:=z.tz;⟨w0,h1,h2,h3.trans hb⟩⟩,fun g hg1=>hg.block g (z.dk.lt (.inl hg1)) (fun e=>(z.av g hg1).1 (Option.some.inj e)),hb⟩;rcases hg1 with h|h|h
 ·exact .inl h.1
 ·exact .inr (.inl h)
 ·rcases hf g h with q|q
  ·exact .inl q
  ·exact .inr (.inr q)
def znq (Av:Nat→Prop) (base L d M room N:Nat) (w:World) (c:Wc) (n:Nat) (ep:Option Addr) (ec:Nat) (hs:List (Option Addr×Nat)) (c2:Wc) (ep2:Option Addr) (ec2:Nat) (hs2:List (Option Addr×Nat)) (r:Nat×Ds) (e:Ending) (w':World):Prop :=
 e=.returned (.int .i64 (r.1:Int))∧Asd Av base w w'∧(r.1=0→n+1≤1099511627776∧WAt (fun g=>Av g∧¬ zc6 ep2 hs2 g) base w' L d M room N r.2 c2 (n+1) ep2 ec2 hs2)∧(r.1≠0→WAt Av base w' L d M room N r.2 c n ep ec hs)
theorem zgl (z:WAt Av base w L d M room N ss c n ep ec hs) (hN:N+1≤1000000) (ho:OwnL base w ep2 ec2 c2.es hs2) (hf:∀ g,zc6 ep2 hs2 g→Av g∨zc6 ep hs g) (hk:WOk c2) (hle:c2.es.length≤1000000) :
  Calls Tryz.prog 59 #[.pointer (some ⟨L,0,none⟩),.agg #[.int .i64 (c2.bi:Int),.int .i64 (c2.bt:Int),.int .i64 (c2.ht:Int),.int .i64 (c2.hv:Int),.slice ep2 c2.es.length ec2]] w (znq Av base L d M room (N+1) w c n ep ec hs c2 ep2 ec2 hs2 (zbm room n (za7 c2) ss)):=by
 have WA:=zaa (show zbm room n (za7 c2) ss=(if (za1 room n (za7 c2) ss).1=0 then za1 room n (za7 c2) ss else ((za1 room n (za7 c2) ss).1,(zat zau (za1 room n (za7 c2) ss).2).2)) from rfl);have WN:=zaa (fun h=>zrj (room:=room) (n:=n) (b:=za7 c2) (ss:=ss) h);have b1:Below w.heap.size w (w.alloc (.cells #[.int .i64 (c2.bi:Int),.int .i64 (c2.bt:Int),.int .i64 (c2.ht:Int),.int .i64 (c2.hv:Int),.slice ep2 c2.es.length ec2] 82)):=(Below.refl _ _).alloc (Nat.le_refl _) _;have X1:=zaa (zad w (.cells #[.int .i64 (c2.bi:Int),.int .i64 (c2.bt:Int),.int .i64 (c2.ht:Int),.int .i64 (c2.hv:Int),.slice ep2 c2.es.length ec2] 82));have RC:=zaa (zof (w:=w.alloc (.cells #[.int .i64 (c2.bi:Int),.int .i64 (c2.bt:Int),.int .i64 (c2.ht:Int),.int .i64 (c2.hv:Int),.slice ep2 c2.es.length ec2] 82)) (p:=[]) (q:=[]) ⟨za X1⟩ 0 rfl (ho.later b1) hk hle);have RB:=zaa (zyq hk);have HF:=zaa hf;have HO:=zaa ho;have Z:=zaa z;have B1:=zaa b1;have KL:=zaa (show WOk c2∧c2.es.length≤1000000 from⟨hk,hle⟩);generalize zbm room n (za7 c2) ss=wa at *;clear z hf ho b1 hk;go_enter Tryz.func59,Tryz.ntmps59
 go_wp2_with fail
 have BE:=zaa (show ∀ W:World,W.heap.size=W.heap.size from fun _=>rfl);generalize w.alloc _=w1 at *;go_at_call 93
 refine(za RC).mono ?_;rintro e V1 ⟨sp,m,k,rfl,hm,o1,v1⟩;have U1:=zaa ((za B1).trans (v1.mono (za B1).size));have X2:=zaa (zac v1 (za X1))
 have PC:=zaa (zol ((za Z).more (za U1)) hN sp m k (za7 c2) (za hm) (by rw[← za hm];exact o1.cap.1) o1.bytes o1.toBx.nil0 (fun g off e h0=>.inr (.inr ⟨by
  have h1:=(o1.blk_lt g (by rw[e];rfl)).1;have h2:=(za B1).size
  omega,(o1.blk_lt g (by rw[e];rfl)).2⟩)) (by have:=za RB;have:=za hm;omega))
 clear o1 v1 RC X1;have hw1:=(za Z).ltL;generalize za1 room n (za7 c2) ss=wr at *;obtain⟨e1,s1⟩:=wr
 go_wp2_with fail
 go_at_call 92
 refine(za PC).mono ?_;rintro e V2 ⟨rfl,z2,a2⟩;have X3:=zaa ((a2.av w.heap.size (.inl (.inr ⟨Nat.le_refl _,(Array.getElem?_eq_some_iff.1 (za X2)).1⟩))).trans (za X2));have A2:=zaa (((za Z).asdB (za U1)).trans (a2.sub (fun g hg=>hg.imp .inl id)))
 have O2:=zaa (((za HO).later (za U1)).same (w':=V2) (fun g hg=>by
  rcases za HF g hg with q|q
  ·exact a2.av g (.inl (.inl q))
  ·exact a2.av g (.inr (.inr q))))
 have Z2:=zaa z2;clear z2 a2 PC;dsimp only;by_cases h1:e1=0
 ·subst h1;have WE:=zaa (show wa=(0,s1) from(za WA).trans (if_pos rfl));have hn1:n≠1099511627776:=za WN rfl;have hn2:=(za Z2).nn;have hwr:IntKind.i64.wrap ((n:Int)+1)=((n+1:Nat):Int):=by
   rw[IntKind.wrap_i64];omega
  obtain⟨c0,c6,f6⟩:=(za Z2).ptr;have R2:=zaa (za Z2).lg.row;obtain⟨l1,l2⟩:=set6 (x:=.int .i64 (c2.bi:Int)) (y:=.int .i64 (c2.bt:Int)) (z:=.int .i64 (c2.ht:Int)) (u:=.int .i64 (c2.hv:Int)) (v:=.slice ep2 c2.es.length ec2) (q:=.int .i64 ((n+1:Nat):Int)) (za R2);obtain⟨p1,p2⟩:=(za Z2).put (c2:=c2) (n':=n+1) (hs2:=hs2) ⟨l1⟩ l2 (za O2) (fun g hg=>(za HF g hg).imp .inl id) (za KL).1 (by omega) (za KL).2
  have FE:=zaa (show znq Av base L d M room (N+1) w c n ep ec hs c2 ep2 ec2 hs2 wa (.returned (.int .i64 0)) (((((((V2.setCell ⟨L,1,none⟩ (.int .i64 (c2.bi:Int))).setCell ⟨L,2,none⟩ (.int .i64 (c2.bt:Int))).setCell ⟨L,3,none⟩ (.int .i64 (c2.ht:Int))).setCell ⟨L,4,none⟩ (.int .i64 (c2.hv:Int))).setCell ⟨L,5,none⟩ (.slice ep2 c2.es.length ec2)).setCell ⟨L,6,none⟩ (.int .i64 ((n+1:Nat):Int)))) by
   rw[za WE]
   refine⟨rfl,((za A2).sub (fun g hg=>.inl hg)).trans (p2.sub (fun g hg=>.inl hg)),fun _=>⟨by omega,p1.sub (fun g hg=>⟨.inl hg.1,hg.2⟩)⟩,fun h=>absurd rfl h⟩)
  have x0:=zab (za X3) 0 _ rfl;have x1:=zab (za X3) 1 _ rfl;have x2:=zab (za X3) 2 _ rfl;have x3:=zab (za X3) 3 _ rfl;have x4:=zab (za X3) 4 _ rfl;have m1:=zab (za R2) 1 _ rfl;have m2:=zab (za R2) 2 _ rfl;have m3:=zab (za R2) 3 _ rfl;have m4:=zab (za R2) 4 _ rfl;have m5:=zab (za R2) 5 _ rfl;have f1:=zbj (za R2) 1;have f2:=zbj (za R2) 2;have f3:=zbj (za R2) 3;have f4:=zbj (za R2) 4;have f5:=zbj (za R2) 5;clear p1 p2 l1 l2 hn1 hn2;generalize ((n+1:Nat):Int)=n1 at *;generalize c2.es.length=k2 at *;generalize c2.bi=q1 at *;generalize c2.bt=q2 at *;generalize c2.ht=q3 at *;generalize c2.hv=q4 at *
  go_wp2
  go_ret
  exact za FE
 ·have h1':((e1:Int)==0)=false:=by simp;omega
  have h1'':¬ (e1:Int)=0:=by omega
  have DC:=zaa (zf8 (za Z2).dk ⟨#[119,97,108,46,116,109,112]⟩ zi4);rw[show(⟨#[119,97,108,46,116,109,112]⟩:ByteArray).data.toList=zau from rfl] at DC;have WE:=zaa (show wa=(e1,(zat zau s1).2) from(za WA).trans (if_neg h1));generalize zat zau s1=r3 at *;obtain⟨e3,s3⟩:=r3;try dsimp only at WE DC
  have c0:=(za Z2).ptr.1
  go_wp2_with fail
  clear c0;go_at_call 91
  refine(za DC).mono ?_;rintro e V3 ⟨rfl,dk3,as3⟩
  have FE:=zaa (show znq Av base L d M room (N+1) w c n ep ec hs c2 ep2 ec2 hs2 wa (.returned (.int .i64 (e1:Int))) V3 by
   rw[za WE]
   exact⟨rfl,((za A2).trans (as3.sub (fun g hg=>hg.imp .inl id))).sub (fun g hg=>.inl hg),fun h=>absurd h h1,fun _=>((za Z2).disk dk3 as3).sub (fun g hg=>.inl hg)⟩)
  clear dk3 as3 DC
  go_wp2
  go_ret
  exact za FE
end
def zdn (k:Nm) (ss:Ds):List Nat:=(zcc k ss).elim [] (·.now)
def zex (k:Nm) (ss:Ds):Nat:=if (zcc k ss).isSome then 0 else 8
theorem zts (k:Nm) (ss:Ds):zex k ss=0∨zex k ss=8:=by
 unfold zex;split
 ·exact .inl rfl
 ·exact .inr rfl
section
variable {Av:Nat→Prop} {base:Nat} {w w':World} {d M room N:Nat} {ss:Ds}
theorem zia (h:DAt Av base w d M room N ss) (s:ByteArray) (hs:s.size≤maxLen) :
  Calls Tryz.prog 44 #[.pointer (some ⟨d,0,none⟩),.string s] w fun e w'=>∃ sp k,e=.returned (.tuple #[.slice sp k k,.int .i64 (zex s.data.toList ss:Int)])∧(zdn s.data.toList ss).length=k∧k≤262144∧Bx w.heap.size w' sp k (zdn s.data.toList ss)∧Below w.heap.size w w':=by
 cases hx:zcc s.data.toList ss with
 |none =>
  refine(zys h s hs hx).mono ?_;rintro e W ⟨rfl,rfl⟩;unfold zdn zex;rw[hx];exact⟨none,0,rfl,rfl,by omega,Bx.ofNil _ _,Below.refl _ _⟩
 |some x =>
  refine(zpe h s hs x hx).mono ?_;rintro e W ⟨sp,k,rfl,h1,h2,h3,h4⟩;unfold zdn zex;rw[hx];exact⟨sp,k,rfl,h1,h2,h3,h4⟩
end
def zc0 (room n:Nat) (c:Wc) (b:List Nat) (ss:Ds):Nat×Ds×Nat :=
 if zex (walNm n) ss≠0 then (8,ss,n)
 else if b.length+(zdn (walNm n) ss).length≤262144 then ((zai room (walNm n) ((zdn (walNm n) ss).length:Int) b ss).1,(zai room (walNm n) ((zdn (walNm n) ss).length:Int) b ss).2,n)
 else if (zbm room n (za7 c) ss).1≠0 then ((zbm room n (za7 c) ss).1,(zbm room n (za7 c) ss).2,n)
 else ((zai room (walNm (n+1)) ((zdn (walNm (n+1)) (zbm room n (za7 c) ss).2).length:Int) b (zbm room n (za7 c) ss).2).1,(zai room (walNm (n+1)) ((zdn (walNm (n+1)) (zbm room n (za7 c) ss).2).length:Int) b (zbm room n (za7 c) ss).2).2,n+1)
section
variable {Av:Nat→Prop} {base:Nat} {w w':World} {L d M room N N':Nat} {ss ss':Ds} {c:Wc} {n:Nat} {ep:Option Addr} {ec:Nat} {hs:List (Option Addr×Nat)}
theorem BytesAt.asd {a:Option Addr} {l:List Nat} (hb:BytesAt w a l) (h:Asd Av base w w') (hle:base≤w.heap.size) (hlo:∀ g off,a=some ⟨g,off,none⟩→0<l.length→g<base∨Av g):BytesAt w' a l:=by
 refine⟨hb.lt,fun i hi=>?_⟩;obtain⟨g,off,rfl,hc⟩:=hb.cell i hi;refine⟨g,off,rfl,(World.cell?_of_block ?_).trans hc⟩;rcases hlo g off rfl (by omega) with q|q
 ·exact h.bel.block g q
 ·exact h.av g q
theorem WAt.monoN (z:WAt Av base w L d M room N ss c n ep ec hs) (h:N≤N') (hf:N'≤1000000):WAt Av base w L d M room N' ss c n ep ec hs:=⟨z.dk.mono h hf,z.lg,z.ow,z.bl,z.av,z.ok,z.nn,z.le,z.tz⟩
def zw (Av:Nat→Prop) (base L d M room N:Nat) (w:World) (c:Wc) (ep:Option Addr) (ec:Nat) (hs:List (Option Addr×Nat)) (r:Nat×Ds×Nat) (e:Ending) (w':World):Prop :=
 e=.returned (.int .i64 (r.1:Int))∧WAt Av base w' L d M room N r.2.1 c r.2.2 ep ec hs∧Asd Av base w w'
theorem zgn (z:WAt Av base w L d M room N ss c n ep ec hs) (hN:N+2≤1000000) (xp:Option Addr) (xn xc:Nat) (b:List Nat) (ho:b.length=xn) (hxc:xn≤xc) (hB:BytesAt w xp b) (hx0:xp=none→xc=0) (hlo:∀ g off,xp=some ⟨g,off,none⟩→0<xn→g<base∨Av g) (hxl:xn≤140737488355328) :
  Calls Tryz.prog 66 #[.pointer (some ⟨L,0,none⟩),.slice xp xn xc] w (zw Av base L d M room (N+2) w c ep ec hs (zc0 room n c b ss)):=by
 have WA:=zaa (show zc0 room n c b ss=(if zex (walNm n) ss≠0 then (8,ss,n)
  else if b.length+(zdn (walNm n) ss).length≤262144 then ((zai room (walNm n) ((zdn (walNm n) ss).length:Int) b ss).1,(zai room (walNm n) ((zdn (walNm n) ss).length:Int) b ss).2,n)
  else if (zbm room n (za7 c) ss).1≠0 then ((zbm room n (za7 c) ss).1,(zbm room n (za7 c) ss).2,n)
  else ((zai room (walNm (n+1)) ((zdn (walNm (n+1)) (zbm room n (za7 c) ss).2).length:Int) b (zbm room n (za7 c) ss).2).1,(zai room (walNm (n+1)) ((zdn (walNm (n+1)) (zbm room n (za7 c) ss).2).length:Int) b (zbm room n (za7 c) ss).2).2,n+1)) from rfl)
 generalize zc0 room n c b ss=wa at *;have hnn:=z.nn;have Z:=zaa z;have HB:=zaa hB;have HL:=zaa hlo;obtain⟨c0,_,_⟩:=z.ptr;have d0:w.drew.cell? ⟨L,0,none⟩=some (.pointer (some ⟨d,0,none⟩)):=c0;have FC:=zaa (zay (z.later ((Below.refl _ _).drew)));have DC:=zaa (fun (W:World) (u:Below w.heap.size w W)=>zia (z.dk.later u) (str (walNm n)) (zg4 n z.nn));rw[zam] at DC;have RO:=zts (walNm n) ss;have ND:=zaa (show ∀ W:World,W.heap.size=W.heap.size from fun _=>rfl);generalize hNW:str (walNm n)=nm at *;generalize hR:zex (walNm n) ss=e1 at *;clear z hB hlo;go_enter Tryz.func66,Tryz.ntmps66
 go_wp2_with fail
 refine wp_region_held_drew (S:=fun w'=>w'.cell? ⟨L,0,none⟩=some (.pointer (some ⟨d,0,none⟩))) (by kernel_rfl) ?_ (fun hHeld=>?_)
 ·try dsimp only
  first|exact d0|exact d1|exact d2
 refine hT 0 ?_;refine hT 1 ?_;refine hT 2 ?_;refine hT 3 ?_;refine hT 4 ?_;refine hO 5 (fun K hK=>?_);go_simp
 first
  |(go_at_call 23
    refine(za FC).mono ?_;rintro e V1 ⟨rfl,v1⟩;have d1:=cell_later v1 d0;have B1:=zaa (show Below w.heap.size w V1 from⟨v1.os,v1.tape,v1.output,v1.size,v1.block⟩)
    clear v1)
  |(go_at_call 44
    refine(za DC _ (za B1)).mono ?_;rintro e V2 ⟨sp,k,rfl,hk,hk2,o2,v2⟩;have d2:=cell_later v2 d1;have B2:=zaa ((za B1).trans (v2.mono (za B1).size));have HK:=zaa hk
    clear v2 o2 hk)
 go_wp2_with fail
 refine hK.out _ _ ?_ (fun hHeld=>?_)
 ·try dsimp only
  first|exact d0|exact d1|exact d2
 clear hK K;refine hP ?_;refine hO 6 (fun K hK=>?_);go_simp
 first
  |(go_at_call 23
    refine(za FC).mono ?_;rintro e V1 ⟨rfl,v1⟩;have d1:=cell_later v1 d0;have B1:=zaa (show Below w.heap.size w V1 from⟨v1.os,v1.tape,v1.output,v1.size,v1.block⟩)
    clear v1)
  |(go_at_call 44
    refine(za DC _ (za B1)).mono ?_;rintro e V2 ⟨sp,k,rfl,hk,hk2,o2,v2⟩;have d2:=cell_later v2 d1;have B2:=zaa ((za B1).trans (v2.mono (za B1).size));have HK:=zaa hk
    clear v2 o2 hk)
 go_wp2_with fail
 refine hK.out _ _ ?_ (fun hHeld=>?_)
 ·try dsimp only
  first|exact d0|exact d1|exact d2
 clear hK K;refine hP ?_;refine hT 7 ?_;refine hT 8 ?_;refine hT 9 ?_;refine hT 10 ?_;refine hT 11 ?_;refine wpAnyH_done (by kernel_rfl) ?_ _;have Z2:=zaa ((za Z).later (za B2));have A2:=zaa (((za Z).asdB (za B2)).sub (Bv:=Av) (fun g hg=>.inl hg));have HB2:=zaa ((za HB).later (za B2));clear FC DC d0 c0 d1 d2;rcases RO with h1|h1
 ·subst h1;rw[if_neg (by simp)] at WA;rw[za HK] at WA;have c0:=(za Z2).ptr.1;by_cases h2:b.length+k≤262144
  ·rw[if_pos h2] at WA;have h2':(xn:Int)≤262144 - (k:Int):=by omega
   have hwr:IntKind.i64.wrap (262144 - (k:Int))=262144 - (k:Int):=by
    rw[IntKind.wrap_i64];omega
   have hgt:decide (262144 - (k:Int)<(xn:Int))=false:=by simp;omega
   have d0:V2.drew.cell? ⟨L,0,none⟩=some (.pointer (some ⟨d,0,none⟩)):=c0;have FC:=zaa (zay ((za Z2).later ((Below.refl _ _).drew)));have WC:=zaa (fun (W:World) (u:Below V2.heap.size V2 W)=>zgs ((za Z2).dk.later u) (show N+1≤1000000 by omega) (str (walNm n)) (zg4 n hnn) (k:Int) (by omega) xp xn xc b ho hxc ((za HB2).later u) hx0 (fun g off e h0=>(za HL g off e h0).imp id .inl) hxl);rw[zam] at WC;rw[hNW] at FC WC;generalize zai room (walNm n) (k:Int) b ss=r4 at *;obtain⟨e4,s4⟩:=r4;try dsimp only at WA
   go_wp2_with fail
   refine wp_region_held_drew (S:=fun w'=>w'.cell? ⟨L,0,none⟩=some (.pointer (some ⟨d,0,none⟩))) (by kernel_rfl) ?_ (fun hHeld=>?_)
   ·try dsimp only
    first|exact d0|exact d3|exact d4
   refine hT 0 ?_;refine hT 1 ?_;refine hT 2 ?_;refine hT 3 ?_;refine hT 4 ?_;refine hT 6 ?_;refine hT 7 ?_;refine hO 5 (fun K hK=>?_);go_simp
   first
    |(go_at_call 23
      refine(za FC).mono ?_;rintro e V8 ⟨rfl,v8⟩;have d3:=cell_later v8 d0;have B8:=zaa (show Below V2.heap.size V2 V8 from⟨v8.os,v8.tape,v8.output,v8.size,v8.block⟩)
      clear v8)
    |(go_at_call 106
      refine(za WC _ (za B8)).mono ?_;rintro e V9 ⟨rfl,dk9,as9⟩;have Z9:=zaa (((za Z2).later (za B8)).disk dk9 as9);have A9:=zaa (((za A2).trans (((za Z2).asdB (za B8)).sub (Bv:=Av) (fun g hg=>.inl hg))).trans ((((za Z2).later (za B8)).asd as9).sub (Bv:=Av) (fun g hg=>.inl hg)));have d4:=(za Z9).ptr.1
      clear dk9 as9)
   go_wp2_with fail
   refine hK.out _ _ ?_ (fun hHeld=>?_)
   ·try dsimp only
    first|exact d0|exact d3|exact d4
   clear hK K;refine hP ?_;refine hO 8 (fun K hK=>?_);go_simp
   first
    |(go_at_call 23
      refine(za FC).mono ?_;rintro e V8 ⟨rfl,v8⟩;have d3:=cell_later v8 d0;have B8:=zaa (show Below V2.heap.size V2 V8 from⟨v8.os,v8.tape,v8.output,v8.size,v8.block⟩)
      clear v8)
    |(go_at_call 106
      refine(za WC _ (za B8)).mono ?_;rintro e V9 ⟨rfl,dk9,as9⟩;have Z9:=zaa (((za Z2).later (za B8)).disk dk9 as9);have A9:=zaa (((za A2).trans (((za Z2).asdB (za B8)).sub (Bv:=Av) (fun g hg=>.inl hg))).trans ((((za Z2).later (za B8)).asd as9).sub (Bv:=Av) (fun g hg=>.inl hg)));have d4:=(za Z9).ptr.1
      clear dk9 as9)
   go_wp2_with fail
   refine hK.out _ _ ?_ (fun hHeld=>?_)
   ·try dsimp only
    first|exact d0|exact d3|exact d4
   clear hK K;refine hP ?_;refine hT 9 ?_;refine wpAnyH_done (by kernel_rfl) ?_ _
   have FE:=zaa (show zw Av base L d M room (N+2) w c ep ec hs wa (.returned (.int .i64 (e4:Int))) V9 by
    rw[za WA]
    exact⟨rfl,(za Z9).monoN (by omega) hN,(za A9)⟩)
   go_wp2
   go_ret
   exact za FE
  ·rw[if_neg h2] at WA;have h2':¬ (xn:Int)≤262144 - (k:Int):=by omega
   have h2'':262144 - (k:Int)<(xn:Int):=by omega
   have hwr:IntKind.i64.wrap (262144 - (k:Int))=262144 - (k:Int):=by
    rw[IntKind.wrap_i64];omega
   have hgt:decide (262144 - (k:Int)<(xn:Int))=true:=by simp;omega
   have AC:=zaa (zgl (za Z2) (show N+1≤1000000 by omega) (za Z2).ow (fun g hg=>.inr hg) (za Z2).ok (za Z2).le);obtain⟨⟨l1,l2,l3,l4,l5⟩,_⟩:=(za Z2).lg.cells 1 rfl;generalize zbm room n (za7 c) ss=r3 at *;obtain⟨e3,s3⟩:=r3;try dsimp only at WA
   generalize c.es.length=k2 at *;generalize c.bi=q1 at *;generalize c.bt=q2 at *;generalize c.ht=q3 at *;generalize c.hv=q4 at *
   go_wp2_with fail
   clear l1 l2 l3 l4 l5;go_at_call 59
   refine(za AC).mono ?_;rintro e V3 ⟨rfl,a3,y3,n3⟩;have A3:=zaa ((za A2).trans a3);have HB3:=zaa ((za HB2).asd a3 (za Z2).dk.le (fun g off e h0=>za HL g off e (by omega)));try dsimp only at y3 n3 ⊢
   by_cases h3:e3=0
   ·subst h3;rw[if_neg (by simp)] at WA;obtain⟨hn1,z3⟩:=y3 rfl;have Z3:=zaa (z3.sub (Bv:=Av) (fun g hg=>⟨hg,((za Z2).av g hg).2⟩));clear y3 n3 z3 a3 AC hwr hgt h2' h2'' h2;have c0:=(za Z3).ptr.1;have d0:V3.drew.cell? ⟨L,0,none⟩=some (.pointer (some ⟨d,0,none⟩)):=c0;have FC:=zaa (zay ((za Z3).later ((Below.refl _ _).drew)));have DC:=zaa (fun (W:World) (u:Below V3.heap.size V3 W)=>zia ((za Z3).dk.later u) (str (walNm (n+1))) (zg4 (n+1) hn1));rw[zam] at DC;have ZL:=zaa (show ∀ W,Below V3.heap.size V3 W→WAt Av base W L d M room (N+1) s3 c (n+1) ep ec hs from fun W u=>(za Z3).later u);have NS:=zg4 (n+1) hn1;generalize hNW1:str (walNm (n+1))=nm1 at *;generalize zex (walNm (n+1)) s3=e5 at *
    go_wp2_with fail
    refine wp_region_held_drew (S:=fun w'=>w'.cell? ⟨L,0,none⟩=some (.pointer (some ⟨d,0,none⟩))) (by kernel_rfl) ?_ (fun hHeld=>?_)
    ·try dsimp only
     first|exact d0|exact d1|exact d2
    refine hT 0 ?_;refine hT 1 ?_;refine hT 2 ?_;refine hT 3 ?_;refine hT 4 ?_;refine hO 5 (fun K hK=>?_);go_simp
    first
     |(go_at_call 23
       refine(za FC).mono ?_;rintro e V4 ⟨rfl,v4⟩;have d1:=cell_later v4 d0;have B4:=zaa (show Below V3.heap.size V3 V4 from⟨v4.os,v4.tape,v4.output,v4.size,v4.block⟩)
       clear v4)
     |(go_at_call 44
       refine(za DC _ (za B4)).mono ?_;rintro e V5 ⟨sp5,k5,rfl,hk5,hk6,o5,v5⟩;have d2:=cell_later v5 d1;have B5:=zaa ((za B4).trans (v5.mono (za B4).size));have HK5:=zaa hk5
       clear v5 o5 hk5)
    go_wp2_with fail
    refine hK.out _ _ ?_ (fun hHeld=>?_)
    ·try dsimp only
     first|exact d0|exact d1|exact d2
    clear hK K;refine hP ?_;refine hO 6 (fun K hK=>?_);go_simp
    first
     |(go_at_call 23
       refine(za FC).mono ?_;rintro e V4 ⟨rfl,v4⟩;have d1:=cell_later v4 d0;have B4:=zaa (show Below V3.heap.size V3 V4 from⟨v4.os,v4.tape,v4.output,v4.size,v4.block⟩)
       clear v4)
     |(go_at_call 44
       refine(za DC _ (za B4)).mono ?_;rintro e V5 ⟨sp5,k5,rfl,hk5,hk6,o5,v5⟩;have d2:=cell_later v5 d1;have B5:=zaa ((za B4).trans (v5.mono (za B4).size));have HK5:=zaa hk5
       clear v5 o5 hk5)
    go_wp2_with fail
    refine hK.out _ _ ?_ (fun hHeld=>?_)
    ·try dsimp only
     first|exact d0|exact d1|exact d2
    clear hK K;refine hP ?_;refine hT 7 ?_;refine hT 8 ?_;refine hT 9 ?_;refine hT 10 ?_;refine wpAnyH_done (by kernel_rfl) ?_ _;have Z5:=zaa ((za Z3).later (za B5));have A5:=zaa ((za A3).trans (((za Z3).asdB (za B5)).sub (Bv:=Av) (fun g hg=>.inl hg)));have HB5:=zaa ((za HB3).later (za B5));rw[za HK5] at WA;clear FC DC d0 c0 d1 d2;have c0:=(za Z5).ptr.1;have d0:V5.drew.cell? ⟨L,0,none⟩=some (.pointer (some ⟨d,0,none⟩)):=c0;have FC:=zaa (zay ((za Z5).later ((Below.refl _ _).drew)));have WC:=zaa (fun (W:World) (u:Below V5.heap.size V5 W)=>zgs ((za Z5).dk.later u) (show N+1+1≤1000000 by omega) (str (walNm (n+1))) (by rw[hNW1];exact NS) (k5:Int) (by omega) xp xn xc b ho hxc ((za HB5).later u) hx0 (fun g off e h0=>(za HL g off e h0).imp id .inl) hxl);rw[zam] at WC;rw[hNW1] at FC WC;generalize zai room (walNm (n+1)) (k5:Int) b s3=r4 at *;obtain⟨e4,s4⟩:=r4;try dsimp only at WA
    go_wp2_with fail
    refine wp_region_held_drew (S:=fun w'=>w'.cell? ⟨L,0,none⟩=some (.pointer (some ⟨d,0,none⟩))) (by kernel_rfl) ?_ (fun hHeld=>?_)
    ·try dsimp only
     first|exact d0|exact d3|exact d4
    refine hT 0 ?_;refine hT 1 ?_;refine hT 2 ?_;refine hT 3 ?_;refine hT 4 ?_;refine hT 6 ?_;refine hT 7 ?_;refine hO 5 (fun K hK=>?_);go_simp
    first
     |(go_at_call 23
       refine(za FC).mono ?_;rintro e V8 ⟨rfl,v8⟩;have d3:=cell_later v8 d0;have B8:=zaa (show Below V5.heap.size V5 V8 from⟨v8.os,v8.tape,v8.output,v8.size,v8.block⟩)
       clear v8)
     |(go_at_call 106
       refine(za WC _ (za B8)).mono ?_;rintro e V9 ⟨rfl,dk9,as9⟩;have Z9:=zaa (((za Z5).later (za B8)).disk dk9 as9);have A9:=zaa (((za A5).trans (((za Z5).asdB (za B8)).sub (Bv:=Av) (fun g hg=>.inl hg))).trans ((((za Z5).later (za B8)).asd as9).sub (Bv:=Av) (fun g hg=>.inl hg)));have d4:=(za Z9).ptr.1
       clear dk9 as9)
    go_wp2_with fail
    refine hK.out _ _ ?_ (fun hHeld=>?_)
    ·try dsimp only
     first|exact d0|exact d3|exact d4
    clear hK K;refine hP ?_;refine hO 8 (fun K hK=>?_);go_simp
    first
     |(go_at_call 23
       refine(za FC).mono ?_;rintro e V8 ⟨rfl,v8⟩;have d3:=cell_later v8 d0;have B8:=zaa (show Below V5.heap.size V5 V8 from⟨v8.os,v8.tape,v8.output,v8.size,v8.block⟩)
       clear v8)
     |(go_at_call 106
       refine(za WC _ (za B8)).mono ?_;rintro e V9 ⟨rfl,dk9,as9⟩;have Z9:=zaa (((za Z5).later (za B8)).disk dk9 as9);have A9:=zaa (((za A5).trans (((za Z5).asdB (za B8)).sub (Bv:=Av) (fun g hg=>.inl hg))).trans ((((za Z5).later (za B8)).asd as9).sub (Bv:=Av) (fun g hg=>.inl hg)));have d4:=(za Z9).ptr.1
       clear dk9 as9)
    go_wp2_with fail
    refine hK.out _ _ ?_ (fun hHeld=>?_)
    ·try dsimp only
     first|exact d0|exact d3|exact d4
    clear hK K;refine hP ?_;refine hT 9 ?_;refine wpAnyH_done (by kernel_rfl) ?_ _
    have FE:=zaa (show zw Av base L d M room (N+2) w c ep ec hs wa (.returned (.int .i64 (e4:Int))) V9 by
     rw[za WA]
     exact⟨rfl,(za Z9).monoN (by omega) hN,(za A9)⟩)
    go_wp2
    go_ret
    exact za FE
   ·rw[if_pos h3] at WA;have h3':((e3:Int)==0)=false:=by simp;omega
    have h3'':¬ (e3:Int)=0:=by omega
    have FE:=zaa (show zw Av base L d M room (N+2) w c ep ec hs wa (.returned (.int .i64 (e3:Int))) V3 by
     rw[za WA]
     exact⟨rfl,(n3 h3).monoN (by omega) hN,za A3⟩)
    clear y3 n3 a3
    go_wp2
    go_ret
    exact za FE
 ·subst h1;rw[if_pos (by simp)] at WA
  have FE:=zaa (show zw Av base L d M room (N+2) w c ep ec hs wa (.returned (.int .i64 8)) V2 by
   rw[za WA]
   exact⟨rfl,(za Z2).monoN (by omega) hN,(za A2)⟩)
  go_wp2
  go_ret
  exact za FE
end
end
end Go.Proofs.YtofllbpfajppeaaGreatDoor
