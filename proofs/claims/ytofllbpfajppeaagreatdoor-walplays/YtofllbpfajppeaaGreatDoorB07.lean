/- Disk: what must be whatever is asked (live). -/
import Derived.Test.YtofllbpfajppeaaGreatDoorB06
import Derived.Lib.SlBytesConst
import Derived.SliceStrings
import Derived.Laws.BitsAllLaws
import Derived.Test.YtofllbpfajppeaaGreatDoorB01
import Derived.Laws.Bits128
import Derived.Laws.Pointers
set_option linter.unusedVariables false
set_option maxRecDepth 20000
set_option maxHeartbeats 16000000
namespace Go.Proofs.YtofllbpfajppeaaGreatDoor
section
open Go.ChangeShapes Go.WideShapes Go.ChangeAt Go.RowKit Go.Maps
theorem DGrew.below {base d M room N:Nat} {w w':World} {fs fs':List Fe} (h:DiskAt base w d M room N fs) (hbs:base≤w.heap.size) (hg:DGrew d M w fs w' fs'):Below base w w' :=
 ⟨hg.os,hg.tape,hg.output,hg.size,fun i hi=>hg.block i (by omega) (fun hm=>by have:=(h.mut_lt hm).1;omega)⟩
theorem zw8 (W:World) (l:List Nat) (fr:Nat×Nat) (hl:∀ c∈l,c<256):BytesAt (W.alloc (.cells (l.map zbb).toArray 5 fr)) (some ⟨W.heap.size,0,none⟩) l:=by
 refine⟨hl,fun i hi=>⟨W.heap.size,0,rfl,?_⟩⟩;rw[cell_of_row _ _ _ _ _ _ (zad W _),Nat.zero_add];simp[hi];rfl
def zfv (base:Nat) (w:World) (sp:Option Addr) (c:Nat) (l:List Nm):Prop:=w.ownsRow base 9 1 (.slice sp l.length c) l.length (l.map encStr)
section
variable {base:Nat} {w w':World} {sp:Option Addr} {c:Nat} {l:List Nm}
theorem zfv.ofNil (base:Nat) (w:World):zfv base w none 0 []:=w.ownsRow_nil base 9 1
theorem zfv.blk_is (h:zfv base w sp c l):∀ g,blk sp=some g→base≤g∧g<w.heap.size∧∃ cur:Array Value,w.heap[g]? = some (.cells cur 9 (0,0)):=by
 intro g hg;rcases h.2 with⟨hv,_⟩|⟨g1,cap,cur,hv,hb,hh,_⟩
 ·simp only[Value.slice.injEq] at hv;rw[hv.1] at hg;cases hg
 ·simp only[Value.slice.injEq] at hv;rw[hv.1] at hg;obtain rfl:g1=g:=by simpa [blk] using hg
  exact⟨hb,(Array.getElem?_eq_some_iff.1 hh).1,_,hh⟩
theorem zfv.same (h:zfv base w sp c l) (hs:∀ g,blk sp=some g→w'.heap[g]? = w.heap[g]?):zfv base w' sp c l:=by
 refine⟨h.1,?_⟩;rcases h.2 with hv|⟨g,cap,cur,hv,hb,hg,r⟩
 ·exact .inl hv
 ·refine .inr ⟨g,cap,cur,hv,hb,(hs g ?_).trans hg,r⟩;simp only[Value.slice.injEq] at hv;rw[hv.1];rfl
theorem zfv.later (h:zfv base w sp c l) (hb:Below w.heap.size w w'):zfv base w' sp c l:=h.same (fun g hg=>hb.block g (h.blk_is g hg).2.1)
theorem zfv.mono {base':Nat} (h:zfv base w sp c l) (hb:base'≤base):zfv base' w sp c l:=⟨h.1,h.2.imp id (fun ⟨g,cap,cur,h1,h2,h3⟩=>⟨g,cap,cur,h1,Nat.le_trans hb h2,h3⟩)⟩
theorem zfv.cell (h:zfv base w sp c l) (i:Nat) (hi:i<l.length):∃ g,sp=some ⟨g,0,none⟩∧w.cell? ⟨g,i,none⟩=some (.string (str l[i])):=by
 obtain⟨sp2,c2,hv,hc⟩:=zkw h rfl;simp only[Value.slice.injEq] at hv;obtain⟨g,hs,_,_,hcell⟩:=hc i hi;exact⟨g,by rw[hv.1,hs],hcell w rfl⟩
theorem infoN:(Tryz.prog.info? 9).map (fun i=>(i.zero,i.size,i.bytes))=some (some (.string ByteArray.empty),1,16):=by kernel_rfl
theorem zso (hown:zfv base w sp c l) (B:Nat) (x:Nm) (hB:w.heap[B]? = some (.cells #[.string (str x)] 9 (0,0))) (hn:(l.length+1)*16≤140737488355328) (hbase:base≤w.heap.size) (ty:TypeId) :
  ∃ sp' c' w',(Builtin.append_ #[73,73] ty #[.slice sp l.length c,.slice (some ⟨B,0,none⟩) 1 1]).run Tryz.prog w=.ok (.slice sp' (l.length+1) c') w'∧zfv base w' sp' c' (l++[x])∧Grew w sp w' sp':=by
 obtain⟨i0,hi,hz0,hz1,hz2⟩:=info_parts infoN;obtain⟨v',w',hrun,h1,h2,_,h5⟩:=run_append_own_at (P:=Tryz.prog) w base 73 ty 9 i0 _ 1 16 Tryz.underlying73 hi hz0 hz1 hz2 rfl (by omega) _ _ _ hown ⟨B,0,none⟩ 1 1 [.string (str x)] rfl
  (fun j u hu=>by have:=World.news_of_block hB j u;simp only at this;exact this hu) (by intro u hu;simp at hu;subst hu;rfl) (by simp only[maxLen];omega) (by omega) hbase
 have hv:∃ sp' c',v'=.slice sp' (l.length+1) c':=by
  rcases h1.2 with⟨hv,h0⟩|⟨g,cap,cur,hv,_⟩
  ·omega
  ·exact⟨_,_,hv⟩
 obtain⟨sp',c',rfl⟩:=hv;rw[zal] at h2;rw[zal,zal] at h5;refine⟨sp',c',w',hrun,?_,⟨h2,fun g hg=>?_⟩⟩
 ·show w'.ownsRow base 9 1 (.slice sp' (l++[x]).length c') (l++[x]).length ((l++[x]).map encStr)
  rw[List.map_append,List.length_append];exact h1
 ·rcases h5 with h5|h5
  ·exact .inl (h5.symm.trans hg)
  ·rw[h5] at hg;exact .inr (Nat.le_of_eq (Option.some.inj hg))
end
theorem zh7 {w:World} {ops:Array Oper} {rest:List Oper} {o:Oper} {a:Act} {Q:Exit→Act→World→Prop} (hgd:o.guard=none) (s x:Operand)
  (ho:o.op=.call { callee:=.builtin .append,args:=#[s,x],argTypes:=#[73,73] })
  (base:Nat) (sp:Option Addr) (n c:Nat) (l:List Nm) (hs:a.eval s=.slice sp n c) (hn:l.length=n) (hown:zfv base w sp c l) (B:Nat) (t:Nm) (hx:a.eval x=.slice (some ⟨B,0,none⟩) 1 1)
  (hB:w.heap[B]? = some (.cells #[.string (str t)] 9 (0,0))) (hsz:(n+1)*16≤140737488355328) (hbase:base≤w.heap.size)
  (hk:∀ sp' c' w',zfv base w' sp' c' (l++[t])→Grew w sp w' sp'→wpList Tryz.prog ops Q rest (a.put o.dst (.slice sp' (n+1) c')) w') :
  wpList Tryz.prog ops Q (o::rest) a w:=by
 subst hn;refine wpList_plain hgd fun K hK=>?_;obtain⟨sp',c',w',hrun,h1,h2⟩:=zso hown B t hB hsz hbase o.type;unfold Oper.wp;simp[execOp,ho,resolve,invoke,builtin,hs,hx,hrun,Result.andThen];exact hK _ _ (hk sp' c' w' h1 h2)
theorem zrw (c:Array Value) (w:World):(callFunc 79 c).run Tryz.prog w=.ok (.enter 79 c) w:=by
 simp[callFunc,go_sem,Tryz.func79];rw[if_neg (by decide +kernel),if_neg (fun h=>by cases h)]
theorem zp4 (base:Nat) (x:Nm) (F V:Nat) (sp:Option Addr) (n c:Nat) (l:List Nm) (w:World) (hn:l.length=n) (hV:w.heap[V]? = some (.cells #[.slice sp n c] 73 (0,0))) (ho:zfv base w sp c l) (hl:n≤1000) (hbs:base≤w.heap.size) :
  Calls Tryz.prog 79 #[.string (str x),.pointer (some ⟨F,0,none⟩),.pointer (some ⟨V,0,none⟩)] w fun e w'=>e=.returned (.tuple #[])∧∃ sp' c',w'.heap[V]? = some (.cells #[.slice sp' (n+1) c'] 73 (0,0))∧zfv base w' sp' c' (l++[x])∧(∀ g,g<w.heap.size→g≠V→blk sp≠some g→w'.heap[g]? = w.heap[g]?)∧w'.os=w.os∧w'.tape=w.tape∧w'.output=w.output∧w.heap.size≤w'.heap.size∧(∀ g,blk sp'=some g→blk sp=some g∨w.heap.size≤g):=by
 have c0:=zan hV 0 (.slice sp n c) rfl;have A1:=zaa (show Below w.heap.size w (w.alloc (.cells #[.string (str x)] 9)) from(Below.refl _ _).alloc (Nat.le_refl _) _);have O1:=zaa (ho.later (za A1));have HV:=zaa hV;have HO:=zaa ho;have HN:=zaa hn;have HB:=zaa hbs;clear hV ho hn hbs;go_enter Tryz.func79,Tryz.ntmps79
 go_wp2_with (at_builtin;refine za ?_)
 refine zaa ?_;refine zh7 rfl (.tmp 5) (.tmp 7) rfl base sp n c l rfl (za HN) (za O1) w.heap.size x rfl (zad w _) (by omega) (Nat.le_trans (za HB) (za A1).size) ?_;intro sp2 c2 W2 ho2 hg2;have hVn:blk sp≠some V:=fun e=>by
  obtain⟨_,_,cur,hc⟩:=(za HO).blk_is V e;rw[za HV] at hc;simp at hc
 have hV2:W2.heap[V]? = some (.cells #[.slice sp n c] 73 (0,0)):=by
  have hlt:=(Array.getElem?_eq_some_iff.1 (za HV)).1;rw[hg2.grown.block V (Nat.lt_of_lt_of_le hlt (za A1).size) (fun e=>hVn e.symm),(za A1).block V hlt];exact za HV
 have d0:=zan hV2 0 (.slice sp n c) rfl;have z0:=zio hV2 0;have HV2:=zaa hV2;have HG2:=zaa hg2;have HO2:=zaa ho2;have HVN:=zaa hVn;clear hV2 hg2 ho2 hVn
 go_wp2
 go_end0
 have hs:=heap_setCell_same W2 V 0 #[.slice sp n c] 73 (.slice sp2 (n+1) c2) (za HV2);refine⟨rfl,sp2,c2,hs,(za HO2).same (fun g hg=>heap_setCell_other _ ⟨V,0,none⟩ g _ (fun e=>?_)),fun g h1 h2 h3=>?_,(za HG2).grown.os,(za HG2).grown.tape,(za HG2).grown.output,?_,fun g hg=>?_⟩
 ·obtain⟨_,_,cur,hc⟩:=(za HO2).blk_is g hg;have e2:g=V:=e;rw[e2,za HV2] at hc;simp at hc
 ·rw[heap_setCell_other _ ⟨V,0,none⟩ g _ h2,(za HG2).grown.block g (Nat.lt_of_lt_of_le h1 (za A1).size) (fun e=>h3 e.symm)];exact(za A1).block g h1
 ·have h1:=(za HG2).grown.size;have h2:=(za A1).size;simp only[World.setCell] at *;simp;omega
 ·rcases(za HG2).lies g hg with h1|h1
  ·exact .inl h1
  ·exact .inr (Nat.le_trans (za A1).size h1)
theorem zpm {base d M room N:Nat} {w:World} {fs:List Fe} (h:DiskAt base w d M room N fs):Calls Tryz.prog 41 #[.pointer (some ⟨d,0,none⟩)] w fun e w'=>∃ sp n c,e=.returned (.slice sp n c)∧fs.length=n∧zfv w.heap.size w' sp c (fs.map (·.1))∧Below w.heap.size w w':=by
 have b0:Below w.heap.size w (w.alloc (.cells #[.slice none 0 0] 73)):=(Below.refl _ _).alloc (Nat.le_refl _) _;have hW:(w.alloc (.cells #[.slice none 0 0] 73)).heap.size=w.heap.size+1:=by simp
 have hU0:=zad w (.cells #[.slice none 0 0] 73)
 have EC:=zaa (zja base d M room N (w.alloc (.cells #[.slice none 0 0] 73)) fs (h.later b0) 79 #[.pointer (some ⟨w.heap.size,0,none⟩)] zrw
  (fun w'=>∃ sp c,w'.heap[w.heap.size]? = some (.cells #[.slice sp fs.length c] 73 (0,0))∧zfv w.heap.size w' sp c (fs.map (·.1))∧Below w.heap.size w w') (fun W0 hb=>by
   have hbW:Below w.heap.size w W0:=b0.trans (hb.mono b0.size);have hW0:=hb.size;refine⟨fun i w1=>∃ sp c,w1.heap[w.heap.size]? = some (.cells #[.slice sp i c] 73 (0,0))∧i≤fs.length∧zfv W0.heap.size w1 sp c ((fs.map (·.1)).take i)∧(∀ g,g<W0.heap.size→g≠w.heap.size→w1.heap[g]? = W0.heap[g]?)∧w1.os=W0.os∧w1.tape=W0.tape∧w1.output=W0.output∧W0.heap.size≤w1.heap.size,?_,?_,?_,?_⟩
   ·refine⟨none,0,?_,by omega,zfv.ofNil _ _,fun _ _ _=>rfl,rfl,rfl,rfl,Nat.le_refl _⟩;rw[hb.block w.heap.size (by omega)];exact hU0
   ·rintro i w1 ⟨sp,c,_,_,_,hs,_⟩ g hg1 hg2;exact hs g hg2 (by omega)
   ·rintro i hi w1 ⟨sp,c,hV,hil,ho,hs,hos,hta,hou,hsz⟩;have hss:∀ g,g<w.heap.size→w1.heap[g]? = w.heap[g]?:=fun g hlt=>(hs g (Nat.lt_of_lt_of_le hlt hbW.size) (by omega)).trans (hbW.block g hlt);have h1:=h.still hss;refine⟨h1.c1,h1.lookAt i hi,?_⟩;have h16:=h.few;refine(zp4 W0.heap.size fs[i].1 fs[i].2.1 w.heap.size sp i c ((fs.map (·.1)).take i) w1 (by simp;omega) hV ho (by omega) hsz).mono ?_;rintro e w2 ⟨rfl,sp',c',hV2,ho2,hs2,hos2,hta2,hou2,hsz2,hl2⟩;refine⟨rfl,sp',c',hV2,by omega,?_,fun g h2 h3=>(hs2 g (Nat.lt_of_lt_of_le h2 hsz) h3 (fun e=>?_)).trans (hs g h2 h3),hos2.trans hos,hta2.trans hta,hou2.trans hou,Nat.le_trans hsz hsz2⟩
    ·rw[List.take_succ_eq_append_getElem (by simpa using hi),List.getElem_map];exact ho2
    ·have:=(ho.blk_is g e).1;omega
   ·rintro w1 ⟨sp,c,hV,_,ho,hs,hos,hta,hou,hsz⟩;rw[List.take_of_length_le (by simp)] at ho
    exact⟨sp,c,hV,ho.mono hbW.size,hos.trans hbW.os,hta.trans hbW.tape,hou.trans hbW.output,Nat.le_trans hbW.size hsz,fun g hg=>(hs g (Nat.lt_of_lt_of_le hg hbW.size) (by omega)).trans (hbW.block g hg)⟩))
 clear h b0 hW hU0;go_enter Tryz.func41,Tryz.ntmps41
 go_wp2_with (go_at_call 54;refine(za EC).mono ?_;rintro e W ⟨rfl,sp,c,hU,hO,hB⟩;have c0:=zan hU 0 _ rfl;have HB:=zaa hB;have HO:=zaa hO;clear hU hB hO)
 go_ret
 exact⟨sp,_,c,rfl,rfl,za HO,za HB⟩
theorem zgf (s:ByteArray) (w:World) (hs:s.size≤maxLen):Calls Tryz.prog 144 #[.string s] w fun e w'=>e=.returned (.bool (zgd s.data.toList))∧w'=w:=by
 have hlen:s.data.toList.length=s.size:=by simp
 simp only[maxLen] at hs;go_enter Tryz.func144,Tryz.ntmps144
 go_wp2_with fail
 go_loopw [3] (fun i wr=>∃ j:Nat,j≤s.size∧i=.int .i64 (j:Int)∧Hid ((s.data.toList.take j).all (fun b=>stands b.toNat)=true)∧Hid (wr=w)) (fun i _=>s.size - (intOf i).toNat)
 case atStart=>exact⟨0,by omega,rfl,by exact zaa (by simp),zaa rfl⟩
 case round =>
  obtain⟨j,hj,rfl,HA,HW⟩:=hrel;have hW:=za HW;subst hW;by_cases hjn:j<s.size
  ·have hj0:(0:Int)≤(j:Int):=by omega
   have hj1:(j:Int)<(s.size:Int):=by omega
   obtain⟨b,hb⟩:∃ b:Nat,s[j].toNat=b:=⟨_,rfl⟩
   have hjl:j<s.data.toList.length:=by omega
   have hsj:s.data.toList[j]=s[j]:=rfl
   have HY:=zaa (show stands b=true→(s.data.toList.take (j+1)).all (fun b=>stands b.toNat)=true from fun hp=>by
    rw[List.take_succ_eq_append_getElem hjl,List.all_append,za HA,hsj];simp[hb,hp])
   have HN:=zaa (show stands b=false→zgd s.data.toList=false from fun hp=>by
    have:s.data.toList.all (fun b=>stands b.toNat)=false:=by
     rw[List.all_eq_false];exact⟨s[j],hsj ▸ List.getElem_mem hjl,by simp[hb,hp]⟩
    simp[zgd,this])
   clear hsj;rcases(show(97≤b∧b≤122)∨(48≤b∧b≤57)∨b=45∨b=46∨(b<48∧b≠45∧b≠46)∨(57<b∧b<97)∨122<b by omega) with⟨x1,x2⟩|⟨x1,x2⟩|rfl|rfl|⟨x1,x2,x3⟩|⟨x1,x2⟩|x1
   ·have y1:(97:Int)≤(b:Int):=by omega
    have y2:(b:Int)≤122:=by omega
    go_wp2
    exact⟨⟨j+1,by omega,by go_num,za HY (by simp[stands];try omega),by first|exact zaa trivial|exact zaa rfl⟩,by simp[intOf];omega⟩
   ·have y1:¬ (97:Int)≤(b:Int):=by omega
    have y2:(48:Int)≤(b:Int):=by omega
    have y3:(b:Int)≤57:=by omega
    go_wp2
    exact⟨⟨j+1,by omega,by go_num,za HY (by simp[stands];try omega),by first|exact zaa trivial|exact zaa rfl⟩,by simp[intOf];omega⟩
   ·go_wp2
    exact⟨⟨j+1,by omega,by go_num,za HY (by simp[stands];try omega),by first|exact zaa trivial|exact zaa rfl⟩,by simp[intOf];omega⟩
   ·go_wp2
    exact⟨⟨j+1,by omega,by go_num,za HY (by simp[stands];try omega),by first|exact zaa trivial|exact zaa rfl⟩,by simp[intOf];omega⟩
   ·have y1:¬ (97:Int)≤(b:Int):=by omega
    have y2:¬ (48:Int)≤(b:Int):=by omega
    have y3:¬ (b:Int)=45:=by omega
    have z45:((b:Int) != 45)=true:=by simp;omega
    have y4:¬ (b:Int)=46:=by omega
    have z46:((b:Int) != 46)=true:=by simp;omega
    go_wp2
    go_ret
    exact⟨by rw[za HN (by simp[stands];omega)];rfl,rfl⟩
   ·have y1:¬ (97:Int)≤(b:Int):=by omega
    have y2:(48:Int)≤(b:Int):=by omega
    have y3:¬ (b:Int)≤57:=by omega
    have y4:¬ (b:Int)=45:=by omega
    have z45:((b:Int) != 45)=true:=by simp;omega
    have y5:¬ (b:Int)=46:=by omega
    have z46:((b:Int) != 46)=true:=by simp;omega
    go_wp2
    go_ret
    exact⟨by rw[za HN (by simp[stands];omega)];rfl,rfl⟩
   ·have y1:(97:Int)≤(b:Int):=by omega
    have y2:(48:Int)≤(b:Int):=by omega
    have y3:¬ (b:Int)≤57:=by omega
    have y4:¬ (b:Int)=45:=by omega
    have z45:((b:Int) != 45)=true:=by simp;omega
    have y5:¬ (b:Int)=46:=by omega
    have z46:((b:Int) != 46)=true:=by simp;omega
    have y6:¬ (b:Int)≤122:=by omega
    go_wp2
    go_ret
    exact⟨by rw[za HN (by simp[stands];omega)];rfl,rfl⟩
  ·have h3:=za HA;rw[List.take_of_length_le (by omega)] at h3
   have HN:=zaa (show zgd s.data.toList=(decide (1≤s.size)&&decide (s.size≤64)) by
    simp only[zgd,h3,Bool.and_true,hlen])
   have hj2:¬ (j:Int)<(s.size:Int):=by omega
   clear h3;by_cases g1:1≤s.size
   ·have g2:(1:Int)≤(s.size:Int):=by omega
    by_cases g3:s.size≤64
    ·have g4:(s.size:Int)≤64:=by omega
     go_wp2
     go_ret
     exact⟨by rw[za HN];simp[g1,g3],rfl⟩
    ·have g4:¬ (s.size:Int)≤64:=by omega
     go_wp2
     go_ret
     exact⟨by rw[za HN];simp[g3],rfl⟩
   ·have g2:¬ (1:Int)≤(s.size:Int):=by omega
    go_wp2
    go_ret
    exact⟨by rw[za HN];simp[g1],rfl⟩
structure DAt (Av:Nat→Prop) (base:Nat) (w:World) (d M room N:Nat) (ss:Ds):Prop where
 le:base≤w.heap.size
 few:N≤1000000
 at_:∃ fs,DiskAt base w d M room N fs∧sps fs=ss∧∀ g,Av g→g<w.heap.size∧¬ znr d M fs g∧¬ zua fs g
section
variable {Av Bv:Nat→Prop} {base d M room N:Nat} {w w':World} {ss:Ds}
theorem DAt.av (h:DAt Av base w d M room N ss) (hb:∀ g,Bv g→Av g):DAt Bv base w d M room N ss:=by
 obtain⟨fs,h1,h2,h3⟩:=h.at_;exact⟨h.le,h.few,fs,h1,h2,fun g hg=>h3 g (hb g hg)⟩
theorem DAt.later (h:DAt Av base w d M room N ss) (hb:Below w.heap.size w w'):DAt Av base w' d M room N ss:=by
 obtain⟨fs,h1,h2,h3⟩:=h.at_;exact⟨Nat.le_trans h.le hb.size,h.few,fs,h1.later hb,h2,fun g hg=>⟨Nat.lt_of_lt_of_le (h3 g hg).1 hb.size,(h3 g hg).2⟩⟩
theorem DAt.mono {N':Nat} (h:DAt Av base w d M room N ss) (hN:N≤N') (hf:N'≤1000000):DAt Av base w d M room N' ss:=by
 obtain⟨fs,h1,h2,h3⟩:=h.at_;exact⟨h.le,hf,fs,h1.mono hN,h2,h3⟩
theorem DAt.more (h:DAt Av base w d M room N ss) (hb:Below w.heap.size w w'):DAt (fun g=>Av g∨(w.heap.size≤g∧g<w'.heap.size)) base w' d M room N ss:=by
 obtain⟨fs,h1,h2,h3⟩:=h.at_;refine⟨Nat.le_trans h.le hb.size,h.few,fs,h1.later hb,h2,fun g hg=>?_⟩;rcases hg with hg|⟨g1,g2⟩
 ·exact⟨Nat.lt_of_lt_of_le (h3 g hg).1 hb.size,(h3 g hg).2⟩
 ·refine⟨g2,fun hm=>?_,fun hm=>?_⟩
  ·have:=(h1.mut_lt hm).2;omega
  ·have:=(h1.red_lt hm).2;omega
theorem DAt.aside (h:DAt Av base w d M room N ss) (hs:∀ g,g<w.heap.size→¬ Av g→w'.heap[g]? = w.heap[g]?) (hz:w.heap.size≤w'.heap.size):DAt Av base w' d M room N ss:=by
 obtain⟨fs,h1,h2,h3⟩:=h.at_;refine⟨Nat.le_trans h.le hz,h.few,fs,h1.same (fun g hg hm=>hs g hg (fun ha=>?_)),h2,fun g hg=>⟨Nat.lt_of_lt_of_le (h3 g hg).1 hz,(h3 g hg).2⟩⟩;rcases hm with hm|hm
 ·exact(h3 g ha).2.1 hm
 ·exact(h3 g ha).2.2 hm
theorem DAt.lt (h:DAt Av base w d M room N ss) {g:Nat} (hg:Av g):g<w.heap.size:=by
 obtain⟨fs,h1,h2,h3⟩:=h.at_;exact(h3 g hg).1
theorem DAt.rise (h:DAt Av base w d M room N ss):zbf ss:=by
 obtain⟨fs,h1,rfl,_⟩:=h.at_;exact h1.riseS
theorem DAt.len (h:DAt Av base w d M room N ss):ss.length≤16:=by
 obtain⟨fs,h1,rfl,_⟩:=h.at_;rw[List.length_map];exact h1.few
theorem DAt.nmlen (h:DAt Av base w d M room N ss):∀ x∈ss,x.1.length≤64:=by
 obtain⟨fs,h1,rfl,_⟩:=h.at_;intro x hx;obtain⟨y,hy,rfl⟩:=List.mem_map.1 hx;exact h1.names y hy
structure Asd (Av:Nat→Prop) (base:Nat) (w w':World):Prop where
 av:∀ g,Av g→w'.heap[g]? = w.heap[g]?
 bel:Below base w w'
theorem Asd.refl (Av:Nat→Prop) (base:Nat) (w:World):Asd Av base w w:=⟨fun _ _=>rfl,Below.refl _ _⟩
theorem Asd.trans {w2:World} (h:Asd Av base w w') (k:Asd Av base w' w2):Asd Av base w w2:=⟨fun g hg=>(k.av g hg).trans (h.av g hg),h.bel.trans k.bel⟩
theorem Asd.of (hd:∀ g,Av g→g<w.heap.size) (hle:base≤w.heap.size) (hb:Below w.heap.size w w'):Asd Av base w w':=⟨fun g hg=>hb.block g (hd g hg),hb.mono hle⟩
theorem Asd.sub (h:Asd Av base w w') (hs:∀ g,Bv g→Av g):Asd Bv base w w':=⟨fun g hg=>h.av g (hs g hg),h.bel⟩
def zu (Av:Nat→Prop) (base d M room N:Nat) (w:World) (r:Nat×Ds) (e:Ending) (w':World):Prop:=e=.returned (.int .i64 (r.1:Int))∧DAt Av base w' d M room N r.2∧Asd Av base w w'
theorem zu.of {r:Nat×Ds} {e:Ending} {fs:List Fe} (h:DiskAt base w d M room N fs) (hb:base≤w.heap.size) (hav:∀ g,Av g→g<w.heap.size∧¬ znr d M fs g∧¬ zua fs g) {N':Nat} (hN:N'≤1000000) (hE:zh9 base d M room N' w fs r e w'):zu Av base d M room N' w r e w':=by
 obtain⟨he,fs',h1,hg,hs⟩:=hE;refine⟨he,⟨Nat.le_trans hb hg.size,hN,fs',h1,hs,fun g ha=>?_⟩,fun g ha=>hg.block g (hav g ha).1 (hav g ha).2.1,DGrew.below h hb hg⟩;obtain⟨a1,a2,a3⟩:=hav g ha;refine⟨Nat.lt_of_lt_of_le a1 hg.size,fun hm=>?_,fun hm=>?_⟩
 ·rcases hg.muts g hm with q|q
  ·exact a2 q
  ·omega
 ·rcases hg.reds g hm with q|q
  ·exact a3 q
  ·omega
theorem zmi (w:World) (z:Int):Calls Tryz.prog 25 #[.int .i64 z] w fun e w'=>∃ d M,e=.returned (.pointer (some ⟨d,0,none⟩))∧DAt (fun _=>False) w.heap.size w' d M z.toNat 0 []∧Below w.heap.size w w':=by
 refine(zum (base:=w.heap.size) w (Nat.le_refl _) z).mono ?_;rintro e W ⟨rfl,h,b⟩;exact⟨_,_,rfl,⟨b.size,by omega,[],h,rfl,fun g hg=>hg.elim⟩,b⟩
theorem zgs (h:DAt Av base w d M room N ss) (hN:N+1≤1000000) (s:ByteArray) (hs:s.size≤maxLen) (z:Int) (hz64:z≤9223372036854775807) (xp:Option Addr) (xn xc:Nat) (o:List Nat) (ho:o.length=xn) (hxc:xn≤xc) (hB:BytesAt w xp o) (hx0:xp=none→xc=0) (hlo:∀ b off,xp=some ⟨b,off,none⟩→0<xn→b<base∨Av b) (hxl:xn≤140737488355328) :
  Calls Tryz.prog 106 #[.pointer (some ⟨d,0,none⟩),.string s,.int .i64 z,.slice xp xn xc] w (zu Av base d M room (N+1) w (zai room s.data.toList z o ss)):=by
 obtain⟨fs,h1,rfl,h3⟩:=h.at_;refine(zpo h1 h.le h.few s hs z hz64 xp xn xc o ho hxc hB hx0 (fun b off e h0 hm=>?_) hxl).mono fun e w' hE=>zu.of h1 h.le h3 hN hE;have:=(h1.mut_lt hm).1;rcases hlo b off e h0 with q|q
 ·omega
 ·exact(h3 b q).2.1 hm
theorem zkf (h:DAt Av base w d M room N ss) (s:ByteArray) (hs:s.size≤maxLen) :
  Calls Tryz.prog 52 #[.pointer (some ⟨d,0,none⟩),.string s] w (zu Av base d M room N w (zax s.data.toList ss)):=by
 obtain⟨fs,h1,rfl,h3⟩:=h.at_;exact(zrt h1 h.le s hs).mono fun e w' hE=>zu.of h1 h.le h3 h.few hE
theorem zud (h:DAt Av base w d M room N ss) (hN:N+1≤1000000) (s:ByteArray) (hs:s.size≤maxLen) (z:Int) :
  Calls Tryz.prog 96 #[.pointer (some ⟨d,0,none⟩),.string s,.int .i64 z] w (zu Av base d M room (N+1) w (zf s.data.toList z ss)):=by
 obtain⟨fs,h1,rfl,h3⟩:=h.at_;exact(zuk h1 h.le h.few s hs z).mono fun e w' hE=>zu.of h1 h.le h3 hN hE
theorem zf8 (h:DAt Av base w d M room N ss) (s:ByteArray) (hs:s.size≤maxLen) :
  Calls Tryz.prog 91 #[.pointer (some ⟨d,0,none⟩),.string s] w (zu Av base d M room N w (zat s.data.toList ss)):=by
 obtain⟨fs,h1,rfl,h3⟩:=h.at_;exact(zn0 h1 s hs).mono fun e w' hE=>zu.of h1 h.le h3 h.few hE
theorem zil (h:DAt Av base w d M room N ss) (a b:ByteArray) (ha:a.size≤maxLen) (hb:b.size≤maxLen) :
  Calls Tryz.prog 122 #[.pointer (some ⟨d,0,none⟩),.string a,.string b] w (zu Av base d M room N w (zak a.data.toList b.data.toList ss)):=by
 obtain⟨fs,h1,rfl,h3⟩:=h.at_;exact(zn1 h1 a b ha hb).mono fun e w' hE=>zu.of h1 h.le h3 h.few hE
theorem zfd (h:DAt Av base w d M room N ss) (kp:Option Addr) (kn kc:Nat) (ks:List Int) (hks:ks.length=kn) (hI:IntsAt w kp ks) (hlo:∀ b off,kp=some ⟨b,off,none⟩→0<ks.length→b<base∨Av b) :
  Calls Tryz.prog 20 #[.pointer (some ⟨d,0,none⟩),.slice kp kn kc] w fun e w'=>e=.returned (.tuple #[])∧DAt Av base w' d M room N (za5 ks 0 ss)∧Asd Av base w w':=by
 obtain⟨fs,h1,rfl,h3⟩:=h.at_;refine(zpk h1 h.le h.few kp kn kc ks hks hI (fun b off e h0 hm=>?_)).mono ?_
 ·have:=(h1.mut_lt hm).1;rcases hlo b off e h0 with q|q
  ·omega
  ·exact(h3 b q).2.1 hm
 ·rintro e W ⟨rfl,fs',h2,hg,hs⟩;have hE:zh9 base d M room N w fs (0,za5 ks 0 (sps fs)) (.returned (.int .i64 ((0:Nat):Int))) W:=⟨rfl,fs',h2,hg,hs⟩
  obtain⟨_,q1,q2⟩:=zu.of h1 h.le h3 h.few hE;exact⟨rfl,q1,q2⟩
theorem zpe (h:DAt Av base w d M room N ss) (s:ByteArray) (hs:s.size≤maxLen) (x:Sp) (hx:zcc s.data.toList ss=some x) :
  Calls Tryz.prog 44 #[.pointer (some ⟨d,0,none⟩),.string s] w fun e w'=>∃ sp n,e=.returned (.tuple #[.slice sp n n,.int .i64 0])∧x.now.length=n∧n≤262144∧Bx w.heap.size w' sp n x.now∧Below w.heap.size w w':=by
 obtain⟨fs,h1,rfl,_⟩:=h.at_;rw[zgj,Option.map_eq_some_iff] at hx;obtain⟨⟨F,f⟩,hx,rfl⟩:=hx;exact zwp h1 s hs F f hx
theorem zys (h:DAt Av base w d M room N ss) (s:ByteArray) (hs:s.size≤maxLen) (hx:zcc s.data.toList ss=none) :
  Calls Tryz.prog 44 #[.pointer (some ⟨d,0,none⟩),.string s] w fun e w'=>e=.returned (.tuple #[.slice none 0 0,.int .i64 8])∧w'=w:=by
 obtain⟨fs,h1,rfl,_⟩:=h.at_;rw[zgj,Option.map_eq_none_iff] at hx;exact zy2 h1 s hs hx
theorem zep (h:DAt Av base w d M room N ss):Calls Tryz.prog 41 #[.pointer (some ⟨d,0,none⟩)] w fun e w'=>∃ sp n c,e=.returned (.slice sp n c)∧ss.length=n∧zfv w.heap.size w' sp c (ss.map (·.1))∧Below w.heap.size w w':=by
 obtain⟨fs,h1,rfl,_⟩:=h.at_;refine(zpm h1).mono ?_;rintro e W ⟨sp,n,c,rfl,hn,ho,hb⟩;refine⟨sp,n,c,rfl,by rw[List.length_map];exact hn,?_,hb⟩;rw[List.map_map];exact ho
end
end
section
def zp5:Nat→Nat→List Nat
 |0,n=>[n]
 |f+1,n=>if n<128 then [n] else (n % 128+128)::zp5 f (n / 128)
theorem zu9:∀ (n f g:Nat),n≤f→n≤g→zp5 f n=zp5 g n:=by
 intro n;induction n using Nat.strongRecOn with
 |ind n ih =>
  intro f g hf hg;by_cases h:n<128
  ·cases f <;> cases g <;> simp only[zp5,if_pos h]
  ·match f,g,hf,hg with
   |0,_,hf,_=>omega
   |_+1,0,_,hg=>omega
   |f+1,g+1,hf,hg =>
    simp only[zp5,if_neg h];rw[ih (n / 128) (by omega) f g (by omega) (by omega)]
def za2 (n:Nat):List Nat:=zp5 n n
theorem zc2 {n:Nat} (h:n<128):za2 n=[n]:=by
 unfold za2;cases n with
 |zero=>rfl
 |succ k=>simp only[zp5,if_pos h]
theorem zdz {n:Nat} (h:¬ n<128):za2 n=(n % 128+128)::za2 (n / 128):=by
 unfold za2;cases n with
 |zero=>omega
 |succ k =>
  simp only[zp5,if_neg h];rw[zu9 ((k+1) / 128) k ((k+1) / 128) (by omega) (Nat.le_refl _)]
theorem zda (n:Nat):1≤(za2 n).length∧(za2 n).length≤n+1:=by
 induction n using Nat.strongRecOn with
 |ind n ih =>
  by_cases h:n<128
  ·rw[zc2 h];simp
  ·rw[zdz h];have:=ih (n / 128) (by omega);simp only[List.length_cons];omega
end
section
open Go.ChangeShapes Go.WideShapes Go.ChangeAt Go.RowKit
theorem zb6 (n a b:Int) (w:World) (h:a≤n∧n≤b):Calls Tryz.prog 146 #[.int .i64 n,.int .i64 a,.int .i64 b] w fun e w'=>e=.returned (.bool true)∧w'=w:=by
 obtain⟨h1,h2⟩:=h;go_enter Tryz.func146,Tryz.ntmps146
 go_wp2
 go_ret
 exact⟨by simp,rfl⟩
theorem zf6 (n a b:Int) (w:World) (h:¬ (a≤n∧n≤b)):Calls Tryz.prog 146 #[.int .i64 n,.int .i64 a,.int .i64 b] w fun e w'=>e=.returned (.bool false)∧w'=w:=by
 by_cases h1:a≤n
 ·have h2:¬ n≤b:=fun h2=>h ⟨h1,h2⟩;clear h;go_enter Tryz.func146,Tryz.ntmps146
  go_wp2
  go_ret
  exact⟨by simp,rfl⟩
 ·clear h;go_enter Tryz.func146,Tryz.ntmps146
  go_wp2
  go_ret
  exact⟨rfl,rfl⟩
theorem zih (n:Int) (h₀:0≤n) (h₁:n<2 ^ 63):IntKind.i64.wrap n=n:=by rw[IntKind.wrap_i64];omega
theorem zzg (m:Nat):bits .or .i64 (bits .and .i64 (m:Int) 127) 128 % 256=((m % 128+128:Nat):Int):=by
 rw[i64_and127];have h0:(0:Int)≤(m:Int) % 128:=by omega
 have h1:(m:Int) % 128<128:=by omega
 generalize hy:(m:Int) % 128=y at *;have hc:bits .or .i64 y 128=bits .or .i64 128 y:=by simp only[bits,BitVec.or_comm]
 rw[hc,bits_join .i64 63 (by decide) zih 7 128 y (by decide) (by decide) (by decide) h0 h1 (by omega)];omega
theorem zej (base:Nat) (sp:Option Addr) (n0 c:Nat) (l:List Nat) (n:Nat) (w:World) (hn0:l.length=n0) (hown:OwnB base w sp c l) (hl:l.length≤1099511627776) (hn:n≤1099511627776) (hbase:base≤w.heap.size) :
  Calls Tryz.prog 147 #[.slice sp n0 c,.int .i64 (n:Int)] w fun e w'=>∃ sp' n' c',e=.returned (.slice sp' n' c')∧Hid ((l++za2 n).length=n')∧OwnB base w' sp' c' (l++za2 n)∧Grew w sp w' sp':=by
 have HO:=zaa hown;have HN:=zaa hn0;have HLen:=zaa (show(l++za2 n).length≤2199023255553 by rw[List.length_append];have:=(zda n).2;omega);clear hown hn0;go_enter Tryz.func147,Tryz.ntmps147
 go_wp2
 go_loopw [0,1] (fun v i wr=>∃ (sp':Option Addr) (n' c':Nat) (l':List Nat) (m:Nat),m≤1099511627776∧v=.slice sp' n' c'∧i=.int .i64 (m:Int)∧Hid (l'.length=n')∧Hid (OwnB base wr sp' c' l')∧Hid (l'++za2 m=l++za2 n)∧Hid (Grew w sp wr sp')) (fun _ i _=>(intOf i).toNat)
 case atStart=>exact⟨sp,n0,c,l,n,hn,rfl,rfl,za HN,za HO,rfl,Grew.refl _ _⟩
 case round =>
  obtain⟨sp',n',c',l',m,hm,rfl,rfl,hl',ho',heq,hbw⟩:=hrel
  have hlen':=zaa (show l'.length+1≤140737488355328 by
   have h1:=za HLen;rw[← za heq,List.length_append] at h1;have:=(zda m).1
   omega)
  have hbr:base≤wr.heap.size:=Nat.le_trans hbase (za hbw).grown.size;by_cases h128:m<128
  ·have hlit:=zaa (zbx (l:=[m]) (zad wr (.cells #[.int .u8 (m:Int)] 5)) (by intro c hc;simp only[List.mem_cons,List.not_mem_nil,or_false] at hc;omega));have bA:=zaa (show Below wr.heap.size wr (wr.alloc (.cells #[.int .u8 (m:Int)] 5)) from(Below.refl _ _).alloc (Nat.le_refl _) _);have heq':=zaa (show l'++[m]=l++za2 n by rw[← za heq,zc2 h128]);have hm0:(m:Int)<128:=by omega
   go_wp2_with (at_builtin;refine zby rfl (.tmp 16) (.tmp 19) rfl base sp' n' c' l' rfl (za hl') (by exact(za ho').later (za bA)) (some ⟨wr.heap.size,0,none⟩) 1 1 rfl [m] rfl (by exact za hlit) (fun h=>by cases h) (za hlen') (Nat.le_trans hbr (za bA).size) ?_;intro sp2 n2 c2 W2 hn2 ho2 hg2 hb2)
   rw[za heq'] at hn2 ho2;go_ret
   exact⟨sp2,n2,c2,rfl,hn2,ho2,(za hbw).trans (Grew.aside (za bA) ⟨hg2,hb2⟩)⟩
  ·have hlit:=zaa (zbx (l:=[m % 128+128]) (zad wr (.cells #[.int .u8 ((m % 128+128:Nat):Int)] 5)) (by intro c hc;simp only[List.mem_cons,List.not_mem_nil,or_false] at hc;omega));have bA:=zaa (show Below wr.heap.size wr (wr.alloc (.cells #[.int .u8 ((m % 128+128:Nat):Int)] 5)) from(Below.refl _ _).alloc (Nat.le_refl _) _);have heq':=zaa (show l'++[m % 128+128]++za2 (m / 128)=l++za2 n by rw[← za heq,zdz h128,List.append_assoc];rfl);have hm0:¬ (m:Int)<128:=by omega
   have hlow:=zzg m;generalize hq:m % 128+128=q at *
   go_wp2_with (at_builtin;refine zby rfl (.tmp 7) (.tmp 12) rfl base sp' n' c' l' rfl (za hl') (by exact(za ho').later (za bA)) (some ⟨wr.heap.size,0,none⟩) 1 1 rfl [q] rfl (by exact za hlit) (fun h=>by cases h) (za hlen') (Nat.le_trans hbr (za bA).size) ?_;intro sp2 n2 c2 W2 hn2 ho2 hg2 hb2)
   have hbn:=(za hbw).trans (Grew.aside (za bA) ⟨hg2,hb2⟩);exact⟨⟨sp2,n2,c2,l'++[q],m / 128,by omega,rfl,by go_num,hn2,ho2,za heq',hbn⟩,by simp[intOf];omega⟩
theorem ze1 (base:Nat) (sp:Option Addr) (n0 c:Nat) (l:List Nat) (n:Nat) (w:World) (hn0:l.length=n0) (hown:OwnB base w sp c l) (hl:l.length≤1099511627776) (hn:n≤1099511627776) (hbase:base≤w.heap.size) :
  Calls Tryz.prog 147 #[.slice sp n0 c,.int .i64 (n:Int)] w fun e w'=>∃ sp' n' c',e=.returned (.slice sp' n' c')∧Hid ((l++za2 n).length=n')∧OwnB base w' sp' c' (l++za2 n)∧Below base w w':=by
 refine(zej base sp n0 c l n w hn0 hown hl hn hbase).mono ?_;rintro e w' ⟨sp',n',c',he,h1,h2,h3⟩;exact⟨sp',n',c',he,h1,h2,h3.below hown hbase⟩
abbrev given (e:Nat):List PanicEntry:=[{ v:=.iface 253 (.agg #[.int .i64 (e:Int)]),recovered:=false }]
theorem za0 (e:Nat) (w:World):Calls Tryz.prog 226 #[.int .i64 (e:Int)] w fun en w'=>en=.panicked (given e)∧w'=w:=by
 go_enter Tryz.func226,Tryz.ntmps226
 go_wp2
 exact⟨rfl,rfl,rfl⟩
structure RdAt (R:Nat) (w:World) (a:Option Addr) (c:Nat) (l:List Nat) (k:Nat):Prop where
 blk:w.heap[R]? = some (.cells #[.slice a l.length c,.int .i64 (k:Int)] 239 (0,0))
 bytes:BytesAt w a l
 low:∀ b off,0<l.length→a=some ⟨b,off,none⟩→b≠R
 le:k≤l.length
theorem RdAt.c0 {R:Nat} {w:World} {a:Option Addr} {c:Nat} {l:List Nat} {k:Nat} (h:RdAt R w a c l k):w.cell? ⟨R,0,none⟩=some (.slice a l.length c):=by
 rw[cell_of_row w R 0 _ _ _ h.blk];rfl
theorem RdAt.c1 {R:Nat} {w:World} {a:Option Addr} {c:Nat} {l:List Nat} {k:Nat} (h:RdAt R w a c l k):w.cell? ⟨R,1,none⟩=some (.int .i64 (k:Int)):=by
 rw[cell_of_row w R 1 _ _ _ h.blk];rfl
theorem RdAt.f1 {R:Nat} {w:World} {a:Option Addr} {c:Nat} {l:List Nat} {k:Nat} (h:RdAt R w a c l k):w.frozen? ⟨R,1,none⟩=false:=by
 simp[World.frozen?,h.blk]
theorem RdAt.moved {R:Nat} {w:World} {a:Option Addr} {c:Nat} {l:List Nat} {k:Nat} (h:RdAt R w a c l k) (k':Nat) (hk:k'≤l.length):RdAt R (w.setCell ⟨R,1,none⟩ (.int .i64 (k':Int))) a c l k':=by
 have hg:=zaf w R 1 (.int .i64 (k':Int));refine⟨?_,?_,h.low,hk⟩
 ·have:=heap_setCell_same w R 1 _ 239 (.int .i64 (k':Int)) h.blk
  simpa using this
 ·refine⟨h.bytes.lt,fun i hi=>?_⟩;obtain⟨b,off,h1,h2⟩:=h.bytes.cell i hi;refine⟨b,off,h1,?_⟩;rw[hg.cell_far ⟨b,off+i,none⟩ (World.block_lt_of_cell? _ _ h2) (by simpa using h.low b off (by omega) h1)];exact h2
theorem RdAt.drewN {R:Nat} {w:World} {a:Option Addr} {c:Nat} {l:List Nat} {k:Nat} (h:RdAt R w a c l k) (n:Nat):RdAt R (w.drewN n) a c l k:=⟨h.blk,⟨h.bytes.lt,h.bytes.cell⟩,h.low,h.le⟩
theorem za4 (w:World) (n:Nat) (row:Option Nat):w.grownBy (w.drewN n) row:=⟨rfl,rfl,rfl,Nat.le_refl _,fun _ _ _=>rfl⟩
theorem zp6 (R:Nat) (a:Option Addr) (c:Nat) (l:List Nat) (k:Nat) (w:World) (h:RdAt R w a c l k) (hk:k=l.length) :
  Calls Tryz.prog 225 #[.pointer (some ⟨R,0,none⟩)] w fun e w'=>e=.panicked (given 3)∧RdAt R w' a c l k∧w.grownBy w' (some R):=by
 have c0:=h.c0;have c1:=h.c1;subst hk;have H:=zaa h;clear h;go_enter Tryz.func225,Tryz.ntmps225
 go_wp2_with fail
 go_quiet (fail)
 go_wp2_with fail
 refine(za0 3 _).mono ?_;rintro e w' ⟨rfl,rfl⟩
 go_wp2
 exact⟨rfl,rfl,(za H).drewN _,za4 _ _ _⟩
theorem zAi (R:Nat) (a:Option Addr) (c:Nat) (l:List Nat) (k:Nat) (w:World) (h:RdAt R w a c l k) (hk:k<l.length) (hl:l.length≤maxLen) :
  Calls Tryz.prog 225 #[.pointer (some ⟨R,0,none⟩)] w fun e w'=>e=.returned (.int .u8 ((l.getD k 0:Nat):Int))∧RdAt R w' a c l (k+1)∧w.grownBy w' (some R):=by
 have c0:=h.c0;have c1:=h.c1;have f1:=h.f1;obtain⟨b,off,rfl,hc⟩:=h.bytes.cell k hk;have H:=zaa h;have H1:=zaa hk;unfold maxLen at hl;clear h;generalize l.getD k 0=x at *;have hne:¬ k=l.length:=by omega
 go_enter Tryz.func225,Tryz.ntmps225
 go_wp2_with fail
 go_quiet (fail)
 go_wp2_with fail
 go_quiet (fail)
 go_wp2
 go_ret
 exact⟨rfl,((za H).drewN _).moved (k+1) (za H1),zag (za4 _ _ _) (zaf _ _ _ _)⟩
theorem zBl (R:Nat) (a:Option Addr) (c:Nat) (l:List Nat) (k:Nat) (w:World) (h:RdAt R w a c l k) (hk:k=l.length) :
  Calls Tryz.prog 214 #[.pointer (some ⟨R,0,none⟩)] w fun e w'=>e=.returned (.tuple #[])∧RdAt R w' a c l k∧w.grownBy w' (some R):=by
 have c0:=h.c0;have c1:=h.c1;subst hk;have H:=zaa h;clear h;go_enter Tryz.func214,Tryz.ntmps214
 go_wp2_with fail
 go_quiet (fail)
 go_wp2
 go_end0
 exact⟨rfl,(za H).drewN _,za4 _ _ _⟩
theorem zy4 (R:Nat) (a:Option Addr) (c:Nat) (l:List Nat) (k:Nat) (w:World) (h:RdAt R w a c l k) (hk:k<l.length) :
  Calls Tryz.prog 214 #[.pointer (some ⟨R,0,none⟩)] w fun e w'=>e=.panicked (given 4)∧RdAt R w' a c l k∧w.grownBy w' (some R):=by
 have c0:=h.c0;have c1:=h.c1;have H:=zaa h;clear h;go_enter Tryz.func214,Tryz.ntmps214
 go_wp2_with fail
 go_quiet (fail)
 go_wp2_with fail
 refine(za0 4 _).mono ?_;rintro e w' ⟨rfl,rfl⟩
 go_wp2
 exact⟨rfl,rfl,(za H).drewN _,za4 _ _ _⟩
end
section
def zd6 (l:List Nat):Nat→Nat→Nat→Nat→Nat×Nat×Nat
 |0,_,_,k=>(6,0,k)
 |f+1,s,n,k =>
  if l.length≤k then (3,0,k)
  else if 128≤l.getD k 0 then (if f=0 then (6,0,k+1) else zd6 l f (s+1) (n+l.getD k 0 % 128*128 ^ s) (k+1))
  else if l.getD k 0=0∧0<s then (4,0,k+1)
  else if 1099511627776<n+l.getD k 0*128 ^ s then (6,0,k+1)
  else (0,n+l.getD k 0*128 ^ s,k+1)
def zdw (l:List Nat) (k:Nat):Nat×Nat×Nat:=zd6 l 6 0 0 k
theorem zsw {l:List Nat} {k:Nat} (f s m:Nat) (hk:¬ k<l.length):zd6 l (f+1) s m k=(3,0,k):=by
 rw[zd6,if_pos (by omega)]
theorem zcs {l:List Nat} {k x:Nat} (f s m:Nat) (hx:l.getD k 0=x) (hk:k<l.length) (h:128≤x) (hf:f≠0):zd6 l (f+1) s m k=zd6 l f (s+1) (m+x % 128*128 ^ s) (k+1):=by
 rw[zd6,if_neg (by omega),hx,if_pos h,if_neg hf]
theorem zng {l:List Nat} {k x:Nat} (s m:Nat) (hx:l.getD k 0=x) (hk:k<l.length) (h:128≤x):zd6 l (0+1) s m k=(6,0,k+1):=by
 rw[zd6,if_neg (by omega),hx,if_pos h,if_pos rfl]
theorem zc3 {l:List Nat} {k x:Nat} (f s m:Nat) (hx:l.getD k 0=x) (hk:k<l.length) (h:x=0) (hs:0<s):zd6 l (f+1) s m k=(4,0,k+1):=by
 rw[zd6,if_neg (by omega),hx,if_neg (by omega),if_pos ⟨h,hs⟩]
theorem ze7 {l:List Nat} {k x:Nat} (f s m:Nat) (hx:l.getD k 0=x) (hk:k<l.length) (h:¬ 128≤x) (h0:¬ (x=0∧0<s)) (hb:1099511627776<m+x*128 ^ s):zd6 l (f+1) s m k=(6,0,k+1):=by
 rw[zd6,if_neg (by omega),hx,if_neg h,if_neg h0,if_pos hb]
theorem zdk {l:List Nat} {k x:Nat} (f s m:Nat) (hx:l.getD k 0=x) (hk:k<l.length) (h:¬ 128≤x) (h0:¬ (x=0∧0<s)) (hb:¬ 1099511627776<m+x*128 ^ s):zd6 l (f+1) s m k=(0,m+x*128 ^ s,k+1):=by
 rw[zd6,if_neg (by omega),hx,if_neg h,if_neg h0,if_neg hb]
def zbh (l:List Nat) (k:Nat):Except Nat (Nat×Nat):=if (zdw l k).1=0 then .ok ((zdw l k).2.1,(zdw l k).2.2) else .error (zdw l k).1
def zd9 (l:List Nat) (k:Nat):Except Nat ((Nat×Nat)×Nat) :=
 match zbh l k with
 |.error x=>.error x
 |.ok (t,k) =>
  match zbh l k with
  |.error x=>.error x
  |.ok (v,k)=>if 9<v then .error 4 else .ok ((t,v),k)
def za6 {α:Type} (l:List Nat) (r:Except Nat (α×Nat)):Except Nat α :=
 match r with
 |.error x=>.error x
 |.ok (x,k)=>if k<l.length then .error 4 else .ok x
theorem zc {l:List Nat} {k x:Nat} (h:zbh l k=.error x):x≠0:=by
 unfold zbh at h;split at h
 ·cases h
 ·cases h;assumption
theorem zkr {l:List Nat} {k x:Nat} (h:zd9 l k=.error x):x≠0:=by
 unfold zd9 at h;split at h
 ·next h1=>cases h;exact zc h1
 ·split at h
  ·next h1=>cases h;exact zc h1
  ·split at h
   ·cases h;decide
   ·cases h
theorem zez {α:Type} {l:List Nat} {r:Except Nat (α×Nat)} {x:Nat} (h:za6 l r=.error x) (hr:∀ y,r=.error y→y≠0):x≠0:=by
 unfold za6 at h;split at h
 ·cases h;exact hr _ rfl
 ·split at h
  ·cases h;decide
  ·cases h
def zkc (l:List Nat) (a b k:Nat):Except Nat (Nat×Nat):=if k<l.length then (if a≤l.getD k 0∧l.getD k 0≤b then .ok (l.getD k 0,k+1) else .error 4) else .error 3
def zju (l:List Nat) (k:Nat):Except Nat (Nat×Nat) :=
 match zbh l k with
 |.error x=>.error x
 |.ok (n,k)=>if n=0 then .error 4 else .ok (n,k)
def zfu (l:List Nat) (kind k:Nat):Except Nat (Nat×Nat) :=
 match zbh l k with
 |.error x=>.error x
 |.ok (n,k)=>if kind=1∧0<n then .error 4 else if 2048<n then .error 6 else .ok (n,k)
def zgp (l:List Nat) (n k:Nat):Except Nat (List Nat×Nat):=if l.length - k<n then .error 3 else .ok ((l.drop k).take n,k+n)
def za9 (l:List Nat) (k:Nat):Except Nat ((Nat×Nat×Nat×List Nat)×Nat) :=
 match zkc l 1 3 k with
 |.error x=>.error x
 |.ok (kd,k) =>
  match zju l k with
  |.error x=>.error x
  |.ok (t,k) =>
   match zju l k with
   |.error x=>.error x
   |.ok (i,k) =>
    match zfu l kd k with
    |.error x=>.error x
    |.ok (n,k) =>
     match zgp l n k with
     |.error x=>.error x
     |.ok (d,k)=>.ok ((kd,t,i,d),k)
theorem zti {l:List Nat} {a b k x:Nat} (h:zkc l a b k=.error x):x≠0:=by
 unfold zkc at h;split at h
 ·split at h
  ·cases h
  ·cases h;decide
 ·cases h;decide
theorem zto {l:List Nat} {k x:Nat} (h:zju l k=.error x):x≠0:=by
 unfold zju at h;split at h
 ·next h1=>cases h;exact zc h1
 ·split at h
  ·cases h;decide
  ·cases h
theorem zx1 {l:List Nat} {kd k x:Nat} (h:zfu l kd k=.error x):x≠0:=by
 unfold zfu at h;split at h
 ·next h1=>cases h;exact zc h1
 ·split at h
  ·cases h;decide
  ·split at h
   ·cases h;decide
   ·cases h
theorem zwm {l:List Nat} {n k x:Nat} (h:zgp l n k=.error x):x≠0:=by
 unfold zgp at h;split at h
 ·cases h;decide
 ·cases h
theorem zhj {l:List Nat} {k x:Nat} (h:za9 l k=.error x):x≠0:=by
 unfold za9 at h;split at h
 ·next h1=>cases h;exact zti h1
 ·split at h
  ·next h1=>cases h;exact zto h1
  ·split at h
   ·next h1=>cases h;exact zto h1
   ·split at h
    ·next h1=>cases h;exact zx1 h1
    ·split at h
     ·next h1=>cases h;exact zwm h1
     ·cases h
def zv8 (l:List Nat) (most k:Nat):Except Nat (List Nat×Nat) :=
 match zbh l k with
 |.error x=>.error x
 |.ok (n,k)=>if most<n then .error 6 else zgp l n k
end
end Go.Proofs.YtofllbpfajppeaaGreatDoor
