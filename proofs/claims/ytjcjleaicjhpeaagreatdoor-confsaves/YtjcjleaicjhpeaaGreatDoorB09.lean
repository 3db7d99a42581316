/- Conf: a map's places, sorted. -/
import Derived.Test.YtjcjleaicjhpeaaGreatDoorB08
import Derived.Shelf.SlIter.Nil
import Derived.Shelf.SortM.Plain
import Derived.Shelf.SortM.SortNone
import Derived.Ground.GgzProg
import Derived.Ground.SlgmProg
import Derived.Test.YtjcjleaicjhpeaaGreatDoorProg
import Derived.Test.YtjcjleaicjhpeaaGreatDoorB06
set_option linter.unusedVariables false
set_option maxRecDepth 20000
set_option maxHeartbeats 16000000
namespace Go.Proofs.YtjcjleaicjhpeaaGreatDoor
section
open Go.ChangeShapes Go.WideShapes Go.ChangeAt Go.RowKit Go.Maps Go.Shelf Go.Sort
theorem zlj {base:Nat} {V:World} {sp:Option Addr} {c:Nat} {fs:List Pl} (o:zfl base V sp c fs) (hl:fs.length≤1000) (hb:base≤V.heap.size) :
  Calls Tryz.prog 87 #[.slice sp fs.length c,.func (.func 46) #[] #[]] V fun e w'=>e=.returned (.tuple #[])∧∃ fs':List Pl,fs'.Perm fs∧fs'.Pairwise (fun a b=>¬ Kord.lt b a)∧zfl base w' sp c fs'∧Below base V w':=by
 rcases o.2 with⟨hv,h0⟩|⟨g,cap,cur,hv,hbg,hg,hle,hmx,hsz,ht⟩
 ·simp only[Value.slice.injEq] at hv;obtain⟨rfl,hz,rfl⟩:=hv;obtain rfl:fs=[]:=List.eq_nil_of_length_eq_zero hz;have hN:=AnyF.slices_SortFunc_none (P:=Tryz.prog) (ρ:=Tryz.sortF87_ren) Tryz.sortF87 none 0 (.func (.func 46) #[] #[]) V;refine Calls.mono (show Calls Tryz.prog 87 #[.slice none ([]:List Pl).length 0,.func (.func 46) #[] #[]] V _ from hN) ?_;rintro e w' ⟨rfl,rfl⟩;exact⟨rfl,[],List.Perm.refl _,List.Pairwise.nil,⟨rfl,.inl ⟨rfl,rfl⟩⟩,Below.refl _ _⟩
 ·simp only[Value.slice.injEq] at hv;obtain⟨rfl,_,rfl⟩:=hv;have hglt:g<V.heap.size:=(Array.getElem?_eq_some_iff.1 hg).1;have hH:HoldsK zb6 2 V g 0 fs.toArray:=by
   intro j hj;have hj':j<fs.length*2:=by rw[size_flatK] at hj;simpa using hj
   refine⟨?_,by simp[World.frozen?,hg]⟩;have h1:(List.take (fs.length*2) cur.toList)[j]? = (zdm fs)[j]?:=by rw[ht]
   rw[List.getElem?_take_of_lt hj',Array.getElem?_toList] at h1;have h2:(flatK zb6 2 fs.toArray)[j]! = (flatK zb6 2 fs.toArray)[j]:=getElem!_pos _ j hj;have h3:(flatK zb6 2 fs.toArray).toList[j]? = some (flatK zb6 2 fs.toArray)[j]:=by rw[Array.getElem?_toList,Array.getElem?_eq_getElem hj]
   rw[zh7,← h1] at h3;rw[Nat.zero_add,cell_of_row V g _ _ _ _ hg,h2];exact h3
  have hcon:=AnyQ.slices_SortFunc (P:=Tryz.prog) (ρ:=Tryz.sortF87_ren) Tryz.sortF87 2 Tryz.isAgg89 Tryz.sizeOf89 zb6 (fun _=>rfl) (fun x v hv=>by simp[zb6] at hv;rcases hv with rfl|rfl <;> rfl) zeo swoP 46 #[] g 0 c fs.toArray V (enters_of Tryz.func46 (by kernel_rfl) rfl) (zq3 g 0 fs.toArray.size V) hH hglt (by simp;omega);refine Calls.mono (show Calls Tryz.prog 87 #[.slice (some ⟨g,0,none⟩) fs.length c,.func (.func 46) #[] #[]] V _ from hcon) ?_;rintro e w' ⟨rfl,d',n,os,hp,hs,rfl⟩;have hdl:d'.size=fs.length:=by have:=hp.1;simpa using this
  refine⟨rfl,d'.toList,?_,?_,?_,?_⟩
  ·have h1:=hp.2.2;have e1:d'.extract 0 fs.toArray.size=d':=by rw[show fs.toArray.size=d'.size by rw[hdl];simp];exact Array.extract_size
   have e2:fs.toArray.extract 0 fs.toArray.size=fs.toArray:=Array.extract_size;rw[e1,e2] at h1
   simpa using h1
  ·rw[List.pairwise_iff_getElem];intro i j hi hj hij;have h1:=hs i j (Nat.zero_le _) hij (by rw[show fs.toArray.size=d'.size by rw[hdl];simp];simpa using hj);rw[ltP] at h1;have h2:=of_decide_eq_false h1;rw[getElem!_pos d' i (by simpa using hi),getElem!_pos d' j (by simpa using hj)] at h2
   simpa only [Array.getElem_toList] using h2
  ·have hfs:(flatK zb6 2 d').size=d'.size*2:=size_flatK _ _ _;have hfl:(flatK zb6 2 d').toList=zdm d'.toList:=by
    have:=zh7 d'.toList
    simpa using this
   refine⟨by rw[zgm],.inr ⟨g,c,_,?_,hbg,zmx (flatK zb6 2 d') hg,?_,hmx,by simp[putCells,hsz],?_⟩⟩
   ·rw[Array.length_toList,hdl]
   ·rw[Array.length_toList,hdl];exact hle
   ·rw[Array.length_toList,← hfs,zrt cur (flatK zb6 2 d') (by rw[hfs,hdl,hsz];omega),hfl]
  ·exact(Below.refl base V).grown (zlk (flatK zb6 2 d')) hb (fun g' hg'=>by have:=Option.some.inj hg';omega)
theorem zmy {κ α:Type} [Kord κ] {fs:List (κ×α)} (hr:Kr fs) {ks:List κ} (hp:ks.Perm (fs.map (·.1))) (hs:ks.Pairwise (fun a b=>¬ Kord.lt b a)):ks=fs.map (·.1):=by
 refine List.Perm.eq_of_pairwise (le:=fun a b=>¬ Kord.lt b a) (fun a b _ _ h1 h2=>?_) hs ?_ hp
 ·rcases Kord.tri a b with h|h|h
  ·exact absurd h h2
  ·exact h
  ·exact absurd h h1
 ·exact List.pairwise_map.2 (List.Pairwise.imp (fun {a b} h h'=>Kord.irr _ (Kord.tr h h')) (show fs.Pairwise (fun x y=>Kord.lt x.1 y.1) from hr))
theorem zkd {w:World} {fs:List (Pl×Value)} {b Bm:Nat} (hown:MapG kxP w b fs) (hB:Bm<w.heap.size) (hm:w.cell? ⟨Bm,0,none⟩=some (.map (some b))) (hl:fs.length≤1000) :
  Calls Tryz.prog 44 #[.func (.func 88) #[] #[.pointer (some ⟨Bm,0,none⟩)],.func (.func 46) #[] #[]] w fun e w'=>∃ sp c,e=.returned (.slice sp fs.length c)∧zfl w.heap.size w' sp c (fs.map (·.1))∧Below w.heap.size w w':=by
 have AC:=zaa (ziv hown hB hm hl);have hr:=zaa hown.rise;clear hown hm;go_enter Tryz.func44,Tryz.ntmps44
 go_wp2_with fail
 refine(za AC).mono ?_;rintro e V ⟨sp,c,ks,rfl,h1,h2,h3⟩;have hlen:ks.length=fs.length:=by rw[h1.length_eq,List.length_map]
 have SC:=zaa (zlj h2 (by omega) h3.size);have H1:=zaa h1;have H3:=zaa h3;have HL:=zaa hlen;clear h1 h2 h3 hlen
 go_wp2_with fail
 refine(za SC).mono ?_;rintro e V2 ⟨rfl,ks2,p1,p2,p3,p4⟩;have E:=zmy (za hr) (p1.trans (za H1)) p2;subst E;have P3:=zaa p3;have P4:=zaa ((za H3).trans p4);clear p1 p2 p3 p4
 go_wp2
 go_ret
 exact⟨sp,c,by rw[za HL];rfl,za P3,za P4⟩
end
end Go.Proofs.YtjcjleaicjhpeaaGreatDoor
section
namespace Go.Proofs
open Go.RowKit Go.Maps Go.Sort Go.Shelf
def Tryz.keys42_ren:Go.Shelf.Ren:=⟨fun|7=>42|10=>84|n=>n,fun|23=>75|26=>9|3=>54|28=>83|0=>0|27=>82|33=>58|4=>4|n=>n,fun|n=>n⟩
theorem Tryz.keys42:Go.Proofs.SlLaysZ.n7 Tryz.prog Tryz.keys42_ren:={
 mixed:=by kernel_rfl
 f7:=⟨Tryz.f42.name,by decide,Tryz.func42.trans (congrArg some (by kernel_rfl))⟩
 f10:=⟨Tryz.f84.name,by decide,Tryz.func84.trans (congrArg some (by kernel_rfl))⟩
 t0:=Tryz.underlying0
 a0:=Tryz.isAgg0
 z0:=Tryz.sizeOf0
 v0:=Tryz.zeroValue0
 t4:=Tryz.underlying4
 a4:=Tryz.isAgg4
 z4:=Tryz.sizeOf4
 v4:=Tryz.zeroValue4
 t23:=Tryz.underlying75
 a23:=Tryz.isAgg75
 z23:=Tryz.sizeOf75
 v23:=Tryz.zeroValue75
 t26:=Tryz.underlying9
 a26:=Tryz.isAgg9
 z26:=Tryz.sizeOf9
 v26:=Tryz.zeroValue9
 t27:=Tryz.underlying82
 a27:=Tryz.isAgg82
 z27:=Tryz.sizeOf82
 v27:=Tryz.zeroValue82
 t28:=Tryz.underlying83
 a28:=Tryz.isAgg83
 z28:=Tryz.sizeOf83
 v28:=Tryz.zeroValue83
 t33:=Tryz.underlying58
 a33:=Tryz.isAgg58
 z33:=Tryz.sizeOf58
 v33:=Tryz.zeroValue58 }
def Tryz.sorted41_ren:Go.Shelf.Ren:=⟨fun|6=>41|8=>82|9=>83|11=>142|13=>144|12=>143|23=>178|24=>179|14=>169|15=>170|16=>171|17=>172|18=>173|19=>174|20=>175|21=>176|22=>177|25=>204|26=>205|27=>206|28=>207|29=>208|30=>147|31=>219|n=>n,fun|26=>9|28=>83|24=>80|0=>0|3=>3|37=>191|48=>218|50=>143|4=>4|40=>210|39=>209|45=>215|5=>5|9=>9|51=>237|55=>241|57=>251|58=>252|33=>58|n=>n,fun|n=>n⟩
theorem Tryz.sorted41:Go.Proofs.SlLaysZ.n6 Tryz.prog Tryz.sorted41_ren:={
 mixed:=by kernel_rfl
 f6:=⟨Tryz.f41.name,by decide,Tryz.func41.trans (congrArg some (by kernel_rfl))⟩
 f8:=⟨Tryz.f82.name,by decide,Tryz.func82.trans (congrArg some (by kernel_rfl))⟩
 f11:=⟨Tryz.f142.name,by decide,Tryz.func142.trans (congrArg some (by kernel_rfl))⟩
 t0:=Tryz.underlying0
 a0:=Tryz.isAgg0
 z0:=Tryz.sizeOf0
 v0:=Tryz.zeroValue0
 t24:=Tryz.underlying80
 a24:=Tryz.isAgg80
 z24:=Tryz.sizeOf80
 v24:=Tryz.zeroValue80
 t26:=Tryz.underlying9
 a26:=Tryz.isAgg9
 z26:=Tryz.sizeOf9
 v26:=Tryz.zeroValue9
 t28:=Tryz.underlying83
 a28:=Tryz.isAgg83
 z28:=Tryz.sizeOf83
 v28:=Tryz.zeroValue83
 i26:=by kernel_rfl }
def Tryz.sort83_ren:Go.Shelf.Ren:=⟨fun|6=>83|8=>144|9=>143|19=>178|20=>179|21=>169|22=>170|23=>171|24=>172|25=>173|26=>174|27=>175|28=>176|29=>177|36=>204|31=>205|32=>206|37=>207|38=>208|39=>147|41=>219|n=>n,fun|27=>80|29=>9|3=>3|32=>191|26=>80|0=>0|44=>218|46=>143|4=>4|36=>210|35=>209|41=>215|5=>5|9=>9|53=>237|57=>241|63=>251|64=>252|n=>n,fun|n=>n⟩
theorem Tryz.sort83:Go.Proofs.SlLaysM.n6 Tryz.prog Tryz.sort83_ren:={
 mixed:=by kernel_rfl
 f6:=⟨Tryz.f83.name,by decide,Tryz.func83.trans (congrArg some (by kernel_rfl))⟩
 f8:=Tryz.func144.trans (congrArg some (by kernel_rfl))
 f9:=⟨Tryz.f143.name,by decide,Tryz.func143.trans (congrArg some (by kernel_rfl))⟩
 f19:=Tryz.func178.trans (congrArg some (by kernel_rfl))
 f20:=Tryz.func179.trans (congrArg some (by kernel_rfl))
 f21:=⟨Tryz.f169.name,by decide,Tryz.func169.trans (congrArg some (by kernel_rfl))⟩
 f22:=⟨Tryz.f170.name,by decide,Tryz.func170.trans (congrArg some (by kernel_rfl))⟩
 f23:=⟨Tryz.f171.name,by decide,Tryz.func171.trans (congrArg some (by kernel_rfl))⟩
 f24:=⟨Tryz.f172.name,by decide,Tryz.func172.trans (congrArg some (by kernel_rfl))⟩
 f25:=⟨Tryz.f173.name,by decide,Tryz.func173.trans (congrArg some (by kernel_rfl))⟩
 f26:=⟨Tryz.f174.name,by decide,Tryz.func174.trans (congrArg some (by kernel_rfl))⟩
 f27:=⟨Tryz.f175.name,by decide,Tryz.func175.trans (congrArg some (by kernel_rfl))⟩
 f28:=⟨Tryz.f176.name,by decide,Tryz.func176.trans (congrArg some (by kernel_rfl))⟩
 f29:=⟨Tryz.f177.name,by decide,Tryz.func177.trans (congrArg some (by kernel_rfl))⟩
 f31:=Tryz.func205.trans (congrArg some (by kernel_rfl))
 f32:=Tryz.func206.trans (congrArg some (by kernel_rfl))
 f36:=⟨Tryz.f204.name,by decide,Tryz.func204.trans (congrArg some (by kernel_rfl))⟩
 f37:=⟨Tryz.f207.name,by decide,Tryz.func207.trans (congrArg some (by kernel_rfl))⟩
 f38:=⟨Tryz.f208.name,by decide,Tryz.func208.trans (congrArg some (by kernel_rfl))⟩
 f39:=⟨Tryz.f147.name,by decide,Tryz.func147.trans (congrArg some (by kernel_rfl))⟩
 f41:=⟨Tryz.f219.name,by decide,Tryz.func219.trans (congrArg some (by kernel_rfl))⟩
 t0:=Tryz.underlying0
 a0:=Tryz.isAgg0
 z0:=Tryz.sizeOf0
 v0:=Tryz.zeroValue0
 t3:=Tryz.underlying3
 a3:=Tryz.isAgg3
 z3:=Tryz.sizeOf3
 v3:=Tryz.zeroValue3
 t4:=Tryz.underlying4
 a4:=Tryz.isAgg4
 z4:=Tryz.sizeOf4
 v4:=Tryz.zeroValue4
 t5:=Tryz.underlying5
 a5:=Tryz.isAgg5
 z5:=Tryz.sizeOf5
 v5:=Tryz.zeroValue5
 t9:=Tryz.underlying9
 a9:=Tryz.isAgg9
 z9:=Tryz.sizeOf9
 v9:=Tryz.zeroValue9
 t26:=Tryz.underlying80
 a26:=Tryz.isAgg80
 z26:=Tryz.sizeOf80
 v26:=Tryz.zeroValue80
 t27:=Tryz.underlying80
 a27:=Tryz.isAgg80
 z27:=Tryz.sizeOf80
 v27:=Tryz.zeroValue80
 t29:=Tryz.underlying9
 a29:=Tryz.isAgg9
 z29:=Tryz.sizeOf9
 v29:=Tryz.zeroValue9
 t32:=Tryz.underlying191
 a32:=Tryz.isAgg191
 z32:=Tryz.sizeOf191
 v32:=Tryz.zeroValue191
 t35:=Tryz.underlying209
 a35:=Tryz.isAgg209
 z35:=Tryz.sizeOf209
 v35:=Tryz.zeroValue209
 t36:=Tryz.underlying210
 a36:=Tryz.isAgg210
 z36:=Tryz.sizeOf210
 v36:=Tryz.zeroValue210
 t41:=Tryz.underlying215
 a41:=Tryz.isAgg215
 z41:=Tryz.sizeOf215
 v41:=Tryz.zeroValue215
 t44:=Tryz.underlying218
 a44:=Tryz.isAgg218
 z44:=Tryz.sizeOf218
 v44:=Tryz.zeroValue218
 t46:=Tryz.underlying143
 a46:=Tryz.isAgg143
 z46:=Tryz.sizeOf143
 v46:=Tryz.zeroValue143
 t53:=Tryz.underlying237
 a53:=Tryz.isAgg237
 z53:=Tryz.sizeOf237
 v53:=Tryz.zeroValue237
 t57:=Tryz.underlying241
 a57:=Tryz.isAgg241
 z57:=Tryz.sizeOf241
 v57:=Tryz.zeroValue241
 t63:=Tryz.underlying251
 a63:=Tryz.isAgg251
 z63:=Tryz.sizeOf251
 v63:=Tryz.zeroValue251
 t64:=Tryz.underlying252
 a64:=Tryz.isAgg252
 z64:=Tryz.sizeOf252
 v64:=Tryz.zeroValue252 }
theorem Tryz.sorts41 (m:Nat):AnyZ.SortsIn Tryz.prog Tryz.sorted41_ren Fence.wide m :=
 ⟨fun blk off cap ss W hH hblk hsz=>callsIn_wide.2 (AnyM.slices_Sort_string Tryz.sort83 blk off cap ss W hH hblk hsz),
  fun p cap W=>callsIn_wide.2 (AnyM.slices_Sort_string_none Tryz.sort83 p cap W)⟩
theorem Tryz.maps_Keys_42 (mb:Option Nat) (W:World):CallsIn Fence.wide 5 Tryz.prog 42 #[.map mb] W fun e w'=>e=.returned (.func (.func 84) #[] #[.pointer (some ⟨W.heap.size,0,none⟩)])∧w'=W.alloc (.cells #[.map mb] 75) :=
 AnyZ.keys_in Tryz.keys42 Fence.wide 5 trivial rfl mb W
theorem Tryz.slices_Sorted_keys_41_42 {H:Type} (b nn:Nat) (D0:DataW H) (R:Value→Option (DataW H×List MemPlace)) (w:World) (hown:w.ownsMap Tryz.prog 9 R b nn D0) (hmax:Maps.size D0≤maxLen) (hbytes:Maps.size D0*16≤140737488355328) :
  CallsIn Fence.wide 5 Tryz.prog 41 #[.func (.func 84) #[] #[.pointer (some ⟨w.heap.size,0,none⟩)]] (w.alloc (.cells #[.map (some b)] 75)) fun e w'=>∃ (v:Value) (ss:List (List UInt8)),e=.returned v∧ss.Perm (strKeys D0) ∧
   w'.ownsRow (w.alloc (.cells #[.map (some b)] 75)).heap.size 9 1 v ss.length ((ss.mergeSort (fun x y=>decide (x≤y))).map encStr)∧(v=.slice none 0 0↔ss=[])∧Below (w.alloc (.cells #[.map (some b)] 75)).heap.size (w.alloc (.cells #[.map (some b)] 75)) w':=by
 have hbl:=hown.lt;have hseq:SeqGives Fence.wide 2 Tryz.prog 84 #[.pointer (some ⟨w.heap.size,0,none⟩)] encStr (fun ss=>ss.Perm (strKeys D0)) (Maps.size D0) (w.alloc (.cells #[.map (some b)] 75)) :=
  AnyZ.keys_gives (ρ:=Tryz.keys42_ren) { Tryz.keys42 with } Fence.wide _ trivial rfl (by omega) w.heap.size b nn D0 _ (by simp) (by simp) (by
   obtain⟨es,clock,hb,Ft,hs,hD⟩:=hown
   exact⟨es,clock,(Below.heap_alloc _ _ b hbl).trans hb,Ft,hs,hD⟩)
 exact AnyZ.sorted_in Tryz.sorted41 Fence.wide 5 trivial trivial trivial trivial rfl (by omega) (Tryz.sorts41 _) (enters_of Tryz.func83 (by kernel_rfl) rfl) 84 #[.pointer (some ⟨w.heap.size,0,none⟩)] trivial (enters_of Tryz.func84 (by kernel_rfl) rfl) _ _ hmax hbytes _ hseq
end Go.Proofs
end
namespace Go.Proofs.YtjcjleaicjhpeaaGreatDoor
section
open Go.ChangeShapes Go.WideShapes Go.ChangeAt Go.RowKit Go.Maps Go.Shelf Go.Sort
theorem MapG.keysS {w:World} {B:Nat} {fs:List (ByteArray×Value)} (h:MapG kxS w B fs):∃ D:DataW Value,w.ownsMap Tryz.prog 9 zb7 B fs.length D∧Maps.size D=fs.length∧∀ ss:List (List UInt8),ss.Perm (strKeys D)→ss.mergeSort (fun x y=>decide (x≤y))=fs.map (fun x=>x.1.data.toList):=by
 obtain⟨D,hD,hH,hA,hS⟩:=h.map;refine⟨D,hD,hS,fun ss hp=>?_⟩;obtain⟨es,rfl,hke⟩:=hD.keysOf;obtain⟨es',e',ht⟩:=hD.tidy kxS.law;obtain rfl:es=es':=by simpa using e'
 have hk2:∀ p∈es,∃ x,p.1=.string x:=fun p hp=>by
  obtain⟨key,hk⟩:=hke p hp;obtain⟨x,_,hx,_⟩:=Maps.keyOf_str Tryz.underlying9 hk;exact⟨x,hx⟩
 have hinj:∀ a b:ByteArray×Value,a.1.data.toList=b.1.data.toList→a.1=b.1:=fun a b e=>zet e;have hnd:(fs.map (fun x=>x.1.data.toList)).Nodup:=by
  rw[List.Nodup,List.pairwise_map];refine List.Pairwise.imp ?_ (show fs.Pairwise (fun x y=>Kord.lt x.1 y.1) from h.rise);intro a b hab e;rw[hinj a b e] at hab;exact Kord.irr _ hab
 have hq:(fs.map (fun x=>x.1.data.toList)).Perm (strKeys (.map es)):=by
  refine perm_strKeys ht hk2 hnd (fun x=>?_);constructor
  ·intro hx;obtain⟨y,hy,rfl⟩:=List.mem_map.1 hx;exact(hH y.1 (h.okk y hy)).2 (List.mem_map.2 ⟨y,hy,rfl⟩)
  ·intro hx;have hex:∃ p∈es,p.1=.string x:=by
    rw[Maps.has_eq,List.any_eq_true] at hx;obtain⟨p,hp1,hp2⟩:=hx;obtain⟨a,ha⟩:=hk2 p hp1;rw[ha] at hp2;simp[Lit.sameKey] at hp2;exact⟨p,hp1,by rw[ha,hp2]⟩
   obtain⟨p,hp1,hp2⟩:=hex;obtain⟨key,hk⟩:=hke p hp1;obtain⟨s,hs,_,hl⟩:=kxS.inv hk;rw[hp2] at hl;have e:x=s.data.toList:=by simpa [kxS] using hl
   have h3:=(hH s hs).1 (by show Maps.has _ (.string s.data.toList)=true;rw[← e];exact hx);obtain⟨y,hy,hy2⟩:=List.mem_map.1 h3;exact List.mem_map.2 ⟨y,hy,by rw[hy2,e]⟩
 have h1:=mergeSort_of_perm (hp.trans hq.symm);refine h1.trans (List.mergeSort_of_pairwise ?_);refine List.pairwise_map.2 (List.Pairwise.imp (fun {a b} hab=>?_) (show fs.Pairwise (fun x y=>Kord.lt x.1 y.1) from h.rise));simp only[leB,decide_eq_true_eq];exact List.le_of_lt hab
def zqz (base:Nat) (w:World) (sp:Option Addr) (c:Nat) (l:List ByteArray):Prop:=w.ownsRow base 9 1 (.slice sp l.length c) l.length (l.map Value.string)
theorem zqz.cell {base:Nat} {w:World} {sp:Option Addr} {c:Nat} {l:List ByteArray} (h:zqz base w sp c l) (i:Nat) (hi:i<l.length):∃ g,sp=some ⟨g,0,none⟩∧base≤g∧g<w.heap.size∧∀ w':World,w'.heap[g]? = w.heap[g]?→w'.cell? ⟨g,i,none⟩=some (.string l[i]):=by
 rcases h.2 with⟨hv,h0⟩|⟨g,cap,cur,hv,hb,hg,hle,hmx,hsz,ht⟩
 ·omega
 ·simp only[Value.slice.injEq] at hv;refine⟨g,hv.1,hb,(Array.getElem?_eq_some_iff.1 hg).1,fun w' hw=>?_⟩;rw[cell_of_row w' g i cur _ _ (hw.trans hg)];have e:(l.map Value.string)[i]? = some (.string l[i]):=by rw[List.getElem?_map,List.getElem?_eq_getElem hi];rfl
  rw[← ht,List.getElem?_take,if_pos (by omega)] at e;rw[← Array.getElem?_toList,e]
theorem zmh (b:Nat) (w:World):Calls Tryz.prog 42 #[.map (some b)] w fun e w'=>e=.returned (.func (.func 84) #[] #[.pointer (some ⟨w.heap.size,0,none⟩)])∧w'=w.alloc (.cells #[.map (some b)] 75) :=
 callsIn_wide.1 (Tryz.maps_Keys_42 (some b) w)
theorem zke {w:World} {fs:List (ByteArray×Value)} {b:Nat} (h:MapG kxS w b fs) (hl:fs.length≤1000) :
  Calls Tryz.prog 41 #[.func (.func 84) #[] #[.pointer (some ⟨w.heap.size,0,none⟩)]] (w.alloc (.cells #[.map (some b)] 75)) fun e w'=>∃ sp c,e=.returned (.slice sp fs.length c)∧zqz w.heap.size w' sp c (fs.map (·.1))∧Below w.heap.size w w':=by
 obtain⟨D,hD,hS,hK⟩:=h.keysS;refine(callsIn_wide.1 (Tryz.slices_Sorted_keys_41_42 b _ D zb7 w hD (by rw[hS];simp only[maxLen];omega) (by rw[hS];omega))).mono ?_;rintro e w' ⟨v,ss,rfl,hp,hrow,hnil,hb⟩;have hm:=hK ss hp;rw[hm] at hrow;have hlen:ss.length=fs.length:=by have:=congrArg List.length hm;rw[List.length_mergeSort,List.length_map] at this;exact this
 rw[hlen] at hrow;have e1:(fs.map (fun x=>x.1.data.toList)).map encStr=(fs.map (·.1)).map Value.string:=by
  rw[List.map_map,List.map_map];exact List.map_congr_left fun x _=>by simp[encStr]
 rw[e1] at hrow;have b1:Below w.heap.size w (w.alloc (.cells #[.map (some b)] 75)):=(Below.refl _ _).alloc (Nat.le_refl _) _;have hv:∃ sp c,v=.slice sp fs.length c:=by
  rcases hrow.2 with⟨hv,h0⟩|⟨g,cap,cur,hv,_⟩
  ·exact⟨none,0,by rw[hv,h0]⟩
  ·exact⟨_,_,hv⟩
 obtain⟨sp,c,rfl⟩:=hv;refine⟨sp,c,rfl,?_,b1.trans (hb.mono b1.size)⟩;unfold zqz;rw[List.length_map];exact⟨hrow.1,hrow.2.imp id (fun ⟨g,cap,cur,h1,h2,h3⟩=>⟨g,cap,cur,h1,Nat.le_trans b1.size h2,h3⟩)⟩
end
section
open Go.ChangeShapes Go.WideShapes Go.ChangeAt Go.RowKit
theorem zm5 (t:Tgt) (h:t.1.size≤1000000):(tgB t).length≤1000014:=by
 unfold tgB;rw[List.length_append,zej];have:=zcl t.1 (by omega);omega
theorem ztx (n:Nat):zii [n]=zao n:=by simp[zii]
theorem txB1 (s:ByteArray):zs4 [s]=txB s:=by simp[zs4]
theorem zau {base:Nat} {w0 U U':World} {s s':Option Addr} {k:Nat} {q:List Nat} (hb0:w0.heap.size≤base) (ho:OwnB base U s k q) (hg:Grew U s U' s') (hb:base≤U.heap.size) (hw:Below w0.heap.size w0 U):Below w0.heap.size w0 U':=hw.trans ((hg.below ho hb).mono hb0)
structure CKs (w0 w:World) (s:Option Addr):Prop where
 sz:w0.heap.size≤w.heap.size
 cell:∀ {b k:Nat} {v:Value},w0.cell? ⟨b,k,none⟩=some v→w.cell? ⟨b,k,none⟩=some v
 free:∀ b,blk s=some b→∀ k,w0.cell? ⟨b,k,none⟩=none
theorem zhp {w:World} {b k:Nat} (h:w.heap.size≤b):w.cell? ⟨b,k,none⟩=none:=by
 have:w.heap[b]? = none:=Array.getElem?_eq_none h;simp[World.cell?,this]
theorem CKs.grew {w0 U U':World} {s s':Option Addr} (h:CKs w0 U s) (hg:Grew U s U' s'):CKs w0 U' s':=by
 refine⟨Nat.le_trans h.sz hg.grown.size,fun {b k v} hc=>?_,fun b hb k=>?_⟩
 ·have h1:=h.cell hc;have hl:b<U.heap.size:=by
   rcases Nat.lt_or_ge b U.heap.size with q|q
   ·exact q
   ·rw[zhp q] at h1;cases h1
  rw[World.cell?_of_block (hg.grown.block b hl (fun e=>by rw[h.free b e.symm] at hc;cases hc))];exact h1
 ·rcases hg.lies b hb with e|e
  ·exact h.free b e k
  ·exact zhp (Nat.le_trans h.sz e)
theorem CKs.later {w0 U U':World} {s:Option Addr} (h:CKs w0 U s) (hb:Below U.heap.size U U'):CKs w0 U' s :=
 ⟨Nat.le_trans h.sz hb.size,fun hc=>cell_later hb (h.cell hc),h.free⟩
theorem CKs.of_below {base:Nat} {w0 w:World} {sp:Option Addr} {c:Nat} {l:List Nat} (h:Below w0.heap.size w0 w) (hb0:w0.heap.size≤base) (ho:OwnB base w sp c l):CKs w0 w sp :=
 ⟨h.size,fun hc=>cell_later h hc,fun b hb k=>zhp (Nat.le_trans hb0 (by
  rcases ho.1.2 with⟨hv,_⟩|⟨g,cap,cur,hv,hbg,_⟩
  ·simp only[Value.slice.injEq] at hv;rw[hv.1] at hb;cases hb
  ·simp only[Value.slice.injEq] at hv;rw[hv.1] at hb;have:g=b:=Option.some.inj hb
   omega))⟩
theorem zct:(70:TypeId)≠5∧(54:TypeId)≠5∧(56:TypeId)≠5∧(45:TypeId)≠5:=by decide
theorem zdt (base:Nat) {w0 w:World} {a:Option Addr} {ts:List Tgt} (hT:TgsAt w0 a ts) {sp:Option Addr} (h0:CKs w0 w sp) {n0 c:Nat} {l:List Nat} (hn0:l.length=n0) (hown:OwnB base w sp c l) (m mc:Nat) (hm:ts.length=m)
  (hts:∀ t∈ts,t.1.size≤1000000) (hsz:l.length+6+1000014*m≤140737488355328) (hm2:m≤1000) (hbase:base≤w.heap.size) :
  Calls Tryz.prog 148 #[.slice sp n0 c,.slice a m mc] w fun e w'=>∃ sp' n' c',e=.returned (.slice sp' n' c')∧Hid ((l++zlx ts).length=n')∧OwnB base w' sp' c' (l++zlx ts)∧Grew w sp w' sp':=by
 have HT:=zaa hT;have HM:=zaa hm;have H0:=zaa h0;have HNS:=zaa hts;have hsF:=zc5 .plain;have L0:=zaa (zay m (by omega));have E0:=zaa (show zao m++ts.flatMap tgB=zlx ts by unfold zlx;rw[hm]);have bA:=zaa (show Below w.heap.size w (w.alloc (.cells (zcj [m]) 3)) from(Below.refl _ _).alloc (Nat.le_refl _) _);have CN:=zaa (za3 base hn0 (hown.later (za bA)) w.heap.size 1 1 [m] rfl (zac w (.cells (zcj [m]) 3)) (by intro n hn;simp at hn;omega) (by omega) (by omega) (Nat.le_trans hbase (za bA).size));have HO:=zaa hown;rw[show zcj [m]=#[.int .i64 (m:Int)] from rfl] at CN bA;rw[ztx] at CN;clear hn0 hm hts hT h0 hown;go_enter Tryz.func148,Tryz.ntmps148
 go_wp2_with fail
 refine(za CN).mono ?_;rintro e V0 ⟨s0,m0,c0,rfl,hn1,ho1,hg1⟩;have hV:=zaa (Grew.aside (za bA) hg1);have HW0:=zaa ((za H0).grew (za hV));have HO1:=zaa ho1;have hvs:base≤V0.heap.size:=Nat.le_trans hbase (za hV).grown.size;clear ho1 hg1 CN
 go_wp2_with fail
 go_loopw [0,14] (fun v i wr=>∃ (j:Nat) (sp':Option Addr) (n' c':Nat),j≤m∧v=.slice sp' n' c'∧i=.int .i64 (j:Int)∧Hid ((l++zao m++(ts.take j).flatMap tgB).length=n')∧Hid (OwnB base wr sp' c' (l++zao m++(ts.take j).flatMap tgB))∧Hid (Grew w sp wr sp')∧Hid (CKs w0 wr sp')) (fun _ i _=>m - (intOf i).toNat)
 case atStart=>exact⟨0,s0,m0,c0,by omega,rfl,rfl,zaa (by simpa using za hn1),zaa (by simpa using za HO1),hV,HW0⟩
 case round =>
  obtain⟨j,sp',n',c',hj,rfl,rfl,hl',ho',hg',hw'⟩:=hrel;by_cases hjm:j<m
  ·have y0:(0:Int)≤(j:Int):=by omega
   have y1:(j:Int)<(m:Int):=by omega
   have hjl:j<ts.length:=by rw[za HM];exact hjm
   obtain⟨b1,o1,rfl,q0,q1⟩:=(za HT).cell j hjl;have hlt:=(za HT).lt _ (List.getElem_mem hjl);have p0:=(za hw').cell q0;have p1:=(za hw').cell q1;have hx:=za HNS ts[j] (List.getElem_mem hjl);have FT:=zaa (zcb tgB ts j hjl)
   have LJ:=zaa (show(l++zao m++(ts.take j).flatMap tgB).length+1000014≤140737488355328 by
    have h3:=zca tgB 1000014 (ts.take j) (fun x hx=>zm5 x (za HNS x (List.mem_of_mem_take hx)));have h4:(ts.take j).length≤j:=by rw[List.length_take];omega
    have h5:1000014*(j+1)≤1000014*m:=Nat.mul_le_mul_left _ (by omega);have h6:=za L0;have h7:1000014*(ts.take j).length≤1000014*j:=Nat.mul_le_mul_left _ h4
    rw[List.length_append,List.length_append];omega)
   generalize ts[j]=t at *;obtain⟨s,x⟩:=t;simp only at p0 p1 hx hlt;clear q0 q1
   have S8:=zaa (show(l++zao m++(ts.take j).flatMap tgB++txB s).length+8≤140737488355328 by
    rw[List.length_append];have:=zcl s (by omega);have:=za LJ
    omega)
   have hbr:base≤wr.heap.size:=Nat.le_trans hbase (za hg').grown.size;have hss:s.size≤1000000:=hx;have bX:=zaa (show Below wr.heap.size wr (wr.alloc (.cells #[.string s,.float .f64 x] 70)) from(Below.refl _ _).alloc (Nat.le_refl _) _);have X1:=zac wr (.cells #[.string s,.float .f64 x] 70);have c0':=zag X1 0 (.string s) rfl;have c1':=zag X1 1 (.float .f64 x) rfl;have XB:=zaa X1;have hEE:=zaa (show wr.heap.size<(wr.alloc (.cells #[.string s,.float .f64 x] 70)).heap.size by simp);clear X1
   go_wp2_with fail
   generalize hE:wr.heap.size=E at *;generalize (wr.alloc (.cells #[.string s,.float .f64 x] 70))=V at *;have hbr2:base≤wr.heap.size:=by rw[hE];exact hbr
   have bV:=zaa (show Below V.heap.size V V.drew from(Below.refl _ _).drew);have bB:=zaa (show Below V.heap.size V (V.drew.alloc (.cells (zeq [s]) 9)) from(za bV).alloc (Nat.le_refl _) _);have OV:=zaa (((za ho').later (by rw[hE];exact za bX)).later (za bB));have CT:=zaa (zdp base (za hl') (za OV) V.heap.size 1 1 [s] rfl (show(V.drew.alloc (.cells (zeq [s]) 9)).heap[V.heap.size]? = _ from zac V.drew (.cells (zeq [s]) 9)) (by intro y hy;simp at hy;rw[hy];exact hss) (by have:=za LJ;omega) (by omega) (by have:=(za bX).size;have:=(za bB).size;omega));rw[txB1] at CT;have KB:=zaa (show(V.drew.alloc (.cells (zeq [s]) 9)).cell? ⟨E,0,none⟩=some (.string s)∧(V.drew.alloc (.cells (zeq [s]) 9)).cell? ⟨E,1,none⟩=some (.float .f64 x) from⟨cell_later (za bB) c0',cell_later (za bB) c1'⟩);have XE:=zaa (zad (za bB) (za XB));have bZ:=zaa ((za bX).trans ((za bB).mono (by have:=(za bX).size;omega)));rw[show zeq [s]=#[.string s] from rfl] at CT bB KB XE OV bZ;refine wp_region_held_drew (S:=fun w'=>w'.cell? ⟨E,0,none⟩=some (.string s)∧w'.cell? ⟨E,1,none⟩=some (.float .f64 x)) (by kernel_rfl) ?_ (fun hHeld=>?_)
   ·try dsimp only
    first|exact za K3|exact za K2|exact za KB|exact⟨c0',c1'⟩
   refine hT 0 ?_;refine hT 1 ?_;refine hT 2 ?_;refine hT 5 ?_;refine hT 6 ?_;refine hO 3 (fun K hK=>?_);go_simp
   go_wp2_with fail
   refine hK.out _ _ ?_ (fun hHeld=>?_)
   ·try dsimp only
    first|exact za K3|exact za K2|exact za KB|exact⟨c0',c1'⟩
   clear hK K;refine hP ?_;refine hO 4 (fun K hK=>?_);go_simp
   first
    |(go_at_call 149
      refine(za CT).mono ?_;rintro e U1 ⟨s1,n1,c1,rfl,hn2,ho2,hg2⟩;have XU:=Grew.block hg2 (za XE) ((za OV).ne (za XE) zct.1);have K2:=zaa (show U1.cell? ⟨E,0,none⟩=some (.string s)∧U1.cell? ⟨E,1,none⟩=some (.float .f64 x) from⟨zag XU 0 _ rfl,zag XU 1 _ rfl⟩);have XU2:=zaa XU;have HN2:=zaa hn2;have HO2:=zaa ho2;have HG2:=zaa (Grew.aside (by rw[hE];exact za bZ) hg2)
      clear XU hn2 ho2 hg2)
    |(go_at_call 188
      refine(zes base (za HN2) (za HO2) x hlt (za S8) (Nat.le_trans hbr2 (za HG2).grown.size)).mono ?_;rintro e U2 ⟨s2,n2,c2,rfl,hn3,ho3,hg3⟩;have XU:=Grew.block hg3 (za XU2) ((za HO2).ne (za XU2) zct.1);rw[List.append_assoc,show txB s++zgt x=tgB (s,x) from rfl,List.append_assoc (l++zao m),← za FT] at hn3 ho3;have K3:=zaa (show U2.cell? ⟨E,0,none⟩=some (.string s)∧U2.cell? ⟨E,1,none⟩=some (.float .f64 x) from⟨zag XU 0 _ rfl,zag XU 1 _ rfl⟩);have HN3:=zaa hn3;have HO3:=zaa ho3;have HG3:=zaa ((za HG2).trans hg3)
      clear XU hn3 ho3 hg3)
   go_wp2_with fail
   refine hK.out _ _ ?_ (fun hHeld=>?_)
   ·try dsimp only
    first|exact za K3|exact za K2|exact za KB|exact⟨c0',c1'⟩
   clear hK K;refine hP ?_;refine hO 7 (fun K hK=>?_);go_simp
   first
    |(go_at_call 149
      refine(za CT).mono ?_;rintro e U1 ⟨s1,n1,c1,rfl,hn2,ho2,hg2⟩;have XU:=Grew.block hg2 (za XE) ((za OV).ne (za XE) zct.1);have K2:=zaa (show U1.cell? ⟨E,0,none⟩=some (.string s)∧U1.cell? ⟨E,1,none⟩=some (.float .f64 x) from⟨zag XU 0 _ rfl,zag XU 1 _ rfl⟩);have XU2:=zaa XU;have HN2:=zaa hn2;have HO2:=zaa ho2;have HG2:=zaa (Grew.aside (by rw[hE];exact za bZ) hg2)
      clear XU hn2 ho2 hg2)
    |(go_at_call 188
      refine(zes base (za HN2) (za HO2) x hlt (za S8) (Nat.le_trans hbr2 (za HG2).grown.size)).mono ?_;rintro e U2 ⟨s2,n2,c2,rfl,hn3,ho3,hg3⟩;have XU:=Grew.block hg3 (za XU2) ((za HO2).ne (za XU2) zct.1);rw[List.append_assoc,show txB s++zgt x=tgB (s,x) from rfl,List.append_assoc (l++zao m),← za FT] at hn3 ho3;have K3:=zaa (show U2.cell? ⟨E,0,none⟩=some (.string s)∧U2.cell? ⟨E,1,none⟩=some (.float .f64 x) from⟨zag XU 0 _ rfl,zag XU 1 _ rfl⟩);have HN3:=zaa hn3;have HO3:=zaa ho3;have HG3:=zaa ((za HG2).trans hg3)
      clear XU hn3 ho3 hg3)
   go_wp2_with fail
   refine hK.out _ _ ?_ (fun hHeld=>?_)
   ·try dsimp only
    first|exact za K3|exact za K2|exact za KB|exact⟨c0',c1'⟩
   clear hK K;refine hP ?_;refine hT 8 ?_;refine wpAnyH_done (by kernel_rfl) ?_ _;have hw2:=zaa ((za hw').grew (za HG3));have hg4:=zaa ((za hg').trans (za HG3))
   go_wp2
   exact⟨⟨j+1,s2,n2,c2,by omega,rfl,by go_num,by first|exact HN3|exact zaa (by rw[List.length_append];exact za HN3),za HO3,za hg4,hw2⟩,by simp[intOf];omega⟩
  ·have hjj:¬ (j:Int)<(m:Int):=by omega
   have E:=zaa (show zao m++(ts.take j).flatMap tgB=zlx ts by rw[List.take_of_length_le (by rw[za HM];omega)];exact za E0);rw[List.append_assoc,za E] at hl' ho'
   go_wp2
   go_ret
   exact⟨sp',n',c',rfl,by first|exact hl'|exact zaa (by simpa using za hl'),za ho',za hg'⟩
theorem zfp (base:Nat) {w0 w:World} {a:Option Addr} {nm:ByteArray} {ts:List Tgt} (hTs:TgsAt w0 a ts) {sp:Option Addr} (h0:CKs w0 w sp) {n0 c:Nat} {l:List Nat} (hn0:l.length=n0) (hown:OwnB base w sp c l) (m mc:Nat) (hm:ts.length=m)
  (hnm:nm.size≤1000000) (hts:∀ t∈ts,t.1.size≤1000000) (hsz:l.length+1000020+1000014*m≤140737488355328) (hm2:m≤1000) (hbase:base≤w.heap.size) :
  Calls Tryz.prog 92 #[.slice sp n0 c,.agg #[.string nm,.slice a m mc]] w fun e w'=>∃ sp' n' c',e=.returned (.slice sp' n' c')∧Hid ((l++zas ⟨nm,ts⟩).length=n')∧OwnB base w' sp' c' (l++zas ⟨nm,ts⟩)∧Grew w sp w' sp':=by
 have bX:=zaa (show Below w.heap.size w (w.alloc (.cells #[.string nm,.slice a m mc] 54)) from(Below.refl _ _).alloc (Nat.le_refl _) _);have X1:=zac w (.cells #[.string nm,.slice a m mc] 54);have c0':=zag X1 0 (.string nm) rfl;have c1':=zag X1 1 (.slice a m mc) rfl;have XB:=zaa X1;have LT:=zaa (zcl nm (by omega));have HO:=zaa hown;have H0:=zaa h0;clear X1;go_enter Tryz.func92,Tryz.ntmps92
 go_wp2_with fail
 generalize hE:w.heap.size=E at *;generalize (w.alloc (.cells #[.string nm,.slice a m mc] 54))=V at *;have hbase2:base≤w.heap.size:=by rw[hE];exact hbase
 have bV:=zaa (show Below V.heap.size V V.drew from(Below.refl _ _).drew);have bB:=zaa (show Below V.heap.size V (V.drew.alloc (.cells (zeq [nm]) 9)) from(za bV).alloc (Nat.le_refl _) _);have OV:=zaa (((za HO).later (by rw[hE];exact za bX)).later (za bB));have CT:=zaa (zdp base hn0 (za OV) V.heap.size 1 1 [nm] rfl (show(V.drew.alloc (.cells (zeq [nm]) 9)).heap[V.heap.size]? = _ from zac V.drew (.cells (zeq [nm]) 9)) (by intro y hy;simp at hy;rw[hy];exact hnm) (by omega) (by omega) (by have:=(za bX).size;have:=(za bB).size;omega));rw[txB1] at CT;have KB:=zaa (show(V.drew.alloc (.cells (zeq [nm]) 9)).cell? ⟨E,0,none⟩=some (.string nm)∧(V.drew.alloc (.cells (zeq [nm]) 9)).cell? ⟨E,1,none⟩=some (.slice a m mc) from⟨cell_later (za bB) c0',cell_later (za bB) c1'⟩);have XE:=zaa (zad (za bB) (za XB));have bZ:=zaa ((za bX).trans ((za bB).mono (by have:=(za bX).size;omega)));rw[show zeq [nm]=#[.string nm] from rfl] at CT bB KB XE OV bZ;refine wp_region_held_drew (S:=fun w'=>w'.cell? ⟨E,0,none⟩=some (.string nm)∧w'.cell? ⟨E,1,none⟩=some (.slice a m mc)) (by kernel_rfl) ?_ (fun hHeld=>?_)
 ·try dsimp only
  first|exact za K3|exact za K2|exact za KB|exact⟨c0',c1'⟩
 refine hT 0 ?_;refine hT 1 ?_;refine hT 2 ?_;refine hT 5 ?_;refine hT 6 ?_;refine hO 3 (fun K hK=>?_);go_simp
 go_wp2_with fail
 refine hK.out _ _ ?_ (fun hHeld=>?_)
 ·try dsimp only
  first|exact za K3|exact za K2|exact za KB|exact⟨c0',c1'⟩
 clear hK K;refine hP ?_;refine hO 4 (fun K hK=>?_);go_simp
 first
  |(go_at_call 149
    refine(za CT).mono ?_;rintro e U1 ⟨s1,n1,c1,rfl,hn2,ho2,hg2⟩;have XU:=Grew.block hg2 (za XE) ((za OV).ne (za XE) zct.2.1);have K2:=zaa (show U1.cell? ⟨E,0,none⟩=some (.string nm)∧U1.cell? ⟨E,1,none⟩=some (.slice a m mc) from⟨zag XU 0 _ rfl,zag XU 1 _ rfl⟩);have XU2:=zaa XU;have HN2:=zaa hn2;have HO2:=zaa ho2;have HG2:=zaa (Grew.aside (by rw[hE];exact za bZ) hg2);have HW2:=zaa ((za H0).grew (za HG2))
    clear XU hn2 ho2 hg2)
  |(go_at_call 148
    refine(zdt base hTs (za HW2) (za HN2) (za HO2) m mc hm hts (by have:=za LT;rw[List.length_append];omega) hm2 (Nat.le_trans hbase2 (za HG2).grown.size)).mono ?_;rintro e U2 ⟨s2,n2,c2,rfl,hn3,ho3,hg3⟩;have XU:=Grew.block hg3 (za XU2) ((za HO2).ne (za XU2) zct.2.1);rw[List.append_assoc,show txB nm++zlx ts=zas ⟨nm,ts⟩ from rfl] at hn3 ho3;have K3:=zaa (show U2.cell? ⟨E,0,none⟩=some (.string nm)∧U2.cell? ⟨E,1,none⟩=some (.slice a m mc) from⟨zag XU 0 _ rfl,zag XU 1 _ rfl⟩);have HN3:=zaa hn3;have HO3:=zaa ho3;have HG3:=zaa ((za HG2).trans hg3)
    clear XU hn3 ho3 hg3)
 go_wp2_with fail
 refine hK.out _ _ ?_ (fun hHeld=>?_)
 ·try dsimp only
  first|exact za K3|exact za K2|exact za KB|exact⟨c0',c1'⟩
 clear hK K;refine hP ?_;refine hO 7 (fun K hK=>?_);go_simp
 first
  |(go_at_call 149
    refine(za CT).mono ?_;rintro e U1 ⟨s1,n1,c1,rfl,hn2,ho2,hg2⟩;have XU:=Grew.block hg2 (za XE) ((za OV).ne (za XE) zct.2.1);have K2:=zaa (show U1.cell? ⟨E,0,none⟩=some (.string nm)∧U1.cell? ⟨E,1,none⟩=some (.slice a m mc) from⟨zag XU 0 _ rfl,zag XU 1 _ rfl⟩);have XU2:=zaa XU;have HN2:=zaa hn2;have HO2:=zaa ho2;have HG2:=zaa (Grew.aside (by rw[hE];exact za bZ) hg2);have HW2:=zaa ((za H0).grew (za HG2))
    clear XU hn2 ho2 hg2)
  |(go_at_call 148
    refine(zdt base hTs (za HW2) (za HN2) (za HO2) m mc hm hts (by have:=za LT;rw[List.length_append];omega) hm2 (Nat.le_trans hbase2 (za HG2).grown.size)).mono ?_;rintro e U2 ⟨s2,n2,c2,rfl,hn3,ho3,hg3⟩;have XU:=Grew.block hg3 (za XU2) ((za HO2).ne (za XU2) zct.2.1);rw[List.append_assoc,show txB nm++zlx ts=zas ⟨nm,ts⟩ from rfl] at hn3 ho3;have K3:=zaa (show U2.cell? ⟨E,0,none⟩=some (.string nm)∧U2.cell? ⟨E,1,none⟩=some (.slice a m mc) from⟨zag XU 0 _ rfl,zag XU 1 _ rfl⟩);have HN3:=zaa hn3;have HO3:=zaa ho3;have HG3:=zaa ((za HG2).trans hg3)
    clear XU hn3 ho3 hg3)
 go_wp2_with fail
 refine hK.out _ _ ?_ (fun hHeld=>?_)
 ·try dsimp only
  first|exact za K3|exact za K2|exact za KB|exact⟨c0',c1'⟩
 clear hK K;refine hP ?_;refine hT 8 ?_;refine wpAnyH_done (by kernel_rfl) ?_ _
 go_wp2
 go_ret
 exact⟨s2,n2,c2,rfl,by first|exact HN3|exact zaa (by simpa using za HN3),za HO3,za HG3⟩
theorem zjn (base:Nat) {w0 w:World} {a:Option Addr} {nm:ByteArray} {ts:List Tgt} (hTs:TgsAt w0 a ts) (h0:Below w0.heap.size w0 w) (hb0:w0.heap.size≤base) {sp:Option Addr} {n0 c:Nat} {l:List Nat} (hn0:l.length=n0) (hown:OwnB base w sp c l) (m mc:Nat) (hm:ts.length=m)
  (hnm:nm.size≤1000000) (hts:∀ t∈ts,t.1.size≤1000000) (hsz:l.length+1000020+1000014*m≤140737488355328) (hm2:m≤1000) (hbase:base≤w.heap.size) :
  Calls Tryz.prog 92 #[.slice sp n0 c,.agg #[.string nm,.slice a m mc]] w fun e w'=>∃ sp' n' c',e=.returned (.slice sp' n' c')∧Hid ((l++zas ⟨nm,ts⟩).length=n')∧OwnB base w' sp' c' (l++zas ⟨nm,ts⟩)∧Grew w sp w' sp' :=
 zfp base hTs (CKs.of_below h0 hb0 hown) hn0 hown m mc hm hnm hts hsz hm2 hbase
end
end Go.Proofs.YtjcjleaicjhpeaaGreatDoor
