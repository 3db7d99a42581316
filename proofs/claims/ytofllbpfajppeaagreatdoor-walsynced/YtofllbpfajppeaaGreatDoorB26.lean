/- The document's disk: without, Used, Names. -/
import Derived.Test.YtofllbpfajppeaaGreatDoorB25
import Derived.Deep.RegionHeld3
set_option linter.unusedVariables false
set_option maxRecDepth 20000
set_option maxHeartbeats 16000000
namespace Go.Proofs.YtofllbpfajppeaaGreatDoor
section
open Go.ChangeShapes Go.WideShapes Go.ChangeAt Go.RowKit Go.Maps
theorem zh6 (base:Nat) (w:World) (sp:Option Addr) (c:Nat) (rs:List Rf) (s:ByteArray) (h:OwnR base w sp c rs) (hf:rs.length≤16) (hbs:base≤w.heap.size) :
  Calls Tryz.prog 129 #[.slice sp rs.length c,.string s] w fun e w'=>∃ sp' n' c',e=.returned (.slice sp' n' c')∧(zdm s.data.toList rs).length=n'∧OwnR base w' sp' c' (zdm s.data.toList rs)∧(∀ g,blk sp'=some g→w.heap.size≤g)∧Below w.heap.size w w':=by
 have B0:=zaa (show Below w.heap.size w (w.alloc (.cells #[] 116)) from(Below.refl _ _).alloc (Nat.le_refl _) _);have O0:=zaa (show OwnR base (w.alloc (.cells #[] 116)) (some ⟨w.heap.size,0,none⟩) 0 [] from⟨zhn (OwnR.empty w w.heap.size (Nat.le_refl _)).row hbs,by simp⟩);have RC:=zaa (show ∀ W:World,Below w.heap.size w W→OwnR base W sp c rs from fun W b=>h.later b);have HS:=zaa hbs;clear h hbs;obtain⟨n,hn⟩:∃ n,rs.length=n:=⟨_,rfl⟩
 rw[hn] at hf;rw[hn];have HN:=zaa hn;clear hn;go_enter Tryz.func129,Tryz.ntmps129
 go_wp2_with fail
 go_loopw [5,6] (fun v5 v6 wr=>∃ (j m:Nat) (op:Option Addr) (oc:Nat),j≤n∧m≤j∧v5=.slice op m oc∧v6=.int .i64 (j:Int)∧Hid ((zdm s.data.toList (rs.take j)).length=m)∧Hid (OwnR base wr op oc (zdm s.data.toList (rs.take j)))∧Hid (∀ g,blk op=some g→w.heap.size≤g)∧Hid (Below w.heap.size w wr)) (fun _ v6 _=>n - (intOf v6).toNat)
 case atStart=>exact⟨0,0,_,0,by omega,by omega,rfl,rfl,rfl,O0,zaa (fun g hg=>by simp[blk] at hg;omega),B0⟩
 case round =>
  obtain⟨j,m,op,oc,hj,hmj,rfl,rfl,HM,HO,HG,HB⟩:=hrel;by_cases hjn:j<n
  ·have y1:(j:Int)<(n:Int):=by omega
   have y0:(0:Int)≤(j:Int):=by omega
   have hjr:j<rs.length:=by rw[za HN];exact hjn
   obtain⟨g,rfl,p0,p1,p2,p3⟩:=(za RC wr (za HB)).cells j hjr;have ZM:=zaa (List.getElem_mem hjr);have TK:=zaa (List.take_succ_eq_append_getElem hjr);generalize rs[j]=z at *;by_cases heq:z.1=s.data.toList
   ·have z2:((str z.1).toList==s.toList)=true:=by
     rw[ByteArray.toList_eq,ByteArray.toList_eq,zam,heq];simp
    have D2:=zaa (show zdm s.data.toList (rs.take (j+1))=zdm s.data.toList (rs.take j) by
     rw[za TK];simp[zdm,List.filter_append,heq])
    clear heq
    go_wp2
    exact⟨⟨j+1,m,op,oc,by omega,by omega,rfl,by go_num,by rw[za D2];exact za HM,by rw[za D2];exact za HO,HG,HB⟩,by simp[intOf];omega⟩
   ·have z2:((str z.1).toList==s.toList)=false:=by
     rw[ByteArray.toList_eq,ByteArray.toList_eq,zam];simpa using heq
    have D2:=zaa (show zdm s.data.toList (rs.take (j+1))=zdm s.data.toList (rs.take j)++[z] by
     rw[za TK];simp[zdm,List.filter_append,heq])
    clear heq;have AZ:=zaa (show Below wr.heap.size wr (wr.alloc (zba z)) from(Below.refl _ _).alloc (Nat.le_refl _) _);have OZ:=zaa ((za HO).later (za AZ));have BZ:=zaa ((za HB).trans ((za AZ).mono (za HB).size));have XZ:=zaa (zad wr (zba z));have DZ:=zaa ((za RC _ (za BZ)).dat z (za ZM));have SZ:=zaa (show base≤(wr.alloc (zba z)).heap.size from Nat.le_trans (za HS) (za BZ).size);unfold zba at AZ OZ BZ DZ SZ
    go_wp2_with (at_builtin;refine zco rfl (.tmp 21) (.tmp 26) rfl base op m oc (zdm s.data.toList (rs.take j)) rfl (za HM) (by exact za OZ) wr.heap.size z rfl (by exact za XZ) (by exact za DZ) (by omega) (by exact za SZ) ?_;intro sp9 c9 V9 hO9 hG9;refine za ?_)
    refine zaa ?_;rw[← za D2] at hO9;have O9:=zaa hO9;have B9:=zaa (show Below w.heap.size w V9 from(za BZ).grown hG9.grown (za BZ).size (fun g' hg'=>za HG g' hg'))
    have G9:=zaa (show ∀ g,blk sp9=some g→w.heap.size≤g from fun g hg=>by
     rcases hG9.lies g hg with h1|h1
     ·exact za HG g h1
     ·exact Nat.le_trans (za BZ).size h1)
    clear hO9 hG9
    go_wp2
    exact⟨⟨j+1,m+1,sp9,c9,by omega,by omega,rfl,by go_num,by rw[za D2,List.length_append,za HM];rfl,za O9,za G9,za B9⟩,by simp[intOf];omega⟩
  ·have y1:¬ (j:Int)<(n:Int):=by omega
   have hjr:rs.take j=rs:=List.take_of_length_le (by rw[za HN];omega);rw[hjr] at HM HO;clear hjr
   go_wp2
   go_ret
   exact⟨op,m,oc,rfl,za HM,za HO,za HG,za HB⟩
def rss (rs:List Rf):Ds:=rs.map (fun x=>(x.1,x.2.s))
section
variable {base R room:Nat} {w w':World} {sp:Option Addr} {c:Nat} {rs:List Rf}
theorem zlg (h:RefAt base w R room sp c rs):Calls Tryz.prog 145 #[.pointer (some ⟨R,0,none⟩)] w fun e w'=>e=.returned (.int .i64 (usedS (rss rs):Int))∧Below w.heap.size w w':=by
 have RC:=zaa (show ∀ W:World,Below w.heap.size w W→RefAt base W R room sp c rs from fun W b=>h.later b);have h16:=h.few
 have N8:=zaa (show ∀ x∈rs,x.2.s.now.length≤262144 from fun x hx=>by
  have:=(h.own.dat x hx).ok
  rw[← this.now];exact this.len _)
 clear h;obtain⟨n,hn⟩:∃ n,rs.length=n:=⟨_,rfl⟩
 rw[hn] at h16;have HN:=zaa hn;go_enter Tryz.func145,Tryz.ntmps145
 go_wp2_with fail
 go_loopw [3,4] (fun v3 v4 wr=>∃ (j u:Nat),j≤n∧u≤j*262144∧v3=.int .i64 (u:Int)∧v4=.int .i64 (j:Int)∧Hid (usedS (rss (rs.take j))=u)∧Hid (Below w.heap.size w wr)) (fun _ v4 _=>n - (intOf v4).toNat)
 case atStart=>exact⟨0,0,by omega,by omega,rfl,rfl,rfl,zaa (Below.refl _ _)⟩
 case round =>
  obtain⟨j,u,hj,hu,rfl,rfl,HU,HB⟩:=hrel;have c1:=(za RC wr (za HB)).c1;rw[hn] at c1;by_cases hjn:j<n
  ·have y1:(j:Int)<(n:Int):=by omega
   have y0:(0:Int)≤(j:Int):=by omega
   have hjr:j<rs.length:=by omega
   obtain⟨g,rfl,p0,p1,p2,p3⟩:=(za RC wr (za HB)).own.cells j hjr;have NC:=zaa (zf2 base wr rs[j] ((za RC wr (za HB)).own.dat _ (List.getElem_mem hjr)))
   have U2:=zaa (show usedS (rss (rs.take (j+1)))=u+rs[j].2.s.now.length by
    rw[List.take_succ_eq_append_getElem hjr,← za HU]
    simp only[rss,usedS,List.map_append,List.map_cons,List.map_nil,List.sum_append_nat,List.sum_cons,List.sum_nil,Nat.add_zero])
   generalize rs[j]=z at *;obtain⟨nm,s,yp,yc,up,uc⟩:=z;unfold zhv at NC;simp only at p0 p1 p2 p3 NC U2;clear hn
   go_wp2_with fail
   refine(za NC).mono ?_;rintro e W ⟨sp2,n2,c2,rfl,hn2,h8,hX,b2⟩;have B2:=zaa ((za HB).trans (b2.mono (za HB).size));have U3:=zaa (show usedS (rss (rs.take (j+1)))=u+n2 by rw[za U2,hn2]);clear hX b2 hn2
   go_wp2
   exact⟨⟨j+1,u+n2,by omega,by omega,by go_num,by go_num,za U3,za B2⟩,by simp[intOf];omega⟩
  ·have y1:¬ (j:Int)<(n:Int):=by omega
   have hjr:rs.take j=rs:=List.take_of_length_le (by omega);rw[hjr] at HU;clear hjr hn
   go_wp2
   go_ret
   exact⟨by rw[za HU];rfl,za HB⟩
theorem zqq (h:RefAt base w R room sp c rs):Calls Tryz.prog 39 #[.pointer (some ⟨R,0,none⟩)] w fun e w'=>∃ sp' n' c',e=.returned (.slice sp' n' c')∧rs.length=n'∧zfv w.heap.size w' sp' c' (rs.map (·.1))∧Below w.heap.size w w':=by
 have RC:=zaa (show ∀ W:World,Below w.heap.size w W→RefAt base W R room sp c rs from fun W b=>h.later b);have h16:=h.few;have B0:=zaa (show Below w.heap.size w (w.alloc (.cells #[] 9)) from(Below.refl _ _).alloc (Nat.le_refl _) _);have O0:=zaa (show zfv w.heap.size (w.alloc (.cells #[] 9)) (some ⟨w.heap.size,0,none⟩) 0 [] from⟨rfl,.inr ⟨w.heap.size,0,#[],rfl,Nat.le_refl _,zad w _,Nat.le_refl _,by simp[maxLen],rfl,rfl⟩⟩);clear h;obtain⟨n,hn⟩:∃ n,rs.length=n:=⟨_,rfl⟩
 rw[hn] at h16;have HN:=zaa hn;go_enter Tryz.func39,Tryz.ntmps39
 go_wp2_with fail
 go_loopw [3,4] (fun v3 v4 wr=>∃ (j:Nat) (op:Option Addr) (oc:Nat),j≤n∧v3=.slice op j oc∧v4=.int .i64 (j:Int)∧Hid (zfv w.heap.size wr op oc ((rs.map (·.1)).take j))∧Hid (Below w.heap.size w wr)) (fun _ v4 _=>n - (intOf v4).toNat)
 case atStart=>exact⟨0,_,0,by omega,rfl,rfl,O0,B0⟩
 case round =>
  obtain⟨j,op,oc,hj,rfl,rfl,HO,HB⟩:=hrel;have c1:=(za RC wr (za HB)).c1;rw[hn] at c1;by_cases hjn:j<n
  ·have y1:(j:Int)<(n:Int):=by omega
   have y0:(0:Int)≤(j:Int):=by omega
   have hjr:j<rs.length:=by omega
   obtain⟨g,rfl,p0,_⟩:=(za RC wr (za HB)).own.cells j hjr
   have TK:=zaa (show(rs.map (·.1)).take (j+1)=(rs.map (·.1)).take j++[rs[j].1] by
    rw[List.take_succ_eq_append_getElem (by simpa using hjr),List.getElem_map])
   have HL:=zaa (show((rs.map (·.1)).take j).length=j by rw[List.length_take,List.length_map];omega);generalize rs[j].1=t at *;have AZ:=zaa (show Below wr.heap.size wr (wr.alloc (.cells #[.string (str t)] 9)) from(Below.refl _ _).alloc (Nat.le_refl _) _);have OZ:=zaa ((za HO).later (za AZ));have BZ:=zaa ((za HB).trans ((za AZ).mono (za HB).size));have XZ:=zaa (zad wr (.cells #[.string (str t)] 9));clear hn
   go_wp2_with (at_builtin;refine zh7 rfl (.tmp 19) (.tmp 28) rfl w.heap.size op j oc ((rs.map (·.1)).take j) rfl (za HL) (by exact za OZ) wr.heap.size t rfl (by exact za XZ) (by omega) (by exact(za BZ).size) ?_;intro sp9 c9 V9 hO9 hG9;refine za ?_)
   refine zaa ?_;rw[← za TK] at hO9;have O9:=zaa hO9;have B9:=zaa (show Below w.heap.size w V9 from(za BZ).grown hG9.grown (za BZ).size (fun g' hg'=>((za OZ).blk_is g' hg').1));clear hO9 hG9
   go_wp2
   exact⟨⟨j+1,sp9,c9,by omega,rfl,by go_num,za O9,za B9⟩,by simp[intOf];omega⟩
  ·have y1:¬ (j:Int)<(n:Int):=by omega
   obtain rfl:j=n:=by omega
   have hjr:(rs.map (·.1)).take j=rs.map (·.1):=List.take_of_length_le (by rw[List.length_map];omega);rw[hjr] at HO;clear hjr hn
   go_wp2
   go_ret
   exact⟨op,j,oc,rfl,za HN,za HO,za HB⟩
end
structure RDone (base R room:Nat) (w:World) (sp:Option Addr) (rs:List Rf) (rs':List Rf) (w':World):Prop where
 at_:∃ sp' c',RefAt base w' R room sp' c' rs'∧∀ g,zew sp' rs' g→zew sp rs g∨w.heap.size≤g
 grown:w.grownBy w' (some R)
def zhf (base R room:Nat) (w:World) (sp:Option Addr) (rs:List Rf) (r:Nat×Ds) (e:Ending) (w':World):Prop :=
 e=.returned (.int .i64 (r.1:Int))∧∃ rs',rss rs'=r.2∧RDone base R room w sp rs rs' w'
section
variable {base R room:Nat} {w w':World} {sp:Option Addr} {c:Nat} {rs rs':List Rf}
theorem zbr (k:Nm) (rs:List Rf):zcc k (rss rs)=(zcc k rs).map (fun v=>v.s):=ztd (fun v:RV=>v.s) k rs
theorem zlb (k:Nm) (v:RV) (rs:List Rf):rss (zbi k v rs)=zbi k v.s (rss rs):=ziw (fun v:RV=>v.s) k v rs
theorem zxz (k:Nm) (rs:List Rf):rss (zdm k rs)=zdm k (rss rs):=znz (fun v:RV=>v.s) k rs
theorem RefAt.stay (h:RefAt base w R room sp c rs) (hb:Below w.heap.size w w'):RDone base R room w sp rs rs w':=⟨⟨sp,c,h.later hb,fun _ hg=>.inl hg⟩,zb0 (some R) hb⟩
theorem RefAt.stored (h:RefAt base w R room sp c rs) {W:World} (hb:Below w.heap.size w W) {sp':Option Addr} {c' n':Nat} (ho:OwnR base W sp' c' rs') (hn:rs'.length=n') (hr:zbf rs') (hf:rs'.length≤16) (hfoot:∀ g,zew sp' rs' g→zew sp rs g∨w.heap.size≤g) :
  RDone base R room w sp rs rs' (W.setCell ⟨R,1,none⟩ (.slice sp' n' c')):=by
 subst hn;refine⟨⟨sp',c',(h.later hb).set sp' c' rs' ho hr hf,hfoot⟩,?_⟩;have hg:=zaf W R 1 (.slice sp' rs'.length c');exact⟨hg.os.trans hb.os,hg.tape.trans hb.tape,hg.output.trans hb.output,Nat.le_trans hb.size hg.size,fun i hi hne=>(hg.block i (Nat.lt_of_lt_of_le hi hb.size) hne).trans (hb.block i hi)⟩
theorem zhf.stay {r:Nat×Ds} {e:Ending} (h:RefAt base w R room sp c rs) (hb:Below w.heap.size w w') (he:e=.returned (.int .i64 (r.1:Int))) (hr:r.2=rss rs):zhf base R room w sp rs r e w':=⟨he,rs,hr.symm,h.stay hb⟩
theorem RefAt.getI (h:RefAt base w R room sp c rs) (i:Nat) (hi:i<rs.length):zcc rs[i].1 rs=some rs[i].2:=zgc h.rise (List.getElem_mem hi)
theorem ztb (sp':Option Addr) (k:Nm) (v:RV) (hr:zbf rs) {n0:Nat} (h1:∀ g,blk sp'=some g→n0≤g) (h2:∀ g,Rf.foot (k,v) g→zew sp rs g∨n0≤g):∀ g,zew sp' (zbi k v rs) g→zew sp rs g∨n0≤g:=by
 rintro g (hg|⟨x,hx,hg⟩)
 ·exact .inr (h1 g hg)
 ·rcases(zb3 hr x).1 hx with rfl|⟨hx,_⟩
  ·exact h2 g hg
  ·exact .inl (.inr ⟨x,hx,hg⟩)
theorem zy8 (sp':Option Addr) (k:Nm) {n0:Nat} (h1:∀ g,blk sp'=some g→n0≤g):∀ g,zew sp' (zdm k rs) g→zew sp rs g∨n0≤g:=by
 rintro g (hg|⟨x,hx,hg⟩)
 ·exact .inr (h1 g hg)
 ·exact .inl (.inr ⟨x,((zbq x).1 hx).1,hg⟩)
theorem zg8 {k:Nm} {v:RV} (hr:zbf rs) (hk:k∈rs.map (·.1)):(zbi k v rs).length=rs.length:=by rw[zdb hr,if_pos hk]
theorem zon (h:RefAt base w R room sp c rs) (hbs:base≤w.heap.size) (s:ByteArray) :
  Calls Tryz.prog 98 #[.pointer (some ⟨R,0,none⟩),.string s] w (zhf base R room w sp rs (zat s.data.toList (rss rs))):=by
 have FC:=zaa (zcx h s);have c1:=h.c1;have WC:=zaa (zh6 base w sp c rs s h.own h.few hbs)
 have EN:=zaa (show s.data.toList ∉ rs.map (·.1)→zhf base R room w sp rs (zat s.data.toList (rss rs)) (.returned (.int .i64 8)) w from fun hn=>by
  have hg:=zb8.2 hn
  exact zhf.stay h (Below.refl _ _) (by simp[zat,zbr,hg]) (by simp[zat,zbr,hg]))
 have EY:=zaa (show ∀ i (hi:i<rs.length),rs[i].1=s.data.toList→∀ W sp' n' c',Below w.heap.size w W→OwnR base W sp' c' (zdm s.data.toList rs)→(zdm s.data.toList rs).length=n'→(∀ g,blk sp'=some g→w.heap.size≤g)→zhf base R room w sp rs (zat s.data.toList (rss rs)) (.returned (.int .i64 0)) (W.setCell ⟨R,1,none⟩ (.slice sp' n' c')) from fun i hi he W sp' n' c' hb ho hn hg=>by
  have hgs:=h.getI i hi;rw[he] at hgs
  refine⟨by simp[zat,zbr,hgs],zdm s.data.toList rs,by simp[zat,zbr,hgs,zxz],h.stored hb ho hn (h.rise.del _) (Nat.le_trans (List.length_filter_le _ _) h.few) (zy8 sp' _ hg)⟩)
 have VC:=zaa (fun W (hb:Below w.heap.size w W)=>show W.cell? ⟨R,1,none⟩=some (.slice sp rs.length c)∧W.frozen? ⟨R,1,none⟩=false from⟨(h.later hb).c1,(h.later hb).z1⟩);clear h hbs;generalize hn:rs.length=n at c1 WC VC;go_enter Tryz.func98,Tryz.ntmps98
 go_wp2_with fail
 refine(za FC).mono ?_;rintro e w2 ⟨rfl,hF⟩;rcases hF with⟨i,hi,he,rfl⟩|⟨hno,rfl⟩
 ·have hi0:¬ ((i:Int)<0):=by omega
  have EY2:=zaa (za EY i hi he);clear hi he EY hn
  go_wp2_with (go_at_call 129;refine(za WC).mono ?_;rintro e W ⟨sp',n',c',rfl,hn',ho',hg',hb'⟩;obtain⟨v1,z1⟩:=za VC W hb';have E3:=zaa (za EY2 W sp' n' c' hb' ho' hn' hg');clear hn' ho' hg' hb')
  go_ret
  exact za E3
 ·have E3:=zaa (za EN hno);clear hno hn
  go_wp2
  go_ret
  exact za E3
theorem SOk.synced {s:Sp} (h:SOk s):SOk ⟨true,s.now,[]⟩:=⟨trivial,by simp,by rw[← h.now];exact h.len _,by rw[← h.now];exact h.lt _,by simp⟩
theorem zsl (h:RefAt base w R room sp c rs) (hbs:base≤w.heap.size) (s:ByteArray) :
  Calls Tryz.prog 74 #[.pointer (some ⟨R,0,none⟩),.string s] w (zhf base R room w sp rs (zax s.data.toList (rss rs))):=by
 have FC:=zaa (zcx h s)
 have EN:=zaa (show s.data.toList ∉ rs.map (·.1)→zhf base R room w sp rs (zax s.data.toList (rss rs)) (.returned (.int .i64 8)) w from fun hn=>by
  have hg:=zb8.2 hn
  exact zhf.stay h (Below.refl _ _) (by simp[zax,zbr,hg]) (by simp[zax,zbr,hg]))
 have VC:=zaa (fun W (hb:Below w.heap.size w W)=>h.later hb);have H:=zaa h;have HS:=zaa hbs;clear h hbs;go_enter Tryz.func74,Tryz.ntmps74
 go_wp2_with fail
 refine(za FC).mono ?_;rintro e w2 ⟨rfl,hF⟩;rcases hF with⟨i,hi,he,rfl⟩|⟨hno,rfl⟩
 ·have hi0:¬ ((i:Int)<0):=by omega
  have hi1:(i:Int)<(rs.length:Int):=by omega
  have hi2:(0:Int)≤(i:Int):=by omega
  obtain⟨g,rfl,p0,p1,p2,p3⟩:=(za H).own.cells i hi;have c1:=(za H).c1;have NC:=zaa (fun W (hb:Below w2.heap.size w2 W)=>zf2 base W rs[i] ((za VC W hb).own.dat _ (List.getElem_mem hi)))
  have PC:=zaa (show ∀ W,Below w2.heap.size w2 W→W.cell? ⟨R,1,none⟩=some (.slice (some ⟨g,0,none⟩) rs.length c)∧W.frozen? ⟨R,1,none⟩=false∧W.cell? ⟨g,i*4,none⟩=some (.string (str rs[i].1))∧W.cell? ⟨g,i*4+1,none⟩=some (.bool rs[i].2.s.la)∧W.cell? ⟨g,i*4+2,none⟩=some (.slice rs[i].2.yp rs[i].2.s.y.length rs[i].2.yc)∧W.cell? ⟨g,i*4+3,none⟩=some (.slice rs[i].2.up rs[i].2.s.us.length rs[i].2.uc) from fun W b=>by
   obtain⟨g',e',q⟩:=(za VC W b).own.cells i hi;obtain rfl:g=g':=by simpa using e'
   exact⟨(za VC W b).c1,(za VC W b).z1,q⟩)
  have GI:=zaa (show zcc s.data.toList rs=some rs[i].2 by rw[← he];exact(za H).getI i hi);have OK:=zaa (((za H).own.dat _ (List.getElem_mem hi)).ok);have KM:=zaa (show s.data.toList∈rs.map (·.1) by rw[← he];exact List.mem_map.2 ⟨_,List.getElem_mem hi,rfl⟩);generalize rs[i]=z at *;obtain⟨nm,t,yp,yc,up,uc⟩:=z;unfold zhv at NC;simp only at he p0 p1 p2 p3 NC PC OK GI
  have UC:=zaa (show ∀ W sp2 n2 c2,Below w2.heap.size w2 W→t.now.length=n2→Bx w2.heap.size W sp2 c2 t.now→Calls Tryz.prog 112 #[.slice (some ⟨g,0,none⟩) rs.length c,.agg #[.string s,.bool true,.slice sp2 n2 c2,.slice none 0 0]] W fun e w'=>∃ sp' n' c',e=.returned (.slice sp' n' c')∧zhf base R room w2 (some ⟨g,0,none⟩) rs (zax s.data.toList (rss rs)) (.returned (.int .i64 0)) (w'.setCell ⟨R,1,none⟩ (.slice sp' n' c'))∧Below w2.heap.size w2 w' from fun W sp2 n2 c2 hb hn2 hX=>by
   subst hn2;have hle:=Nat.le_trans (za HS) hb.size;have hat:RfAt base W (s.data.toList,⟨⟨true,t.now,[]⟩,sp2,c2,none,0⟩):=⟨(za OK).synced,hX.mono (za HS),W.ownsRow_nil base 150 3,by simp[Sp.us,usL]⟩
   have:=zjo base W (some ⟨g,0,none⟩) c rs (s.data.toList,⟨⟨true,t.now,[]⟩,sp2,c2,none,0⟩) (za VC W hb).own (za H).rise (za H).few hat hle;unfold zhv at this;simp only[ze6] at this;refine this.mono ?_;rintro e W' ⟨sp',n',c',rfl,hn',ho',hg',hb'⟩;have hbb:=hb.trans (hb'.mono hb.size);refine⟨sp',n',c',rfl,⟨by simp[zax,zbr,za GI],_,?_,(za H).stored hbb ho' hn' ((za H).rise.put _ _) (by rw[zg8 (za H).rise (za KM)];exact(za H).few) (ztb sp' _ _ (za H).rise (fun g hg=>Nat.le_trans hb.size (hg' g hg)) ?_)⟩,hbb⟩
   ·rw[zlb];simp[zax,zbr,za GI]
   ·rintro g (hg|hg)
    ·exact .inr (hX.isT g hg).1
    ·cases hg)
  have nn:∀ x:Nat,x=rs.length→x=rs.length:=fun _ h=>h;generalize rs.length=n at c1 PC UC hi1;clear he hi nn;obtain⟨r1,r2,_⟩:=za PC w2 (Below.refl _ _)
  go_wp2_with fail
  go_region_law (first
   |(go_simp
     go_at_call 84
     refine(za NC w2.drew ((Below.refl _ _).drew)).mono ?_;rintro e W ⟨sp2,n2,c2,rfl,hn2,h8,hX,b2⟩;have BN:=zaa (show Below w2.heap.size w2 W from⟨b2.os,b2.tape,b2.output,b2.size,b2.block⟩);have UX:=zaa (za UC W sp2 n2 c2 (za BN) hn2 hX);obtain⟨u1,u2,_⟩:=za PC W (za BN)
     clear b2 hX hn2)
   |(go_simp
     go_at_call 112
     refine(za UX).mono ?_;rintro e W' ⟨sp',n',c',rfl,hE,b3⟩;have E3:=zaa hE;obtain⟨v1,z1,_⟩:=za PC W' b3
     clear hE b3))
  all_goals
   go_wp2
   go_ret
   exact za E3
 ·have E3:=zaa (za EN hno);clear hno
  go_wp2
  go_ret
  exact za E3
end
theorem zyg (us:List Un):∀ v∈us.flatMap zv9,v.oneCell'=true:=by
 intro v hv;obtain⟨u,_,hu⟩:=List.mem_flatMap.1 hv;simp only[zv9,List.mem_cons,List.not_mem_nil,or_false] at hu;rcases hu with rfl|rfl|rfl <;> rfl
theorem infoU:(Tryz.prog.info? 150).map (fun i=>(i.zero,i.size,i.bytes))=some (some (.agg #[.bool false,.int .i64 0,.int .u8 0]),3,24):=by kernel_rfl
section
variable {base b2:Nat} {w w':World} {sp xp:Option Addr} {c xc:Nat} {us vs:List Un}
theorem zgq.empty (w:World) (base:Nat) (hb:base≤w.heap.size):zgq base (w.alloc (.cells #[] 150)) (some ⟨w.heap.size,0,none⟩) 0 [] :=
 ⟨rfl,.inr ⟨w.heap.size,0,#[],rfl,hb,zad w _,Nat.le_refl _,by simp[maxLen],rfl,rfl⟩⟩
theorem zgq.one {B:Nat} (u:Un) (hB:w.heap[B]? = some (.cells (zv9 u).toArray 150 (0,0))):zgq 0 w (some ⟨B,0,none⟩) 1 [u] :=
 ⟨by simp[zv9],.inr ⟨B,1,(zv9 u).toArray,rfl,Nat.zero_le _,hB,Nat.le_refl _,by simp[maxLen],rfl,by simp[zv9]⟩⟩
theorem zsp (hown:zgq base w sp c us) (src:zgq b2 w xp xc vs) (hn:(us.length+vs.length)*24≤140737488355328) (hbase:base≤w.heap.size) (ty:TypeId) :
  ∃ sp' c' w',(Builtin.append_ #[114,114] ty #[.slice sp us.length c,.slice xp vs.length xc]).run Tryz.prog w=.ok (.slice sp' (us.length+vs.length) c') w'∧zgq base w' sp' c' (us++vs)∧Grew w sp w' sp':=by
 obtain⟨i0,hi,hz0,hz1,hz2⟩:=info_parts infoU;have hcap:us.length≤c∧(sp=none→c=0):=by
  rcases hown.2 with⟨hv,h0⟩|⟨g,cap,cur,hv,_,_,hle,_⟩
  ·simp only[Value.slice.injEq] at hv;exact⟨by omega,fun _=>hv.2.2⟩
  ·simp only[Value.slice.injEq] at hv;exact⟨by rw[hv.2.2];exact hle,fun e=>by rw[hv.1] at e;cases e⟩
 rcases src.2 with⟨hv,h0⟩|⟨g,cap,cur,hv,_,hg,hle,hmx,hsz,ht⟩
 ·simp only[Value.slice.injEq] at hv;obtain⟨rfl,_,rfl⟩:=hv;have hvs:vs=[]:=List.eq_nil_of_length_eq_zero h0;subst hvs;refine⟨sp,c,w,?_,by rw[List.append_nil];exact hown,Grew.refl _ _⟩;cases sp with
  |none =>
   have h0:us=[]:=by
    rcases hown.2 with⟨_,h0⟩|⟨g,cap,cur,hv,_⟩
    ·exact List.eq_nil_of_length_eq_zero h0
    ·simp only[Value.slice.injEq] at hv;cases hv.1
   subst h0;rw[hcap.2 rfl];simp[Builtin.append_,run_underlying Tryz.underlying114,sizeOf,typeInfo,hi,Builtin.lenOf,Builtin.firstCells]
  |some ad =>
   simp[Builtin.append_,run_underlying Tryz.underlying114,sizeOf,typeInfo,hi,Builtin.lenOf,Builtin.firstCells,hcap.1,storeCells]
 ·simp only[Value.slice.injEq] at hv;obtain⟨rfl,_,rfl⟩:=hv;obtain⟨v',w',hrun,h1,h2,_,h5⟩:=run_append_own_at (P:=Tryz.prog) w base 114 ty 150 i0 _ 3 24 Tryz.underlying114 hi hz0 hz1 hz2 rfl (by omega) _ _ _ hown ⟨g,0,none⟩ vs.length xc (vs.flatMap zv9) (zjz vs)
   (fun j u hu=>by
    rw[Addr.add_lit,Nat.zero_add,cell_of_row w g j cur _ _ hg];have hlt:j<vs.length*3:=by rw[← zjz];exact(List.getElem?_eq_some_iff.1 hu).1
    rw[← ht,List.getElem?_take,if_pos hlt] at hu
    simpa using hu) (zyg vs) (by simp only[maxLen];omega) (by omega) hbase
  have hv:∃ sp' c',v'=.slice sp' (us.length+vs.length) c':=by
   rcases h1.2 with⟨hv,h0⟩|⟨g,cap,cur,hv,_⟩
   ·exact⟨none,0,by rw[hv,h0]⟩
   ·exact⟨_,_,hv⟩
  obtain⟨sp',c',rfl⟩:=hv;rw[zal] at h2;rw[zal,zal] at h5;refine⟨sp',c',w',hrun,?_,⟨h2,fun g hg=>?_⟩⟩
  ·show w'.ownsRow base 150 3 (.slice sp' (us++vs).length c') (us++vs).length ((us++vs).flatMap zv9)
   rw[List.flatMap_append,List.length_append];exact h1
  ·rcases h5 with h5|h5
   ·exact .inl (h5.symm.trans hg)
   ·rw[h5] at hg;exact .inr (Nat.le_of_eq (Option.some.inj hg))
end
theorem zbn {w:World} {ops:Array Oper} {rest:List Oper} {o:Oper} {a:Act} {Q:Exit→Act→World→Prop} (hgd:o.guard=none) (s x:Operand)
  (ho:o.op=.call { callee:=.builtin .append,args:=#[s,x],argTypes:=#[114,114] })
  (base b2:Nat) (sp xp:Option Addr) (n m c xc:Nat) (us vs:List Un) (hs:a.eval s=.slice sp n c) (hx:a.eval x=.slice xp m xc) (hn:us.length=n) (hm:vs.length=m) (hown:zgq base w sp c us) (src:zgq b2 w xp xc vs) (hsz:(n+m)*24≤140737488355328) (hbase:base≤w.heap.size)
  (hk:∀ sp' n' c' w',Hid ((us++vs).length=n')→zgq base w' sp' c' (us++vs)→Grew w sp w' sp'→wpList Tryz.prog ops Q rest (a.put o.dst (.slice sp' n' c')) w') :
  wpList Tryz.prog ops Q (o::rest) a w:=by
 subst hn hm;refine wpList_plain hgd fun K hK=>?_;obtain⟨sp',c',w',hrun,h1,h2⟩:=zsp hown src hsz hbase o.type;unfold Oper.wp;simp[execOp,ho,resolve,invoke,builtin,hs,hx,hrun,Result.andThen];have:=hK _ _ (hk sp' (us++vs).length c' w' rfl h1 h2);rw[List.length_append] at this;exact this
section
variable {base R room:Nat} {w w':World} {sp:Option Addr} {c:Nat} {rs rs':List Rf}
theorem zqt (h:RefAt base w R room sp c rs) (s:ByteArray) (x:Sp) (hx:zcc s.data.toList (rss rs)=some x) :
  Calls Tryz.prog 45 #[.pointer (some ⟨R,0,none⟩),.string s] w fun e w'=>∃ sp n c,e=.returned (.tuple #[.slice sp n c,.int .i64 0])∧x.now.length=n∧Bx w.heap.size w' sp c x.now∧Below w.heap.size w w':=by
 have FC:=zaa (zcx h s);have H:=zaa h;rw[zbr,Option.map_eq_some_iff] at hx;obtain⟨v,hv,rfl⟩:=hx;have HV:=zaa hv;clear h hv;go_enter Tryz.func45,Tryz.ntmps45
 go_wp2_with fail
 refine(za FC).mono ?_;rintro e w2 ⟨rfl,hF⟩;rcases hF with⟨i,hi,he,rfl⟩|⟨hno,rfl⟩
 ·have hi0:¬ ((i:Int)<0):=by omega
  have hi1:(i:Int)<(rs.length:Int):=by omega
  have hi2:(0:Int)≤(i:Int):=by omega
  obtain⟨g,rfl,p0,p1,p2,p3⟩:=(za H).own.cells i hi;have c1:=(za H).c1;have NC:=zaa (zf2 base w2 rs[i] ((za H).own.dat _ (List.getElem_mem hi)));have hvi:rs[i].2=v:=by
   have h1:=(za H).getI i hi;rw[he,za HV] at h1;exact(Option.some.inj h1).symm
  generalize rs[i]=z at *;obtain⟨nm,t,yp,yc,up,uc⟩:=z;simp only at hvi;subst hvi;unfold zhv at NC;simp only at p0 p1 p2 p3 NC;clear he hi;generalize rs.length=n at c1 hi1
  go_wp2_with (go_at_call 84;refine(za NC).mono ?_;rintro e W ⟨sp2,n2,c2,rfl,hn2,h8,hX,b2⟩;have N2:=zaa hn2;have X2:=zaa hX;have B2:=zaa b2;clear hn2 hX b2)
  go_ret2
  exact⟨sp2,n2,c2,rfl,za N2,za X2,za B2⟩
 ·exact absurd (List.mem_map.2 ⟨_,zcp (za HV),rfl⟩) hno
theorem zzx (h:RefAt base w R room sp c rs) (s:ByteArray) (hx:zcc s.data.toList (rss rs)=none) :
  Calls Tryz.prog 45 #[.pointer (some ⟨R,0,none⟩),.string s] w fun e w'=>e=.returned (.tuple #[.slice none 0 0,.int .i64 8])∧w'=w:=by
 have FC:=zaa (zcx h s);rw[zbr,Option.map_eq_none_iff,zb8] at hx;have HV:=zaa hx;clear h hx;go_enter Tryz.func45,Tryz.ntmps45
 go_wp2_with fail
 refine(za FC).mono ?_;rintro e w2 ⟨rfl,hF⟩;rcases hF with⟨i,hi,he,rfl⟩|⟨hno,rfl⟩
 ·exact absurd (he ▸ List.mem_map.2 ⟨_,List.getElem_mem hi,rfl⟩) (za HV)
 ·go_wp2
  go_ret2
  exact⟨rfl,rfl⟩
theorem zx0 (h:RefAt base w R room sp c rs) (s:ByteArray) (x:Sp) (hx:zcc s.data.toList (rss rs)=some x) (hl:x.la=true) :
  Calls Tryz.prog 47 #[.pointer (some ⟨R,0,none⟩),.string s] w fun e w'=>∃ sp n c,e=.returned (.tuple #[.slice sp n c,.int .i64 0])∧x.y.length=n∧Bx w.heap.size w' sp c x.y∧Below w.heap.size w w':=by
 have FC:=zaa (zcx h s);have H:=zaa h;rw[zbr,Option.map_eq_some_iff] at hx;obtain⟨v,hv,rfl⟩:=hx;have HV:=zaa hv;clear h hv;go_enter Tryz.func47,Tryz.ntmps47
 go_wp2_with fail
 refine(za FC).mono ?_;rintro e w2 ⟨rfl,hF⟩;rcases hF with⟨i,hi,he,rfl⟩|⟨hno,rfl⟩
 ·have hi0:¬ ((i:Int)<0):=by omega
  have hi1:(i:Int)<(rs.length:Int):=by omega
  have hi2:(0:Int)≤(i:Int):=by omega
  have A0:=zaa (show Below w2.heap.size w2 (w2.alloc (.cells #[] 5)) from(Below.refl _ _).alloc (Nat.le_refl _) _);have O0:=zaa ((OwnB.empty w2 w2.heap.size (Nat.le_refl _)).toBx);obtain⟨g,rfl,p0,p1,p2,p3⟩:=(za H).own.cells i hi;obtain⟨g',e',_,_,r2,_⟩:=((za H).later (za A0)).own.cells i hi;obtain rfl:g=g':=by simpa using e'
  have c1:=(za H).c1;have d1:=((za H).later (za A0)).c1;have YC:=zaa (((za H).later (za A0)).own.dat _ (List.getElem_mem hi)).sure;have Y8:=zaa ((za H).own.dat _ (List.getElem_mem hi)).ok.y8;have hvi:rs[i].2=v:=by
   have h1:=(za H).getI i hi;rw[he,za HV] at h1;exact(Option.some.inj h1).symm
  rw[hvi,hl] at p1;generalize rs[i]=z at *;obtain⟨nm,t,yp,yc,up,uc⟩:=z;simp only at hvi;subst hvi;simp only at p0 p1 p2 p3 YC Y8 r2;clear he hi hl e';generalize rs.length=n at c1 hi1 d1;generalize hny:t.y.length=ny at p2 r2 Y8;have HNY:=zaa hny;clear hny;have hy8:=za Y8
  go_wp2_with (at_builtin;refine zeb rfl (.tmp 25) (.tmp 33) rfl w2.heap.size (some ⟨w2.heap.size,0,none⟩) 0 0 [] rfl rfl (by exact za O0) yp ny yc rfl t.y (za HNY) (by exact(za YC).bytes) (za YC).nil0 (by simp;omega) (by exact(za A0).size) ?_;intro sp3 n3 c3 W3 hn3 hX3 hG3;refine za ?_)
  refine zaa ?_;rw[List.nil_append] at hn3 hX3;have B3:=zaa (show Below w2.heap.size w2 W3 from(za A0).grown hG3.grown (za A0).size (fun g hg=>by simp[blk] at hg;omega));have X3:=zaa hX3;clear hX3 hG3
  go_wp2
  go_ret2
  exact⟨sp3,n3,c3,rfl,za hn3,za X3,za B3⟩
 ·exact absurd (List.mem_map.2 ⟨_,zcp (za HV),rfl⟩) hno
theorem RefAt.new (w:World) (hb:base≤w.heap.size) (room:Nat):RefAt base (w.alloc (.cells #[.int .i64 (room:Int),.slice none 0 0] 101)) w.heap.size room none 0 [] :=
 ⟨zad w _,⟨World.ownsRow_nil _ _ _ _,by simp⟩,hb,List.Pairwise.nil,by simp⟩
theorem zvm (w:World) (hb:base≤w.heap.size) (z:Int):Calls Tryz.prog 26 #[.int .i64 z] w fun e w'=>e=.returned (.pointer (some ⟨w.heap.size,0,none⟩))∧RefAt base w' w.heap.size z.toNat none 0 []∧Below w.heap.size w w':=by
 have HD:=zaa (fun r=>RefAt.new (base:=base) w hb r);have HB:=zaa (fun (r:Nat)=>show Below w.heap.size w (w.alloc (.cells #[.int .i64 (r:Int),.slice none 0 0] 101)) from(Below.refl _ _).alloc (Nat.le_refl _) _);clear hb;by_cases hz:z<0
 ·have e1:z.toNat=0:=by omega
  rw[e1];go_enter Tryz.func26,Tryz.ntmps26
  go_wp2
  go_ret
  exact⟨rfl,za HD 0,za HB 0⟩
 ·obtain⟨r,rfl⟩:∃ r:Nat,z=(r:Int):=⟨z.toNat,by omega⟩
  rw[Int.toNat_natCast];go_enter Tryz.func26,Tryz.ntmps26
  go_wp2
  go_ret
  exact⟨rfl,za HD r,za HB r⟩
end
theorem zt4 (cs:List Chg) (c:Chg):usL (cs++[c])=usL cs++zaj c:=by simp[usL]
theorem zAa:∀ (cs:List Chg),(∀ c∈cs,zll c)→(usL cs).length≤cs.length*262144
 |[],_=>by simp[usL]
 |c::cs,h=>by
  have ih:=zAa cs (fun x hx=>h x (List.mem_cons_of_mem _ hx));have hc:=h c List.mem_cons_self;have hl:(usL (c::cs)).length=zap c+(usL cs).length:=by simp[usL,zbc]
  have h1:zap c≤262144:=by
   unfold zap;cases hb:c.1 with
   |true=>simp
   |false=>simp only[Bool.false_eq_true,if_false];have:=(hc.1 hb).1;omega
  rw[hl,List.length_cons];omega
theorem SOk.cutS {s:Sp} (h:SOk s) (k:Nat) (hk:k≤s.now.length):SOk ⟨s.la,s.y,s.cs++[(true,k,[])]⟩:=by
 have h8:s.now.length≤262144:=by rw[← h.now];exact h.len _
 refine⟨zfy _ _ _ h.fit hk (by show s.now.length+0≤_;omega),?_,h.y8,h.yb,?_⟩
 ·intro c hc;rcases List.mem_append.1 hc with hc|hc
  ·exact h.small c hc
  ·obtain rfl:c=(true,k,[]):=by simpa using hc
   exact⟨fun e=>(by cases e),fun _=>rfl⟩
 ·intro c hc;rcases List.mem_append.1 hc with hc|hc
  ·exact h.cb c hc
  ·obtain rfl:c=(true,k,[]):=by simpa using hc
   simp
section
variable {base R room:Nat} {w w':World} {sp:Option Addr} {c:Nat} {rs rs':List Rf}
theorem RefAt.putS (h:RefAt base w R room sp c rs) (hbs:base≤w.heap.size) (nm:Nm) (v:RV) (W:World) (hb:Below w.heap.size w W) (hat:RfAt base W (nm,v)) (hfew:(zbi nm v rs).length≤16) (hfoot:∀ g,Rf.foot (nm,v) g→zew sp rs g∨w.heap.size≤g) :
  Calls Tryz.prog 112 #[.slice sp rs.length c,.agg #[.string (str nm),.bool v.s.la,.slice v.yp v.s.y.length v.yc,.slice v.up v.s.us.length v.uc]] W fun e w'=>∃ sp' n' c',e=.returned (.slice sp' n' c')∧RDone base R room w sp rs (zbi nm v rs) (w'.setCell ⟨R,1,none⟩ (.slice sp' n' c'))∧Below w.heap.size w w':=by
 have:=zjo base W sp c rs (nm,v) (h.later hb).own h.rise h.few hat (Nat.le_trans hbs hb.size);unfold zhv at this;refine this.mono ?_;rintro e W' ⟨sp',n',c',rfl,hn',ho',hg',hb'⟩;have hbb:=hb.trans (hb'.mono hb.size);exact⟨sp',n',c',rfl,h.stored hbb ho' hn' (h.rise.put _ _) hfew (ztb sp' _ _ h.rise (fun g hg=>Nat.le_trans hb.size (hg' g hg)) hfoot),hbb⟩
theorem zvg (h:RefAt base w R room sp c rs) (hbs:base≤w.heap.size) (s:ByteArray) (z:Int) (hcs:∀ x∈rs,x.2.s.cs.length≤300) :
  Calls Tryz.prog 102 #[.pointer (some ⟨R,0,none⟩),.string s,.int .i64 z] w (zhf base R room w sp rs (zf s.data.toList z (rss rs))):=by
 have FC:=zaa (zcx h s)
 have EN:=zaa (show s.data.toList ∉ rs.map (·.1)→zhf base R room w sp rs (zf s.data.toList z (rss rs)) (.returned (.int .i64 8)) w from fun hn=>by
  have hg:=zb8.2 hn
  exact zhf.stay h (Below.refl _ _) (by simp[zf,zbr,hg]) (by simp[zf,zbr,hg]))
 have VC:=zaa (fun W (hb:Below w.heap.size w W)=>h.later hb);have H:=zaa h;have HS:=zaa hbs;have HCS:=zaa hcs;clear h hbs hcs;go_enter Tryz.func102,Tryz.ntmps102
 go_wp2_with fail
 refine(za FC).mono ?_;rintro e w2 ⟨rfl,hF⟩;rcases hF with⟨i,hi,he,rfl⟩|⟨hno,rfl⟩
 ·have hi0:¬ ((i:Int)<0):=by omega
  have hi1:(i:Int)<(rs.length:Int):=by omega
  have hi2:(0:Int)≤(i:Int):=by omega
  obtain⟨g,rfl,p0,p1,p2,p3⟩:=(za H).own.cells i hi;have c1:=(za H).c1;have DAT:=zaa (fun W (hb:Below w2.heap.size w2 W)=>(za VC W hb).own.dat _ (List.getElem_mem hi));have GI:=zaa (show zcc s.data.toList rs=some rs[i].2 by rw[← he];exact(za H).getI i hi);have ZM:=zaa (List.getElem_mem hi);have KM:=zaa (show s.data.toList∈rs.map (·.1) by rw[← he];exact List.mem_map.2 ⟨_,List.getElem_mem hi,rfl⟩);have HE:=zaa he;clear he;generalize rs[i]=x at *;obtain⟨nm,t,yp,yc,up,uc⟩:=x;have hnm:nm=s.data.toList:=za HE;subst hnm;simp only[ze6] at p0;simp only at p1 p2 p3 DAT GI;have OK:=zaa (za DAT w2 (Below.refl _ _)).ok;have b1:Below w2.heap.size w2 (w2.alloc (zba (s.data.toList,⟨t,yp,yc,up,uc⟩))):=(Below.refl _ _).alloc (Nat.le_refl _) _;have hs1:(w2.alloc (zba (s.data.toList,⟨t,yp,yc,up,uc⟩))).heap.size=w2.heap.size+1:=by simp
  have X1:=zaa (zad w2 (zba (s.data.toList,⟨t,yp,yc,up,uc⟩)));have NC:=zaa (zf2 base _ (s.data.toList,⟨t,yp,yc,up,uc⟩) (za DAT _ b1));have hdz:z<0∨z > t.now.length→zf s.data.toList z (rss rs)=(2,rss rs):=fun hz=>by
   simp only[zf,zbr,za GI,Option.map_some];rw[if_pos hz]
  have E2:=zaa (show(z<0∨z > t.now.length)→∀ W,Below w2.heap.size w2 W→zhf base R room w2 (some ⟨g,0,none⟩) rs (zf s.data.toList z (rss rs)) (.returned (.int .i64 2)) W from fun hz W hb=>zhf.stay (za H) hb (by rw[hdz hz];rfl) (by rw[hdz hz]))
  have YY:=zaa (show ∀ (k:Nat),z=(k:Int)→k≤t.now.length→∀ W up' uc',Below w2.heap.size w2 W→zgq (w2.heap.size+1) W up' uc' (t.us++[(true,k,0)])→Calls Tryz.prog 112 #[.slice (some ⟨g,0,none⟩) rs.length c,.agg #[.string s,.bool t.la,.slice yp t.y.length yc,.slice up' (t.us++[(true,k,0)]).length uc']] W fun e w'=>∃ sp' n' c',e=.returned (.slice sp' n' c')∧zhf base R room w2 (some ⟨g,0,none⟩) rs (zf s.data.toList z (rss rs)) (.returned (.int .i64 0)) (w'.setCell ⟨R,1,none⟩ (.slice sp' n' c'))∧Below w2.heap.size w2 w' from fun k hzk hk W up' uc' hb hU=>by
   have husn:(⟨t.la,t.y,t.cs++[(true,k,[])]⟩:Sp).us=t.us++[(true,k,0)]:=zt4 _ _;have hsok:=(za OK).cutS k hk;have hle:(t.us++[(true,k,0)]).length≤100000000:=by
    rw[← husn];have h1:=zAa _ hsok.small;have h2:=za HCS _ (za ZM);simp only[List.length_append,List.length_cons,List.length_nil] at h1 h2;show(usL (t.cs++[(true,k,[])])).length≤_
    omega
   have:=(za H).putS (za HS) s.data.toList ⟨⟨t.la,t.y,t.cs++[(true,k,[])]⟩,yp,yc,up',uc'⟩ W hb ⟨hsok,(za DAT W hb).sure,by rw[husn];exact zhn hU (by have:=za HS;omega),by rw[husn];exact hle⟩ (by rw[zg8 (za H).rise (za KM)];exact(za H).few) (by
    rintro g' (hg|hg)
    ·exact .inl (.inr ⟨_,za ZM,.inl hg⟩)
    ·exact .inr (by have:=(zb9 hU g' hg).1;omega))
   rw[husn,ze6] at this;refine this.mono ?_;rintro e W' ⟨sp',n',c',rfl,hD,hbb⟩;refine⟨sp',n',c',rfl,⟨?_,_,?_,hD⟩,hbb⟩
   ·simp only[zf,zbr,za GI,Option.map_some];rw[if_neg (by omega)];rfl
   ·rw[zlb];simp only[zf,zbr,za GI,Option.map_some]
    rw[if_neg (by omega),hzk,Int.toNat_natCast])
  have RC:=zaa (fun W (hb:Below w2.heap.size w2 W)=>show W.cell? ⟨R,1,none⟩=some (.slice (some ⟨g,0,none⟩) rs.length c)∧W.frozen? ⟨R,1,none⟩=false from⟨(za VC W hb).c1,(za VC W hb).z1⟩);have B1:=zaa b1;have HX1:=zaa (show ∀ W,Below (w2.heap.size+1) (w2.alloc (zba (s.data.toList,⟨t,yp,yc,up,uc⟩))) W→W.heap[w2.heap.size]? = some (zba (s.data.toList,⟨t,yp,yc,up,uc⟩)) from fun W b=>(b.block w2.heap.size (by omega)).trans (za X1));have UD:=zaa (show ∀ W,Below w2.heap.size w2 W→zgq base W up uc t.us from fun W b=>(za DAT W b).units);have U8:=zaa (za DAT w2 (Below.refl _ _)).few;clear hdz b1 X1;unfold zhv at NC;unfold zba at NC B1 HX1 hs1;simp only[ze6] at NC B1 HX1 hs1;clear HE hi;generalize rs.length=n at c1 hi1 RC YY;by_cases hz0:z<0
  ·have E3:=zaa (za E2 (.inl hz0) _ (za B1))
   go_wp2
   go_ret
   exact za E3
  ·obtain⟨k,rfl⟩:∃ k:Nat,z=(k:Int):=⟨z.toNat,by omega⟩
   go_wp2_with fail
   generalize w2.alloc (.cells #[.string s,.bool t.la,.slice yp t.y.length yc,.slice up t.us.length uc] 116)=V1 at *;refine(za NC).mono ?_;rintro e V2 ⟨sp2,n2,c2,rfl,hn2,h8,hX2,b2⟩;rw[hs1] at b2;have B2:=zaa b2;have BV2:=zaa ((za B1).trans (b2.mono (by omega)));have HN2:=zaa hn2;clear hX2 b2 hn2;by_cases hz1:n2<k
   ·have hz2:(n2:Int)<(k:Int):=by omega
    have E3:=zaa (za E2 (.inr (by rw[za HN2];omega)) _ (za BV2))
    go_wp2
    go_ret
    exact za E3
   ·have hz2:¬ (n2:Int)<(k:Int):=by omega
    have Y2:=zaa (za YY k rfl (by rw[za HN2];omega));have A3:=zaa (show Below V2.heap.size V2 (V2.alloc (.cells #[] 150)) from(Below.refl _ _).alloc (Nat.le_refl _) _);have hV2:w2.heap.size+1≤V2.heap.size:=by have:=(za B2).size;omega
    have O3:=zaa (zgq.empty V2 (w2.heap.size+1) hV2);have B3:=zaa ((za B2).trans ((za A3).mono hV2));have BV3:=zaa ((za B1).trans ((za B3).mono (by omega)));have u3:(V2.alloc (.cells #[] 150)).cell? ⟨w2.heap.size,3,none⟩=some (.slice up t.us.length uc):=zan (za HX1 _ (za B3)) 3 _ rfl;have S3:=zaa (za UD _ (za BV3));have u8:t.us.length≤100000000:=za U8;generalize hnu:t.us.length=nu at u3 u8;have HNU:=zaa hnu;clear hnu
    go_wp2_with (at_builtin;refine zbn rfl (.tmp 33) (.tmp 35) rfl (w2.heap.size+1) base (some ⟨V2.heap.size,0,none⟩) up 0 nu 0 uc [] t.us rfl rfl rfl (za HNU) (by exact za O3) (by exact za S3) (by omega) (by exact Nat.le_trans hV2 (za A3).size) ?_;intro sp4 n4 c4 V4 hn4 hO4 hG4;refine za ?_)
    refine zaa ?_;rw[List.nil_append] at hn4 hO4;have B4:=zaa (show Below (w2.heap.size+1) V1 V4 from(za B3).grown hG4.grown (by have:=(za B3).size;omega) (fun g' hg'=>by simp[blk] at hg';omega));have O4:=zaa hO4;have hn4':t.us.length=n4:=za hn4;have hV4:w2.heap.size+1≤V4.heap.size:=by have:=(za B4).size;omega
    have A5:=zaa (show Below V4.heap.size V4 (V4.alloc (.cells #[.bool true,.int .i64 (k:Int),.int .u8 0] 150)) from(Below.refl _ _).alloc (Nat.le_refl _) _);have O5:=zaa (zck (za O4) (fun g hg=>(za A5).block g (zb9 (za O4) g hg).2.1));have S5:=zaa (zgq.one (true,k,0) (zad V4 (.cells #[.bool true,.int .i64 (k:Int),.int .u8 0] 150)));have B5:=zaa ((za B4).trans ((za A5).mono hV4));have HN4:=zaa hn4';have h48:n4≤100000000:=by rw[← hn4',za HNU];exact u8
    have YB:=zaa (fun g (hg:blk sp4=some g)=>(zb9 (za O4) g hg).1);clear hO4 hG4 hn4 hn4' u3
    go_wp2_with (at_builtin;refine zbn rfl (.tmp 37) (.tmp 40) rfl (w2.heap.size+1) 0 sp4 (some ⟨V4.heap.size,0,none⟩) n4 1 c4 1 t.us [(true,k,0)] rfl rfl (za HN4) rfl (by exact za O5) (by exact za S5) (by omega) (by exact Nat.le_trans hV4 (za A5).size) ?_;intro sp6 n6 c6 V6 hn6 hO6 hG6;refine za ?_)
    refine zaa ?_;have B6:=zaa (show Below (w2.heap.size+1) V1 V6 from(za B5).grown hG6.grown (by have:=(za B5).size;omega) (fun g' hg'=>za YB g' hg'));have hX6:=za HX1 V6 (za B6);have w3:=zan hX6 3 _ rfl;have f3:=zio hX6 3;have BV6:=zaa ((za B1).trans ((za B6).mono (by omega)));have hX7:(V6.setCell ⟨w2.heap.size,3,none⟩ (.slice sp6 n6 c6)).heap[w2.heap.size]? = some (.cells #[.string s,.bool t.la,.slice yp t.y.length yc,.slice sp6 n6 c6] 116 (0,0)):=by
     rw[heap_setCell_same V6 w2.heap.size 3 _ 116 _ hX6];rfl
    have BV7:=zaa (show Below w2.heap.size w2 (V6.setCell ⟨w2.heap.size,3,none⟩ (.slice sp6 n6 c6)) from(za BV6).grown (zaf V6 w2.heap.size 3 _) (za BV6).size (fun g hg=>by have:=Option.some.inj hg;omega))
    have O7:=zaa (zck (w':=V6.setCell ⟨w2.heap.size,3,none⟩ (.slice sp6 n6 c6)) hO6 (fun g hg=>heap_setCell_other _ ⟨w2.heap.size,3,none⟩ g _ (fun e=>by
     have e2:g=w2.heap.size:=e;have:=(zb9 hO6 g hg).1
     omega)))
    have x0:=zan hX7 0 _ rfl;have x1:=zan hX7 1 _ rfl;have x2:=zan hX7 2 _ rfl;have x3:=zan hX7 3 _ rfl;obtain⟨r1,r2⟩:=za RC _ (za BV7);have HN6:=zaa (show(t.us++[(true,k,0)]).length=n6 from za hn6);clear hX6 hX7 hO6 hG6 hn6
    go_wp2_with fail
    generalize V6.setCell ⟨w2.heap.size,3,none⟩ (.slice sp6 n6 c6)=V7 at *
    have UX:=zaa (show ∀ W,Below V7.heap.size V7 W→Calls Tryz.prog 112 #[.slice (some ⟨g,0,none⟩) n c,.agg #[.string s,.bool t.la,.slice yp t.y.length yc,.slice sp6 n6 c6]] W _ from fun W hb=>by
     have hbb:=(za BV7).trans (hb.mono (za BV7).size);have:=za Y2 W sp6 c6 hbb (zck (za O7) (fun g hg=>hb.block g (zb9 (za O7) g hg).2.1));rw[za HN6] at this
     exact this)
    go_region_law (go_simp;go_at_call 112;refine(za UX V7.drew ((Below.refl _ _).drew)).mono ?_;rintro e W' ⟨sp',n',c',rfl,hE,b3⟩;have E3:=zaa hE;obtain⟨v1,z1⟩:=za RC W' b3;clear hE b3)
    all_goals
     go_wp2
     go_ret
     exact za E3
 ·have E3:=zaa (za EN hno);clear hno
  go_wp2
  go_ret
  exact za E3
end
end
end Go.Proofs.YtofllbpfajppeaaGreatDoor
