/- Conf: the program's Fork. -/
import Derived.Test.YtjcjleaicjhpeaaGreatDoorB29
import Derived.Test.YtjcjleaicjhpeaaGreatDoorB17
import Derived.Shelf.SlMaps.Clone
set_option linter.unusedVariables false
set_option maxRecDepth 20000
set_option maxHeartbeats 16000000
namespace Go.Proofs.YtjcjleaicjhpeaaGreatDoor
section
open Go.ChangeShapes Go.WideShapes Go.ChangeAt Go.RowKit Go.Maps
theorem zd8 (w:World) (es:Array MapEntry) (k:Nat):(w.alloc (.map es k)).heap[w.heap.size]? = some (.map es k):=zad w (.map es k)
theorem MapG.copy {P:Program} {K:TypeId} {κ:Type} [Kord κ] {X:Kx P K κ} {w:World} {B:Nat} {fs:List (κ×Value)} (h:MapG X w B fs):∃ es k,w.heap[B]? = some (.map es k)∧∀ (w':World) (B':Nat),w'.heap[B']? = some (.map es k)→MapG X w' B' fs:=by
 obtain⟨D,⟨es,k,h1,r⟩,r2⟩:=h.map;exact⟨es,k,h1,fun w' B' hb=>⟨⟨D,⟨es,k,hb,r⟩,r2⟩,h.okk,h.rise⟩⟩
theorem zd4 {w:World} {b:Nat} {fs:List (ByteArray×Value)} (h:MapG kxS w b fs) :
  Calls Tryz.prog 65 #[.map (some b)] w fun e w'=>e=.returned (.map (some w.heap.size))∧MapG kxS w' w.heap.size fs∧Below w.heap.size w w'∧w.heap.size<w'.heap.size:=by
 obtain⟨es,clock,hb,hc⟩:=h.copy;have FIN:=zaa (hc (w.alloc (.map es clock)) w.heap.size (zd8 w es clock));have FB:=zaa (show Below w.heap.size w (w.alloc (.map es clock)) from(Below.refl _ _).alloc (Nat.le_refl _) _);have hq:=fun w=>run_eql_map_nil_sl (P:=Tryz.prog) w 75 _ _ (some b) Tryz.underlying75;clear hc h;go_enter Tryz.func65,Tryz.ntmps65
 go_wp2
 rw[run_callFunc_extern Tryz.func126 (by kernel_rfl) (by kernel_rfl) (by kernel_rfl) (e:=Extern.MapsClone.clone) (by kernel_rfl),run_maps_clone_sl w 75 hb];simp only[Result.andThen];rw[Oper.upon_value]
 go_wp2
 rw[run_typeAssert_map_sl _ 75 _ _ _ _ Tryz.underlying75];simp only[Result.andThen];rw[Oper.upon_value]
 go_wp2
 go_ret
 exact⟨rfl,za FIN,za FB,by simp⟩
theorem zd3 {w:World} {b:Nat} {fs:List (Pl×Value)} (h:MapG kxP w b fs) :
  Calls Tryz.prog 66 #[.map (some b)] w fun e w'=>e=.returned (.map (some w.heap.size))∧MapG kxP w' w.heap.size fs∧Below w.heap.size w w'∧w.heap.size<w'.heap.size:=by
 obtain⟨es,clock,hb,hc⟩:=h.copy;have FIN:=zaa (hc (w.alloc (.map es clock)) w.heap.size (zd8 w es clock));have FB:=zaa (show Below w.heap.size w (w.alloc (.map es clock)) from(Below.refl _ _).alloc (Nat.le_refl _) _);have hq:=fun w=>run_eql_map_nil_sl (P:=Tryz.prog) w 76 _ _ (some b) Tryz.underlying76;clear hc h;go_enter Tryz.func66,Tryz.ntmps66
 go_wp2
 rw[run_callFunc_extern Tryz.func126 (by kernel_rfl) (by kernel_rfl) (by kernel_rfl) (e:=Extern.MapsClone.clone) (by kernel_rfl),run_maps_clone_sl w 76 hb];simp only[Result.andThen];rw[Oper.upon_value]
 go_wp2
 rw[run_typeAssert_map_sl _ 76 _ _ _ _ Tryz.underlying76];simp only[Result.andThen];rw[Oper.upon_value]
 go_wp2
 go_ret
 exact⟨rfl,za FIN,za FB,by simp⟩
theorem zd2 {w:World} {b:Nat} {fs:List (Int×Value)} (h:MapG kxI w b fs) :
  Calls Tryz.prog 67 #[.map (some b)] w fun e w'=>e=.returned (.map (some w.heap.size))∧MapG kxI w' w.heap.size fs∧Below w.heap.size w w'∧w.heap.size<w'.heap.size:=by
 obtain⟨es,clock,hb,hc⟩:=h.copy;have FIN:=zaa (hc (w.alloc (.map es clock)) w.heap.size (zd8 w es clock));have FB:=zaa (show Below w.heap.size w (w.alloc (.map es clock)) from(Below.refl _ _).alloc (Nat.le_refl _) _);have hq:=fun w=>run_eql_map_nil_sl (P:=Tryz.prog) w 77 _ _ (some b) Tryz.underlying77;clear hc h;go_enter Tryz.func67,Tryz.ntmps67
 go_wp2
 rw[run_callFunc_extern Tryz.func126 (by kernel_rfl) (by kernel_rfl) (by kernel_rfl) (e:=Extern.MapsClone.clone) (by kernel_rfl),run_maps_clone_sl w 77 hb];simp only[Result.andThen];rw[Oper.upon_value]
 go_wp2
 rw[run_typeAssert_map_sl _ 77 _ _ _ _ Tryz.underlying77];simp only[Result.andThen];rw[Oper.upon_value]
 go_wp2
 go_ret
 exact⟨rfl,za FIN,za FB,by simp⟩
section
variable {κ α:Type} [Kord κ]
theorem ziy (kf:α→κ) (a:α):∀ l:List α,Kl kf l→a∈l→zbq kf a l=l
 |b::l,h,ha=>by
  rw[zb7];rcases List.mem_cons.1 ha with rfl|ha
  ·rw[if_neg (Kord.irr _),if_pos rfl]
  ·rw[if_pos (h.head a ha),ziy kf a l h.tail ha]
theorem Kl.of_map {β:Type} {kf:α→κ} {kg:β→κ} {l:List α} {m:List β} (h:Kl kf l) (e:m.map kg=l.map kf):Kl kg m:=by
 unfold Kl at *;have h1:(l.map kf).Pairwise (fun a b=>Kord.lt a b):=List.pairwise_map.2 ((List.pairwise_map.1 h).imp (fun {a b} q=>q));rw[← e] at h1;exact List.pairwise_map.2 ((List.pairwise_map.1 h1).imp (fun {a b} q=>q))
end
theorem SmE.smI {x y:Sm} (h:SmE x y) (i:SmI y):SmI x:=by
 have e:x.ps.map qnm=y.ps.map qnm:=by
  have:=congrArg (List.map pnm) h.ps;rw[List.map_map,List.map_map] at this;exact this
 refine⟨i.kp.of_map e,by rw[h.rs];exact i.kr,by rw[h.cl];exact i.kc,by rw[h.cf];exact i.sz,by rw[h.len];exact i.pn,by rw[h.rs];exact i.rn,fun r hr=>?_⟩;rw[h.rs] at hr;obtain⟨p,hp,e2⟩:=i.th r hr;have hm:qnm p∈x.ps.map qnm:=by rw[e];exact List.mem_map.2 ⟨p,hp,rfl⟩
 obtain⟨q,hq,e3⟩:=List.mem_map.1 hm;exact⟨q,hq,e3.trans e2⟩
theorem SmE.smi {j:Nat} {x y:Sm} (h:SmE x y) (i:Smi j y):Smi j x:=by
 refine⟨by rw[h.len];exact i.pn,by rw[h.rs];exact i.rn,by rw[h.cl];exact i.cn,by rw[h.ver];exact i.vr,by rw[h.rs];exact i.rs,fun p hp=>?_⟩;have hm:p.po∈y.ps.map Pq.po:=by rw[← h.ps];exact List.mem_map.2 ⟨p,hp,rfl⟩
 obtain⟨q,hq,e⟩:=List.mem_map.1 hm;have:=i.ps q hq;rw[e] at this;exact this
theorem SmE.smL {x y:Sm} (h:SmE x y) (i:SmL y):SmL x:=⟨by rw[h.ver];exact i.vr,by rw[h.cl,h.ver];exact i.cl⟩
theorem zg2 {P:Program} {k:TypeId} {R:Value→Option (DataW Value×List MemPlace)} {w w':World} {b r n:Nat} {D:DataW Value} {left:Lit→Bool} {cnt:Nat} (h:w.ranges P k R b r n D left cnt) (hb:w'.heap[b]? = w.heap[b]?) (hr:w'.heap[r]? = w.heap[r]?):w'.ranges P k R b r n D left cnt:=by
 obtain⟨es,clock,since,seen,c0,h1,h2,h3,h4,h5,rest⟩:=h;exact⟨es,clock,since,seen,c0,hb.trans h1,h2,h3,h4,hr.trans h5,rest⟩
theorem zi {P:Program} {k:TypeId} {R:Value→Option (DataW Value×List MemPlace)} {w:World} {b r n:Nat} {D:DataW Value} {left:Lit→Bool} {cnt:Nat} (h:w.ranges P k R b r n D left cnt) (q:Nat):w.cell? ⟨r,q,none⟩=none:=by
 obtain⟨es,clock,since,seen,c0,h1,h2,h3,h4,h5,rest⟩:=h;simp[World.cell?,h5]
theorem zhk {P:Program} {k:TypeId} {R:Value→Option (DataW Value×List MemPlace)} {w:World} {b r n:Nat} {D:DataW Value} {left:Lit→Bool} {cnt:Nat} (h:w.ranges P k R b r n D left cnt):b<w.heap.size:=by
 obtain⟨es,clock,since,seen,c0,h1,h2⟩:=h;exact(Array.getElem?_eq_some_iff.1 h1).1
theorem StAt.iter {w w':World} {h:StH} {x:Sm} (s:StAt w h x) {r:Nat} (hg:w.grownBy w' (some r)) (hr:∀ q,w.cell? ⟨r,q,none⟩=none) (hn:h.S≠r∧h.P≠r∧h.R≠r∧h.C≠r):StAt w' h x:=by
 obtain⟨n1,n2,n3,n4⟩:=hn;have keep:∀ g,g<w.heap.size→g≠r→w'.heap[g]? = w.heap[g]?:=fun g hl hne=>hg.block g hl (fun e=>hne (Option.some.inj e));refine⟨(keep _ (Array.getElem?_eq_some_iff.1 s.hd).1 n1).trans s.hd,s.pm.same (keep _ s.pm.lt n2),s.rm.same (keep _ s.rm.lt n3),s.cm.same (keep _ s.cm.lt n4),fun p hp=>⟨(s.tg p hp).lt,fun i hi=>?_⟩,s.ne⟩;obtain⟨b,off,e,h1,h2⟩:=(s.tg p hp).cell i hi;have hne:b≠r:=fun e=>by
  subst e;rw[hr] at h1;cases h1
 have hk:=keep b (zjg h1) hne;exact⟨b,off,e,(World.cell?_of_block hk).trans h1,(World.cell?_of_block hk).trans h2⟩
theorem zjl {w:World} {h:StH} {x:Sm} (s:StAt w h x) (hx:SmOk x) (hk:Kl qnm x.ps) :
  Calls Tryz.prog 28 #[.pointer (some ⟨h.S,0,none⟩)] w fun e w'=>∃ h2 y,e=.returned (.pointer (some ⟨h2.S,0,none⟩))∧StAt w' h2 y∧SmE y x∧Below w.heap.size w w'∧w.heap.size≤h2.S∧w.heap.size≤h2.P∧w.heap.size≤h2.R∧w.heap.size≤h2.C:=by
 have SW:=zaa s;have KH:=zaa hk;have OK:=zaa hx;have KF:=zaa (show ∀ W:World,Below w.heap.size w W→W.cell? ⟨h.S,0,none⟩=some (.int .i64 x.ver)∧W.cell? ⟨h.S,1,none⟩=some (.map (some h.P))∧W.cell? ⟨h.S,2,none⟩=some (.map (some h.R))∧W.cell? ⟨h.S,3,none⟩=some (.map (some h.C)) from fun W hb=>(s.later hb).cell);have B0:=zaa (show Below w.heap.size w w.drew from(Below.refl _ _).drew);have KB:=zaa (za KF _ (za B0));have c0:=s.cell.1;clear s hx hk;go_enter Tryz.func28,Tryz.ntmps28
 go_wp2_with fail
 refine wp_region_held_drew (S:=fun W=>W.cell? ⟨h.S,0,none⟩=some (.int .i64 x.ver)∧W.cell? ⟨h.S,1,none⟩=some (.map (some h.P))∧W.cell? ⟨h.S,2,none⟩=some (.map (some h.R))∧W.cell? ⟨h.S,3,none⟩=some (.map (some h.C))) (by kernel_rfl) ?_ (fun hHeld=>?_)
 ·try dsimp only
  first|exact za K4|exact za K3|exact za K2|exact za K1|exact za KB
 refine hT 0 ?_;refine hT 1 ?_;refine hT 2 ?_;refine hT 3 ?_;refine hT 4 ?_;refine hT 5 ?_;refine hT 6 ?_;refine hT 7 ?_;refine hT 9 ?_;refine hT 10 ?_;refine hT 11 ?_;refine hT 12 ?_;refine hT 14 ?_;refine hT 15 ?_;refine hT 16 ?_;refine hT 17 ?_;refine hO 8 (fun K hK=>?_);go_simp
 first
  |(go_at_call 65
    refine(zd4 ((za SW).later (za B0)).pm).mono ?_;rintro e U1 ⟨rfl,m1,u1,z1⟩;have B1:=zaa ((za B0).trans (u1.mono (za B0).size));have K1:=zaa (za KF _ (za B1));have M1:=zaa m1;have Z1:=zaa z1
    clear m1 u1 z1)
  |(go_at_call 66
    refine(zd3 ((za SW).later (za B1)).rm).mono ?_;rintro e U2 ⟨rfl,m2,u2,z2⟩;have B2:=zaa ((za B1).trans (u2.mono (za B1).size));have K2:=zaa (za KF _ (za B2));have M2:=zaa m2;have M1:=zaa ((za M1).later u2);have Z2:=zaa z2
    clear m2 u2 z2)
  |(go_at_call 67
    refine(zd2 ((za SW).later (za B2)).cm).mono ?_;rintro e U3 ⟨rfl,m3,u3,z3⟩;have B3:=zaa ((za B2).trans (u3.mono (za B2).size));have K3:=zaa (za KF _ (za B3));have M3:=zaa m3;have M2:=zaa ((za M2).later u3);have M1:=zaa ((za M1).later u3);have Z3:=zaa z3;have B4:=zaa ((za B3).alloc (za B3).size (.cells #[.int .i64 x.ver,.map (some w.heap.size),.map (some U1.heap.size),.map (some U2.heap.size)] 79));have K4:=zaa (za KF _ (za B4))
    clear m3 u3 z3)
 go_wp2_with fail
 refine hK.out _ _ ?_ (fun hHeld=>?_)
 ·try dsimp only
  first|exact za K4|exact za K3|exact za K2|exact za K1|exact za KB
 clear hK K;refine hP ?_;refine hO 13 (fun K hK=>?_);go_simp
 first
  |(go_at_call 65
    refine(zd4 ((za SW).later (za B0)).pm).mono ?_;rintro e U1 ⟨rfl,m1,u1,z1⟩;have B1:=zaa ((za B0).trans (u1.mono (za B0).size));have K1:=zaa (za KF _ (za B1));have M1:=zaa m1;have Z1:=zaa z1
    clear m1 u1 z1)
  |(go_at_call 66
    refine(zd3 ((za SW).later (za B1)).rm).mono ?_;rintro e U2 ⟨rfl,m2,u2,z2⟩;have B2:=zaa ((za B1).trans (u2.mono (za B1).size));have K2:=zaa (za KF _ (za B2));have M2:=zaa m2;have M1:=zaa ((za M1).later u2);have Z2:=zaa z2
    clear m2 u2 z2)
  |(go_at_call 67
    refine(zd2 ((za SW).later (za B2)).cm).mono ?_;rintro e U3 ⟨rfl,m3,u3,z3⟩;have B3:=zaa ((za B2).trans (u3.mono (za B2).size));have K3:=zaa (za KF _ (za B3));have M3:=zaa m3;have M2:=zaa ((za M2).later u3);have M1:=zaa ((za M1).later u3);have Z3:=zaa z3;have B4:=zaa ((za B3).alloc (za B3).size (.cells #[.int .i64 x.ver,.map (some w.heap.size),.map (some U1.heap.size),.map (some U2.heap.size)] 79));have K4:=zaa (za KF _ (za B4))
    clear m3 u3 z3)
 go_wp2_with fail
 refine hK.out _ _ ?_ (fun hHeld=>?_)
 ·try dsimp only
  first|exact za K4|exact za K3|exact za K2|exact za K1|exact za KB
 clear hK K;refine hP ?_;refine hO 18 (fun K hK=>?_);go_simp
 first
  |(go_at_call 65
    refine(zd4 ((za SW).later (za B0)).pm).mono ?_;rintro e U1 ⟨rfl,m1,u1,z1⟩;have B1:=zaa ((za B0).trans (u1.mono (za B0).size));have K1:=zaa (za KF _ (za B1));have M1:=zaa m1;have Z1:=zaa z1
    clear m1 u1 z1)
  |(go_at_call 66
    refine(zd3 ((za SW).later (za B1)).rm).mono ?_;rintro e U2 ⟨rfl,m2,u2,z2⟩;have B2:=zaa ((za B1).trans (u2.mono (za B1).size));have K2:=zaa (za KF _ (za B2));have M2:=zaa m2;have M1:=zaa ((za M1).later u2);have Z2:=zaa z2
    clear m2 u2 z2)
  |(go_at_call 67
    refine(zd2 ((za SW).later (za B2)).cm).mono ?_;rintro e U3 ⟨rfl,m3,u3,z3⟩;have B3:=zaa ((za B2).trans (u3.mono (za B2).size));have K3:=zaa (za KF _ (za B3));have M3:=zaa m3;have M2:=zaa ((za M2).later u3);have M1:=zaa ((za M1).later u3);have Z3:=zaa z3;have B4:=zaa ((za B3).alloc (za B3).size (.cells #[.int .i64 x.ver,.map (some w.heap.size),.map (some U1.heap.size),.map (some U2.heap.size)] 79));have K4:=zaa (za KF _ (za B4))
    clear m3 u3 z3)
 go_wp2_with fail
 refine hK.out _ _ ?_ (fun hHeld=>?_)
 ·try dsimp only
  first|exact za K4|exact za K3|exact za K2|exact za K1|exact za KB
 clear hK K;refine hP ?_;refine hT 19 ?_;refine hO 20 (fun K hK=>?_);go_simp
 go_wp2_with fail
 refine hK.out _ _ ?_ (fun hHeld=>?_)
 ·try dsimp only
  first|exact za K4|exact za K3|exact za K2|exact za K1|exact za KB
 clear hK K;refine hP ?_;refine hT 21 ?_;refine wpAnyH_done (by kernel_rfl) ?_ _;clear hHeld KB K1 K2 K3 K4;have Z4:=zaa (show(U3.alloc (.cells #[.int .i64 x.ver,.map (some w.heap.size),.map (some U1.heap.size),.map (some U2.heap.size)] 79)).heap.size=U3.heap.size+1 by simp);have b4:=zaa (show Below U3.heap.size U3 (U3.alloc (.cells #[.int .i64 x.ver,.map (some w.heap.size),.map (some U1.heap.size),.map (some U2.heap.size)] 79)) from(Below.refl _ _).alloc (Nat.le_refl _) _);obtain⟨h2,hh2⟩:∃ h2:StH,h2=⟨U3.heap.size,w.heap.size,U1.heap.size,U2.heap.size⟩:=⟨_,rfl⟩
 have SF:=zaa (show StAt (U3.alloc (.cells #[.int .i64 x.ver,.map (some w.heap.size),.map (some U1.heap.size),.map (some U2.heap.size)] 79)) h2 x from by
  rw[hh2]
  exact⟨zad U3 (.cells #[.int .i64 x.ver,.map (some w.heap.size),.map (some U1.heap.size),.map (some U2.heap.size)] 79),(za M1).later (za b4),(za M2).later (za b4),(za M3).later (za b4),fun p hp=>((za SW).tg p hp).later (za B4),by have:=za Z1;have:=za Z2;have:w.drew.heap.size=w.heap.size:=rfl;simp only;omega⟩)
 have NW:=zaa (show w.heap.size≤h2.S∧w.heap.size≤h2.P∧w.heap.size≤h2.R∧w.heap.size≤h2.C from by
  rw[hh2]
  exact⟨(za B3).size,Nat.le_refl _,(za B1).size,(za B2).size⟩)
 have UP:=zaa (za SF).lts;have LH:=zaa (za SW).lts;have hS2:U3.heap.size=h2.S:=by rw[hh2]
 clear hh2;clear M1 M2 M3 Z1 Z2 Z3 Z4 b4 B0 B1 B2 B3;obtain⟨D,hD,hS,hL,hH,hA⟩:=((za SW).later (za B4)).pm.left;have HD:=zaa hD;have HL0:=zaa hL;have HH:=zaa hH;have HA:=zaa hA;clear hD hL hH hA hS;have c1:=(za KF _ (za B4)).2.1
 go_wp2_with (at_range;refine za ?_)
 refine zaa ?_;rw[hS2];generalize U3.alloc (.cells #[.int .i64 x.ver,.map (some w.heap.size),.map (some U1.heap.size),.map (some U2.heap.size)] 79)=V at *;clear hS2;refine wpList_range_own _ rfl _ 75 rfl 9 54 kxS.law zju _ h.P x.fp.length D rfl (za HD) ?_;intro w0 hrg0 hg0 hs0;have RG0:=zaa hrg0;have F0:=zaa (show Below V.heap.size V w0 from⟨hg0.os,hg0.tape,hg0.output,hg0.size,fun i hi=>hg0.block i hi (by simp)⟩);clear hrg0 hg0 hs0
 go_frame
 go_wp2_with fail
 generalize hr:V.heap.size=r at *;have BV:=zaa ((za B4).trans ((za F0).mono (by have:=(za B4).size;omega)));have SF:=zaa ((za SF).later (by rw[hr];exact za F0));clear F0 B4 c0 c1;go_loopw [4,5] (fun _ _ wr=>∃ (left:Lit→Bool) (cnt:Nat) (y:Sm),Hid (wr.ranges Tryz.prog 9 zbh h.P r x.fp.length D left cnt)∧Hid (∀ kl,left kl=true→Maps.has D kl=true)∧Hid (StAt wr h2 y)∧Hid (SmE y x)∧Hid (Below w.heap.size w wr)) (fun _ _ wr=>wr.rangeLeft h.P r)
 case atStart =>
  exact⟨Maps.has D,Maps.size D,x,RG0,zaa (fun _ e=>e),SF,zaa (SmE.refl x),BV⟩
 case round =>
  obtain⟨left,cnt,y,RG,HS,SY,EY,BW⟩:=hrel
  go_wp2_with (at_next;refine za ?_)
  refine zaa ?_;refine wpList_next_ranges _ rfl _ rfl 9 kxS.law zbh Value.string (fun v:Value=>v) (fun key kl hkey=>by obtain⟨k,_,e,_⟩:=kxS.inv hkey;exact⟨k,e⟩) (fun v y _=>⟨v,rfl⟩) h.P r x.fp.length D left cnt rfl (za RG) ?_ ?_
  ·as_aux_lemma =>
   intro hc0 hl0;clear hc0 hl0
   go_wp2
   go_ret
   exact⟨h2,y,rfl,za SY,za EY,za BW,za NW⟩
  ·as_aux_lemma =>
   intro k c kl y1 w1 cnt1 hkey hlk hR hat hrg1 hlt hg1 hs1 hen;obtain⟨k2,hk2,e1,e2⟩:=kxS.inv hkey;obtain rfl:k=k2:=kxS.vinj e1;have hin:=za HH k hk2 (e2 ▸ za HS kl hlk);obtain⟨⟨k',v⟩,hm,ek⟩:=List.mem_map.1 hin;simp only at ek;subst ek;obtain⟨p1,hp1,er⟩:=List.mem_map.1 hm;simp only[Prod.mk.injEq] at er;have hy1:y1.1=.held v:=by rw[← hat (.held v),e2];exact za HA _ hm _
   have hcv:c=v:=by
    simp only[zbh,Option.some.injEq] at hR;rw[← hR] at hy1
    simpa using hy1
   have hcr:c=pqV p1:=by rw[hcv,← er.2]
   obtain rfl:p1.po.nm=k':=er.1;subst hcr;have hrr:∀ q,wr.cell? ⟨r,q,none⟩=none:=fun q=>zi (za RG) q;have SY1:=zaa ((za SY).iter hg1 hrr (by have:=za UP;omega));have BW1:=zaa ((za BW).grown hg1 (za BW).size (fun g' hg'=>by have:=Option.some.inj hg';have:=za UP;have:=za NW;omega));have RG1:=zaa hrg1;have HC:=zaa hlt;have RL:=zaa (za RG).left_eq;have TG:=zaa (((za SW).tg p1 hp1).later (za BW1));have TN:=zaa ((za OK).t.ps p1.po (List.mem_map.2 ⟨p1,hp1,rfl⟩)).2.1;have NMZ:=zaa ((za OK).t.ps p1.po (List.mem_map.2 ⟨p1,hp1,rfl⟩)).1
   have KY:=zaa (show ∀ q:Pq,q.po=p1.po→SmE { y with ps:=zbq qnm q y.ps } x from fun q hq=>⟨(za EY).ver,(za EY).rs,(za EY).cl,by
    dsimp only;rw[zgj qnm Pq.po pnm (fun _=>rfl) q y.ps,(za EY).ps,hq];refine ziy pnm p1.po _ ?_ (List.mem_map.2 ⟨p1,hp1,rfl⟩)
    exact(za KH).of_map (by rw[List.map_map];rfl)⟩)
   have YN:=zaa (show y.ps.length≤1000 from by rw[(za EY).len];have:=(za OK).t.pn;rw[show x.cf.ps.length=x.ps.length from by simp[Sm.cf]] at this;exact this)
   have HS2:=zaa (show ∀ q,(left q && !q.sameKey kl)=true→Maps.has D q=true from fun q hq=>by
    simp only[Bool.and_eq_true] at hq
    exact za HS q hq.1)
   obtain⟨⟨nm,ts⟩,ta,tc⟩:=p1;dsimp only at TG TN NMZ KY hen ⊢;simp only[pqV] at hen ⊢;clear hkey hR hat hrg1 hlt hg1 hs1 hin hm er hy1 hcv e1 hk2 hp1 hrr;have bP:=zaa (show Below w1.heap.size w1 (w1.alloc (.cells #[.string nm,.slice ta ts.length tc] 54)) from(Below.refl _ _).alloc (Nat.le_refl _) _);have XP:=zaa (zad w1 (.cells #[.string nm,.slice ta ts.length tc] 54));have SY2:=zaa ((za SY1).later (za bP));have BW2:=zaa ((za BW1).trans ((za bP).mono (za BW1).size));have RG2:=zaa ((za RG1).alloc (.cells #[.string nm,.slice ta ts.length tc] 54));have TG2:=zaa ((za TG).later (za bP));clear SY SY1 BW1 RG RG1 TG BW HS
   go_wp2_with fail
   generalize hB:w1.heap.size=B at *;have bP:=zaa (show Below w1.heap.size w1 (w1.alloc (.cells #[.string nm,.slice ta ts.length tc] 54)) from by rw[hB];exact za bP);generalize w1.alloc (.cells #[.string nm,.slice ta ts.length tc] 54)=V2 at *;have bZ:=zaa (show Below V2.heap.size V2 V2.drew from(Below.refl _ _).drew);have KF:=zaa (show ∀ W:World,Below V2.heap.size V2 W→W.cell? ⟨h2.S,1,none⟩=some (.map (some h2.P))∧W.cell? ⟨B,0,none⟩=some (.string nm)∧W.cell? ⟨B,1,none⟩=some (.slice ta ts.length tc) from fun W hb=>⟨((za SY2).later hb).cell.2.1,zab (zac hb (za XP)) 0 _ rfl,zab (zac hb (za XP)) 1 _ rfl⟩);have KB:=zaa (za KF _ (za bZ));refine wp_region_held_drew (S:=fun W=>W.cell? ⟨h2.S,1,none⟩=some (.map (some h2.P))∧W.cell? ⟨B,0,none⟩=some (.string nm)∧W.cell? ⟨B,1,none⟩=some (.slice ta ts.length tc)) (by kernel_rfl) ?_ (fun hHeld=>?_)
   ·try dsimp only
    first|exact za K2|exact za K1|exact za KB
   refine hT 0 ?_;refine hT 1 ?_;refine hT 2 ?_;refine hT 3 ?_;refine hT 4 ?_;refine hT 5 ?_;refine wpAnyH_ready (rs:=[6]) (by kernel_rfl) (by simp) ?_;refine AllReadyH.cons rfl (fun K hK=>?_) ?_
   ·go_simp
    go_at_call 43
    refine(zf6 ((za TG2).later (za bZ)) (Nat.le_trans (za TN) (by decide)) tc).mono ?_;rintro e U ⟨a',c',rfl,ow,u⟩;have bU:=zaa ((za bZ).trans (u.mono (za bZ).size));have K1:=zaa (za KF _ (za bU));have TU:=zaa (ow.at_ (za TG2).lt);have SU:=zaa ((za SY2).later (za bU));clear u ow
    go_wp2_with fail
    refine hK.out _ _ ?_ (fun hHeld=>?_)
    ·try dsimp only
     first|exact za K2|exact za K1|exact za KB
    clear hK K;refine hP ?_;refine wpAnyH_ready (rs:=[7]) (by kernel_rfl) (by simp) ?_;refine AllReadyH.cons rfl (fun K hK=>?_) ?_
    ·obtain⟨W9,hrun,sd,cd⟩:=(za SU).putP ⟨⟨nm,ts⟩,a',c'⟩ (by have:=za NMZ;simp only[maxLen];omega) (za TU) (za YN);dsimp only at hrun;have SD:=zaa sd;have XB:=zaa (cd.cells (za SU) (by decide) (zac (za bU) (za XP)));have K2:=zaa (show W9.cell? ⟨h2.S,1,none⟩=some (.map (some h2.P))∧W9.cell? ⟨B,0,none⟩=some (.string nm)∧W9.cell? ⟨B,1,none⟩=some (.slice ta ts.length tc) from⟨(za SD).cell.2.1,zab (za XB) 0 _ rfl,zab (za XB) 1 _ rfl⟩);have bw:=cd.toB (b:=w.heap.size) (za NW) (Nat.le_trans (za BW2).size (za bU).size);have BW9:=zaa (((za BW2).trans ((za bU).mono (za BW2).size)).trans bw);have RU:=zaa (zg2 (za RG2) ((za bU).block _ (zhk (za RG2))) ((za bU).block _ (za RG2).lt));have RG9:=zaa (zg2 (za RU) (cd.block _ (zhk (za RU)) (by have:=za NW;have:=za LH;omega) (by have:=za NW;have:=za LH;omega) (by have:=za NW;have:=za LH;omega) (by have:=za NW;have:=za LH;omega)) (cd.block _ (za RU).lt (by have:=za UP;omega) (by have:=za UP;omega) (by have:=za UP;omega) (by have:=za UP;omega)));clear sd cd bw;go_simp
     clear hrun;refine hK.out _ _ ?_ (fun hHeld=>?_)
     ·try dsimp only
      first|exact za K2|exact za K1|exact za KB
     clear hK K;refine hP ?_;refine wpAnyH_done (by kernel_rfl) ?_ _
     go_wp2
     exact⟨⟨_,cnt1,_,RG9,HS2,SD,zaa (za KY ⟨⟨nm,ts⟩,a',c'⟩ rfl),BW9⟩,by rw[(za RG9).left_eq,za RL];exact za HC⟩
    exact AllReadyH.nil
   exact AllReadyH.nil
end
section
open Go.ChangeShapes Go.WideShapes Go.ChangeAt Go.RowKit
theorem Po8.fork {j b:Nat} {w:World} {h:StH} {z:Sm} (p:Po8 j b w h z) (hj:j≤800) :
  Calls Tryz.prog 28 #[.pointer (some ⟨h.S,0,none⟩)] w fun e w'=>∃ h2,e=.returned (.pointer (some ⟨h2.S,0,none⟩))∧Po8 j w.heap.size w' h2 z∧Below w.heap.size w w':=by
 obtain⟨x,h1,h2,h3,h4,h5⟩:=p.ex;refine(zjl h1 (h4.ok (by omega)) h3.kp).mono ?_;rintro e w' ⟨h2',y,rfl,s,ey,hb,n1,n2,n3,n4⟩;exact⟨h2',rfl,⟨⟨y,s,ey.trans h2,ey.smI h3,ey.smi h4,ey.smL h5⟩,n1,n2,n3,n4⟩,hb⟩
theorem Ro8.fork {j b:Nat} {w:World} {r:Nat} {z:Sm} (p:Ro8 j b w r z) (hj:j≤800) :
  Calls Tryz.prog 29 #[.pointer (some ⟨r,0,none⟩)] w fun e w'=>∃ r2,e=.returned (.pointer (some ⟨r2,0,none⟩))∧Ro8 j w.heap.size w' r2 z∧Below w.heap.size w w':=by
 obtain⟨x,k,h1,h2,h3,h4,h5⟩:=p.ex;refine(zi5 h1 h4 (by omega)).mono ?_;rintro e w' ⟨r2,k2,y,rfl,s,ey,hb,n1⟩;exact⟨r2,rfl,⟨⟨y,k2,s,ey.trans h2,ey.smI h3,ey.smi h4,ey.smL h5⟩,n1⟩,hb⟩
theorem Ro8.low {j b b':Nat} {w:World} {r:Nat} {z:Sm} (p:Ro8 j b w r z) (hb:b'≤b):Ro8 j b' w r z:=⟨p.ex,Nat.le_trans hb p.nw⟩
theorem zj4 {w:World} {b o:Nat} {t:ByteArray} {b':Nat} {cs:Array Value} {T:TypeId} (h:w.heap[b']? = some (.cells cs T (0,0))):∃ cs',(w.setCell ⟨b,o,none⟩ (.string t)).heap[b']? = some (.cells cs' T (0,0)):=by
 by_cases e:b'=b
 ·subst e;exact⟨_,zar h o (.string t) _ rfl⟩
 ·exact⟨cs,(heap_setCell_other w ⟨b,o,none⟩ b' _ e).trans h⟩
theorem znz {w:World} {b o:Nat} {s t:ByteArray} (h0:w.cell? ⟨b,o,none⟩=some (.string s)) {b' o':Nat} {v:Value} {cs:Array Value} {T:TypeId} (hb:w.heap[b']? = some (.cells cs T (0,0))) (h:w.cell? ⟨b',o',none⟩=some v) (hv:∀ s,v≠.string s):(w.setCell ⟨b,o,none⟩ (.string t)).cell? ⟨b',o',none⟩=some v:=by
 by_cases e:b'=b
 ·subst e;rw[cell_of_row _ _ _ _ _ _ (zar hb o (.string t) _ rfl)];rw[cell_of_row _ _ _ _ _ _ hb] at h h0;have hne:o≠o':=fun e=>by
   subst e;rw[h] at h0;exact hv s (Option.some.inj h0)
  rw[Array.getElem?_setIfInBounds_ne hne];exact h
 ·rw[World.cell?_of_block (heap_setCell_other w ⟨b,o,none⟩ b' _ e)];exact h
theorem zj5 {w:World} {b o:Nat} {t:ByteArray} {b' o':Nat} {s':ByteArray} {cs:Array Value} {T:TypeId} (hb:w.heap[b']? = some (.cells cs T (0,0))) (h:w.cell? ⟨b',o',none⟩=some (.string s')):∃ s2,(w.setCell ⟨b,o,none⟩ (.string t)).cell? ⟨b',o',none⟩=some (.string s2):=by
 by_cases e:b'=b
 ·subst e;rw[cell_of_row _ _ _ _ _ _ (zar hb o (.string t) _ rfl)];rw[cell_of_row _ _ _ _ _ _ hb] at h;by_cases ho:o=o'
  ·subst ho;rw[Array.getElem?_setIfInBounds_self_of_lt (Array.getElem?_eq_some_iff.1 h).1];exact⟨t,rfl⟩
  ·rw[Array.getElem?_setIfInBounds_ne ho];exact⟨s',h⟩
 ·rw[World.cell?_of_block (heap_setCell_other w ⟨b,o,none⟩ b' _ e)];exact⟨s',h⟩
structure Shp (W:World) (N D:Nat) (v:Int) (ra:Option Addr) (nr rc:Nat) (pa:Option Addr) (np pc:Nat) (q:List Pq):Prop where
 dd:W.heap[D]? = some (.cells #[.int .i64 v,.slice ra nr rc,.slice pa np pc] 45 (0,0))
 qn:q.length=np
 ps:∀ i (hi:i<q.length),∃ g s cs,pa=some ⟨g,0,none⟩∧N≤g∧W.heap[g]? = some (.cells cs 54 (0,0))∧W.cell? ⟨g,i*2,none⟩=some (.string s)∧W.cell? ⟨g,i*2+1,none⟩=some (.slice q[i].ta q[i].po.ts.length q[i].tc)
 ts:∀ i (hi:i<q.length) k,k<q[i].po.ts.length→∃ g s cs,q[i].ta=some ⟨g,0,none⟩∧N≤g∧W.heap[g]? = some (.cells cs 70 (0,0))∧W.cell? ⟨g,k*2,none⟩=some (.string s)
 rs:∀ i,i<nr→∃ g s cs,ra=some ⟨g,0,none⟩∧N≤g∧W.heap[g]? = some (.cells cs 56 (0,0))∧W.cell? ⟨g,i*3,none⟩=some (.string s)
theorem Shp.set {W:World} {N D:Nat} {v:Int} {ra pa:Option Addr} {nr rc np pc:Nat} {q:List Pq} (h:Shp W N D v ra nr rc pa np pc q) {b o:Nat} {s:ByteArray} (h0:W.cell? ⟨b,o,none⟩=some (.string s)) (t:ByteArray):Shp (W.setCell ⟨b,o,none⟩ (.string t)) N D v ra nr rc pa np pc q:=by
 refine⟨?_,h.qn,fun i hi=>?_,fun i hi k hk=>?_,fun i hi=>?_⟩
 ·have hne:D≠b:=fun e=>by
   subst e;rw[cell_of_row _ _ _ _ _ _ h.dd] at h0;exact zc2 _ _ _ _ _ _ _ _ _ h0
  exact(heap_setCell_other W ⟨b,o,none⟩ D _ hne).trans h.dd
 ·obtain⟨g,s1,cs,e,hg,h1,h2,h3⟩:=h.ps i hi;obtain⟨cs',h1'⟩:=zj4 (b:=b) (o:=o) (t:=t) h1;obtain⟨s2,h2'⟩:=zj5 (b:=b) (o:=o) (t:=t) h1 h2;exact⟨g,s2,cs',e,hg,h1',h2',znz h0 h1 h3 (fun s e=>by cases e)⟩
 ·obtain⟨g,s1,cs,e,hg,h1,h2⟩:=h.ts i hi k hk;obtain⟨cs',h1'⟩:=zj4 (b:=b) (o:=o) (t:=t) h1;obtain⟨s2,h2'⟩:=zj5 (b:=b) (o:=o) (t:=t) h1 h2;exact⟨g,s2,cs',e,hg,h1',h2'⟩
 ·obtain⟨g,s1,cs,e,hg,h1,h2⟩:=h.rs i hi;obtain⟨cs',h1'⟩:=zj4 (b:=b) (o:=o) (t:=t) h1;obtain⟨s2,h2'⟩:=zj5 (b:=b) (o:=o) (t:=t) h1 h2;exact⟨g,s2,cs',e,hg,h1',h2'⟩
theorem Shp.mk8 {W:World} {N D:Nat} {v:Int} {ra pa:Option Addr} {rc pc:Nat} {q:List Pq} {rs:List Rt} (hd:W.heap[D]? = some (.cells #[.int .i64 v,.slice ra rs.length rc,.slice pa q.length pc] 45 (0,0))) (hq:OwnPq N W pa pc q) (hr:zdx N W ra rc rs):Shp W N D v ra rs.length rc pa q.length pc q:=by
 refine⟨hd,rfl,fun i hi=>?_,fun i hi k hk=>?_,fun i hi=>?_⟩
 ·have hl:(q.map Pq.pr).length=q.length:=List.length_map ..;obtain⟨g,hs,hb,⟨cs,hc⟩,_,_⟩:=zcj (by have:=hq.row;unfold za7 at this;exact this) (by rw[hl];omega);obtain⟨g',hs',_,c0,c1⟩:=za7.cell hq.row i (by rw[hl];exact hi);rw[hs] at hs';cases hs'
  exact⟨g,_,cs,hs,hb,hc,c0,by simpa [Pq.pr] using c1⟩
 ·have ht:=hq.dat q[i] (List.getElem_mem hi);obtain⟨g,hs,hb,⟨cs,hc⟩,_,hcell⟩:=zcj ht (by omega)
  exact⟨g,_,cs,hs,hb,hc,hcell (k*2) (.string (q[i].po.ts[k]).1) (by
   have:=zef q[i].po.ts k 0 hk (by omega);rw[Nat.add_zero] at this
   exact this)⟩
 ·obtain⟨g,hs,hb,⟨cs,hc⟩,_,_⟩:=zcj hr (by omega);obtain⟨g',hs',_,c0,_⟩:=zc9.cell hr i hi;rw[hs] at hs';cases hs'
  exact⟨g,_,cs,hs,hb,hc,c0⟩
theorem zk5 {w:World} {j:Nat} {cs:Array Value} {T:TypeId} (h:w.heap[j]? = some (.cells cs T (0,0))) (f:Nat):w.frozen? ⟨j,f,none⟩=false:=by
 simp[World.frozen?,h]
theorem zm2 {w:World} {g:Nat} {T:TypeId} {cur:List Value} (h:w.heap[g]? = some (.cells cur.toArray T (0,0))) (k:Nat) (v:Value):(w.setCell ⟨g,k,none⟩ v).heap[g]? = some (.cells (cur.set k v).toArray T (0,0)):=by
 have:=heap_setCell_same w g k _ T v h;rw[this];simp
theorem OwnB.setAt8 {base:Nat} {w:World} {sp:Option Addr} {c:Nat} {l:List Nat} (h:OwnB base w sp c l) (j:Nat) (hj:j<l.length) (y:Nat) (hy:y<256):∃ g,sp=some ⟨g,0,none⟩∧base≤g∧w.cell? ⟨g,j,none⟩=some (.int .u8 ((l.getD j 0:Nat):Int))∧w.frozen? ⟨g,j,none⟩=false∧OwnB base (w.setCell ⟨g,j,none⟩ (.int .u8 (y:Int))) sp c (l.set j y)∧w.grownBy (w.setCell ⟨g,j,none⟩ (.int .u8 (y:Int))) (some g)∧(w.setCell ⟨g,j,none⟩ (.int .u8 (y:Int))).heap.size=w.heap.size:=by
 obtain⟨b,off,hsp,hcell⟩:=h.bytes.cell j hj;obtain⟨g1,cap,cur,hv,hbg,hh,hle,hmx,hsz,htk⟩:=h.owns.2.resolve_left (fun e=>by have:=e.2;omega);simp only[Value.slice.injEq] at hv;obtain⟨rfl,_,rfl⟩:=hv;simp only[Option.some.injEq,Addr.mk.injEq,and_true] at hsp;obtain⟨rfl,rfl⟩:=hsp;rw[Nat.zero_add] at hcell;obtain⟨cl⟩:=cur;have htk1:cl.take (l.length*1)=l.map zcz:=htk;rw[Nat.mul_one] at htk1;have hsz1:cl.length=c*1:=hsz;refine⟨g1,rfl,hbg,hcell,zk5 hh j,⟨⟨by rw[List.length_map,Nat.mul_one],.inr ⟨g1,c,(cl.set j (.int .u8 (y:Int))).toArray,by rw[List.length_set],hbg,zm2 hh _ _,by rw[List.length_set];exact hle,hmx,by simpa using hsz,?_⟩⟩,?_⟩,zfd _ _ _ _,by simp⟩
 ·rw[List.length_set,Nat.mul_one,List.toList_toArray,List.take_set,htk1,List.map_set];rfl
 ·intro x hx;rcases List.mem_or_eq_of_mem_set hx with h1|h1
  ·exact h.lt x h1
  ·rw[h1];exact hy
end
end Go.Proofs.YtjcjleaicjhpeaaGreatDoor
