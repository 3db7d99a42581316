/- Conf: rise, slices.ContainsFunc, and the closures of mayBe. -/
import Derived.Test.YtjcjleaicjhpeaaGreatDoorB24
import Derived.Test.YtjcjleaicjhpeaaGreatDoorB25
import Derived.Test.YtjcjleaicjhpeaaGreatDoorB26
import Derived.Deep.RegionHeld3
set_option linter.unusedVariables false
set_option maxRecDepth 20000
set_option maxHeartbeats 16000000
namespace Go.Proofs.YtjcjleaicjhpeaaGreatDoor
section
open Go.ChangeShapes Go.WideShapes Go.ChangeAt Go.RowKit
section
variable {κ:Type} [Kord κ]
def zat:List κ→Bool
 |a::b::l=>decide (Kord.lt a b)&&zat (b::l)
 |_=>true
theorem zg6 (a b:κ) (l:List κ):zat (a::b::l)=(decide (Kord.lt a b)&&zat (b::l)):=rfl
theorem zg7 (ks:List κ) (j:Nat) (h:j+1<ks.length):zat (ks.drop j)=(decide (Kord.lt ks[j] ks[j+1])&&zat (ks.drop (j+1))):=by
 rw[List.drop_eq_getElem_cons (show j<ks.length by omega),List.drop_eq_getElem_cons h,zg6]
theorem zf0 (ks:List κ) (j:Nat) (h:ks.length≤j+1):zat (ks.drop j)=true:=by
 have hl:(ks.drop j).length≤1:=by rw[List.length_drop];omega
 generalize ks.drop j=l at *
 match l,hl with
 |[],_=>rfl
 |[_],_=>rfl
 |_::_::_,h=>simp at h
theorem zg8:∀ ks:List κ,zat ks=true→ks.Pairwise (fun a b=>Kord.lt a b)
 |[],_=>List.Pairwise.nil
 |[a],_=>List.pairwise_singleton _ _
 |a::b::l,h=>by
  rw[zg6,Bool.and_eq_true,decide_eq_true_eq] at h;have ih:=zg8 (b::l) h.2;refine List.pairwise_cons.2 ⟨fun c hc=>?_,ih⟩;rcases List.mem_cons.1 hc with rfl|hc
  ·exact h.1
  ·exact Kord.tr h.1 ((List.pairwise_cons.1 ih).1 c hc)
theorem zkm:∀ ks:List κ,ks.Pairwise (fun a b=>Kord.lt a b)→zat ks=true
 |[],_=>rfl
 |[a],_=>rfl
 |a::b::l,h=>by
  rw[zg6,zkm (b::l) (List.pairwise_cons.1 h).2,decide_eq_true ((List.pairwise_cons.1 h).1 b (by simp))];rfl
theorem zg0 {α:Type} (kf:α→κ) (l:List α):Kl kf l↔zat (l.map kf)=true:=by
 have h1:Kl kf l↔(l.map kf).Pairwise (fun a b=>Kord.lt a b):=⟨fun h=>List.pairwise_map.2 ((List.pairwise_map.1 h).imp (fun {a b} q=>q)),fun h=>List.pairwise_map.2 ((List.pairwise_map.1 h).imp (fun {a b} q=>q))⟩
 rw[h1];exact⟨zkm _,zg8 _⟩
theorem zmv {a b:κ} (h:Kord.lt a b):zes a b=-1:=by unfold zes;rw[if_pos h]
theorem zmu {a b:κ} (h:¬ Kord.lt a b):zes a b=1∨zes a b=0:=by
 unfold zes;rw[if_neg h];split
 ·exact .inl rfl
 ·exact .inr rfl
end
theorem zif (x:Int) (w:World):Calls Tryz.prog 159 #[.int .i64 x] w fun e w'=>e=.returned (.bool false)∧w'=w:=by
 go_enter Tryz.func159,Tryz.ntmps159
 go_wp2
 go_ret
 exact⟨by simp,rfl⟩
theorem zmw (x y:Int) (w:World):Calls Tryz.prog 110 #[.int .i64 x,.int .i64 y] w fun e w'=>e=.returned (.int .i64 (zes x y))∧w'=w:=by
 have K:=zaa (show zes x y=if x<y then -1 else if y<x then 1 else 0 from rfl);generalize zes x y=r at *;by_cases h1:x<y
 ·have R:=zaa (show r=-1 by rw[za K];rw[if_pos h1]);clear K;go_enter Tryz.func110,Tryz.ntmps110
  go_wp2_with (go_at_call 159;refine(zif _ _).mono ?_;rintro e V ⟨rfl,rfl⟩)
  go_ret
  exact⟨by rw[za R];rfl,rfl⟩
 ·by_cases h2:y<x
  ·have R:=zaa (show r=1 by rw[za K];rw[if_neg h1,if_pos h2]);clear K;go_enter Tryz.func110,Tryz.ntmps110
   go_wp2_with (go_at_call 159;refine(zif _ _).mono ?_;rintro e V ⟨rfl,rfl⟩)
   go_ret
   exact⟨by rw[za R];rfl,rfl⟩
  ·have R:=zaa (show r=0 by rw[za K];rw[if_neg h1,if_neg h2]);clear K;go_enter Tryz.func110,Tryz.ntmps110
   go_wp2_with (go_at_call 159;refine(zif _ _).mono ?_;rintro e V ⟨rfl,rfl⟩)
   go_ret
   exact⟨by rw[za R];rfl,rfl⟩
open Go.Sort in
theorem zgz {w V:World} (h:Below V.heap.size V w) (q:Nat) (os':Array Obj):Below V.heap.size V (grow (w.drewN q) os'):=by
 have h1:Below w.heap.size w (grow (w.drewN q) os'):=by
  refine⟨rfl,rfl,rfl,by simp[grow,World.drewN],fun g hg=>?_⟩;simp[grow,World.drewN,Array.getElem?_append,hg]
 exact h.trans (h1.mono h.size)
theorem zo5 (c:Array Value) (w:World):(callFunc 105 c).run Tryz.prog w=.ok (.enter 105 c) w:=by
 simp[callFunc,go_sem,Tryz.func105];rw[if_neg (by decide +kernel),if_neg (fun h=>by cases h)]
theorem zgx (an:ByteArray) (at_:List Tg) (aa:Option Addr) (ac:Nat) (bn:ByteArray) (bt:List Tg) (ba:Option Addr) (bc:Nat) (w:World) :
  Calls Tryz.prog 105 #[.agg #[.string an,.slice aa at_.length ac],.agg #[.string bn,.slice ba bt.length bc]] w fun e w'=>e=.returned (.int .i64 (zes an bn))∧Below w.heap.size w w':=by
 have s1:(w.alloc (.cells #[.string an,.slice aa at_.length ac] 54)).heap.size=w.heap.size+1:=by simp
 have X1:=zaa (show((w.alloc (.cells #[.string an,.slice aa at_.length ac] 54)).alloc (.cells #[.string bn,.slice ba bt.length bc] 54)).heap[w.heap.size]? = some (.cells #[.string an,.slice aa at_.length ac] 54 (0,0)) by rw[Below.heap_alloc _ _ _ (by simp)];exact zad _ _);have X2:=zaa (show((w.alloc (.cells #[.string an,.slice aa at_.length ac] 54)).alloc (.cells #[.string bn,.slice ba bt.length bc] 54)).heap[w.heap.size+1]? = some (.cells #[.string bn,.slice ba bt.length bc] 54 (0,0)) by rw[← s1];exact zad _ _);have BD:=zaa (show Below w.heap.size w ((w.alloc (.cells #[.string an,.slice aa at_.length ac] 54)).alloc (.cells #[.string bn,.slice ba bt.length bc] 54)) from((Below.refl _ _).alloc (Nat.le_refl _) _).alloc (by omega) _);clear s1;have c0:=zab (za X1) 0 _ rfl;have d0:=zab (za X2) 0 _ rfl;go_enter Tryz.func105,Tryz.ntmps105
 go_wp2_with (go_at_call 90;refine(zfy _ _ _).mono ?_;rintro e U ⟨rfl,rfl⟩)
 go_ret
 exact⟨rfl,za BD⟩
theorem zo6 (c:Array Value) (w:World):(callFunc 107 c).run Tryz.prog w=.ok (.enter 107 c) w:=by
 simp[callFunc,go_sem,Tryz.func107];rw[if_neg (by decide +kernel),if_neg (fun h=>by cases h)]
theorem zgy (ah ap al bh bp bl:ByteArray) (w:World) :
  Calls Tryz.prog 107 #[.agg #[.string ah,.string ap,.string al],.agg #[.string bh,.string bp,.string bl]] w fun e w'=>e=.returned (.int .i64 (zes (ah,ap) (bh,bp)))∧Below w.heap.size w w':=by
 have s1:(w.alloc (.cells #[.string ah,.string ap,.string al] 56)).heap.size=w.heap.size+1:=by simp
 have X1:=zaa (show((w.alloc (.cells #[.string ah,.string ap,.string al] 56)).alloc (.cells #[.string bh,.string bp,.string bl] 56)).heap[w.heap.size]? = some (.cells #[.string ah,.string ap,.string al] 56 (0,0)) by rw[Below.heap_alloc _ _ _ (by simp)];exact zad _ _);have X2:=zaa (show((w.alloc (.cells #[.string ah,.string ap,.string al] 56)).alloc (.cells #[.string bh,.string bp,.string bl] 56)).heap[w.heap.size+1]? = some (.cells #[.string bh,.string bp,.string bl] 56 (0,0)) by rw[← s1];exact zad _ _);have BD:=zaa (show Below w.heap.size w ((w.alloc (.cells #[.string ah,.string ap,.string al] 56)).alloc (.cells #[.string bh,.string bp,.string bl] 56)) from((Below.refl _ _).alloc (Nat.le_refl _) _).alloc (by omega) _);clear s1;have CX:=zaa (show ∀ W:World,Below ((w.alloc (.cells #[.string ah,.string ap,.string al] 56)).alloc (.cells #[.string bh,.string bp,.string bl] 56)).heap.size ((w.alloc (.cells #[.string ah,.string ap,.string al] 56)).alloc (.cells #[.string bh,.string bp,.string bl] 56)) W→W.cell? ⟨w.heap.size,0,none⟩=some (.string ah)∧W.cell? ⟨w.heap.size,1,none⟩=some (.string ap)∧W.cell? ⟨w.heap.size,2,none⟩=some (.string al)∧W.cell? ⟨w.heap.size+1,0,none⟩=some (.string bh)∧W.cell? ⟨w.heap.size+1,1,none⟩=some (.string bp)∧W.cell? ⟨w.heap.size+1,2,none⟩=some (.string bl) from fun W hb=>⟨zab (zac hb (za X1)) 0 _ rfl,zab (zac hb (za X1)) 1 _ rfl,zab (zac hb (za X1)) 2 _ rfl,zab (zac hb (za X2)) 0 _ rfl,zab (zac hb (za X2)) 1 _ rfl,zab (zac hb (za X2)) 2 _ rfl⟩)
 clear X1 X2;go_enter Tryz.func107,Tryz.ntmps107
 go_wp2_with fail
 generalize (w.alloc (.cells #[.string ah,.string ap,.string al] 56)).alloc (.cells #[.string bh,.string bp,.string bl] 56)=V at *;have F:=zaa (show Below V.heap.size V V.drew from(Below.refl _ _).drew);have BV:=zaa (za BD).size;refine wp_region_held_drew (S:=fun W=>W.cell? ⟨w.heap.size,0,none⟩=some (.string ah)∧W.cell? ⟨w.heap.size,1,none⟩=some (.string ap)∧W.cell? ⟨w.heap.size,2,none⟩=some (.string al)∧W.cell? ⟨w.heap.size+1,0,none⟩=some (.string bh)∧W.cell? ⟨w.heap.size+1,1,none⟩=some (.string bp)∧W.cell? ⟨w.heap.size+1,2,none⟩=some (.string bl)) (by kernel_rfl) ?_ (fun hHeld=>?_)
 ·try dsimp only
  exact za CX _ (za F)
 refine hT 0 ?_;refine hT 2 ?_;refine hO 1 (fun K hK=>?_);go_simp
 first
  |(go_at_call 103
    refine(zas _ ⟨ah,ap,al⟩).mono ?_;rintro e U1 ⟨rfl,u1⟩;have F:=zaa ((za F).trans (u1.mono (za F).size))
    clear u1)
  |(go_at_call 103
    refine(zas _ ⟨bh,bp,bl⟩).mono ?_;rintro e U2 ⟨rfl,u2⟩;have F:=zaa ((za F).trans (u2.mono (za F).size))
    clear u2)
  |(go_at_call 46
    refine(zhr (ah,ap) (bh,bp) _).mono ?_;rintro e U3 ⟨rfl,q,os',rfl⟩
    have F:=zaa (zgz (za F) q os'))
 go_wp2_with fail
 refine hK.out _ _ ?_ (fun hHeld=>?_)
 ·try dsimp only
  exact za CX _ (za F)
 clear hK K;refine hP ?_;refine hO 3 (fun K hK=>?_);go_simp
 first
  |(go_at_call 103
    refine(zas _ ⟨ah,ap,al⟩).mono ?_;rintro e U1 ⟨rfl,u1⟩;have F:=zaa ((za F).trans (u1.mono (za F).size))
    clear u1)
  |(go_at_call 103
    refine(zas _ ⟨bh,bp,bl⟩).mono ?_;rintro e U2 ⟨rfl,u2⟩;have F:=zaa ((za F).trans (u2.mono (za F).size))
    clear u2)
  |(go_at_call 46
    refine(zhr (ah,ap) (bh,bp) _).mono ?_;rintro e U3 ⟨rfl,q,os',rfl⟩
    have F:=zaa (zgz (za F) q os'))
 go_wp2_with fail
 refine hK.out _ _ ?_ (fun hHeld=>?_)
 ·try dsimp only
  exact za CX _ (za F)
 clear hK K;refine hP ?_;refine hO 4 (fun K hK=>?_);go_simp
 first
  |(go_at_call 103
    refine(zas _ ⟨ah,ap,al⟩).mono ?_;rintro e U1 ⟨rfl,u1⟩;have F:=zaa ((za F).trans (u1.mono (za F).size))
    clear u1)
  |(go_at_call 103
    refine(zas _ ⟨bh,bp,bl⟩).mono ?_;rintro e U2 ⟨rfl,u2⟩;have F:=zaa ((za F).trans (u2.mono (za F).size))
    clear u2)
  |(go_at_call 46
    refine(zhr (ah,ap) (bh,bp) _).mono ?_;rintro e U3 ⟨rfl,q,os',rfl⟩
    have F:=zaa (zgz (za F) q os'))
 go_wp2_with fail
 refine hK.out _ _ ?_ (fun hHeld=>?_)
 ·try dsimp only
  exact za CX _ (za F)
 clear hK K;refine hP ?_;refine hT 5 ?_;refine wpAnyH_done (by kernel_rfl) ?_ _
 go_wp2
 go_ret
 exact⟨rfl,(za BD).trans ((za F).mono (za BV))⟩
theorem zo4 (c:Array Value) (w:World):(callFunc 109 c).run Tryz.prog w=.ok (.enter 109 c) w:=by
 simp[callFunc,go_sem,Tryz.func109];rw[if_neg (by decide +kernel),if_neg (fun h=>by cases h)]
theorem zgw (ai as_ ae av bi bs be bv:Int) (w:World) :
  Calls Tryz.prog 109 #[.agg #[.int .i64 ai,.int .i64 as_,.int .i64 ae,.int .i64 av],.agg #[.int .i64 bi,.int .i64 bs,.int .i64 be,.int .i64 bv]] w fun e w'=>e=.returned (.int .i64 (zes ai bi))∧Below w.heap.size w w':=by
 have s1:(w.alloc (.cells #[.int .i64 ai,.int .i64 as_,.int .i64 ae,.int .i64 av] 156)).heap.size=w.heap.size+1:=by simp
 have X1:=zaa (show((w.alloc (.cells #[.int .i64 ai,.int .i64 as_,.int .i64 ae,.int .i64 av] 156)).alloc (.cells #[.int .i64 bi,.int .i64 bs,.int .i64 be,.int .i64 bv] 156)).heap[w.heap.size]? = some (.cells #[.int .i64 ai,.int .i64 as_,.int .i64 ae,.int .i64 av] 156 (0,0)) by rw[Below.heap_alloc _ _ _ (by simp)];exact zad _ _);have X2:=zaa (show((w.alloc (.cells #[.int .i64 ai,.int .i64 as_,.int .i64 ae,.int .i64 av] 156)).alloc (.cells #[.int .i64 bi,.int .i64 bs,.int .i64 be,.int .i64 bv] 156)).heap[w.heap.size+1]? = some (.cells #[.int .i64 bi,.int .i64 bs,.int .i64 be,.int .i64 bv] 156 (0,0)) by rw[← s1];exact zad _ _);have BD:=zaa (show Below w.heap.size w ((w.alloc (.cells #[.int .i64 ai,.int .i64 as_,.int .i64 ae,.int .i64 av] 156)).alloc (.cells #[.int .i64 bi,.int .i64 bs,.int .i64 be,.int .i64 bv] 156)) from((Below.refl _ _).alloc (Nat.le_refl _) _).alloc (by omega) _);clear s1;have c0:=zab (za X1) 0 _ rfl;have d0:=zab (za X2) 0 _ rfl;go_enter Tryz.func109,Tryz.ntmps109
 go_wp2_with (go_at_call 110;refine(zmw _ _ _).mono ?_;rintro e U ⟨rfl,rfl⟩)
 go_ret
 exact⟨rfl,za BD⟩
theorem zo8 (c:Array Value) (w:World):(callFunc 112 c).run Tryz.prog w=.ok (.enter 112 c) w:=by
 simp[callFunc,go_sem,Tryz.func112];rw[if_neg (by decide +kernel),if_neg (fun h=>by cases h)]
structure PickP (K:Nat) (caps:Array Value) (pick:Pq→Bool) (w0:World) (l:List Pq):Prop where
 enter:∀ (c:Array Value) (w:World),(callFunc K c).run Tryz.prog w=.ok (.enter K c) w
 call:∀ x∈l,∀ w:World,Below w0.heap.size w0 w→Calls Tryz.prog K (#[.agg #[.string x.po.nm,.slice x.ta x.po.ts.length x.tc]]++caps) w fun e w'=>e=.returned (.bool (pick x))∧Below w.heap.size w w'
theorem zk8 {w:World} {sp:Option Addr} {l:List Pq} (c:Nat) (hL:∀ W:World,Below w.heap.size w W→∀ j (hj:j<l.length),∃ g,sp=some ⟨g,0,none⟩∧W.cell? ⟨g,j*2,none⟩=some (.string l[j].po.nm)∧W.cell? ⟨g,j*2+1,none⟩=some (.slice l[j].ta l[j].po.ts.length l[j].tc)) (hn:l.length≤100) {K:Nat} {caps:Array Value} {pick:Pq→Bool} (hK:PickP K caps pick w l) :
  Calls Tryz.prog 160 #[.slice sp l.length c,.func (.func K) #[] caps] w fun e w'=>(∃ r:Int,e=.returned (.int .i64 r)∧((r=-1∧l.any pick=false)∨(0≤r∧l.any pick=true)))∧Below w.heap.size w w':=by
 have LL:=zaa hL;have HK:=zaa hK;have hE:=hK.enter;clear hL hK;go_enter Tryz.func160,Tryz.ntmps160
 go_wp2_with fail
 go_loopw [8] (fun i wr=>∃ (j:Nat),j≤l.length∧i=.int .i64 (j:Int)∧Hid ((l.take j).any pick=false)∧Hid (Below w.heap.size w wr)) (fun i _=>l.length - (intOf i).toNat)
 case atStart=>exact⟨0,by omega,rfl,by simp[Hid],Below.refl _ _⟩
 case round =>
  obtain⟨j,hj,rfl,hr,F⟩:=hrel;by_cases hjm:j<l.length
  ·obtain⟨g,rfl,p0,p1⟩:=za LL wr (za F) j hjm;have hT:=zaa (List.take_succ_eq_append_getElem hjm);have hI:=zaa (List.getElem_mem hjm);generalize l[j]=x at *;have hj0:(0:Int)≤(j:Int):=by omega
   have hj1:(j:Int)<(l.length:Int):=by omega
   go_wp2_with fail
   refine((za HK).call x (za hI) wr (za F)).mono ?_;rintro e w1 ⟨rfl,b1⟩;have F1:=zaa ((za F).trans (b1.mono (za F).size));clear b1 p0 p1;cases hp:pick x
   ·have R2:=zaa (show(l.take (j+1)).any pick=false by rw[za hT,List.any_append,za hr];simp[hp])
    go_wp2
    exact⟨⟨j+1,by omega,by go_num,R2,F1⟩,by simp[intOf];omega⟩
   ·have R2:=zaa (show l.any pick=true from List.any_eq_true.2 ⟨x,za hI,hp⟩)
    go_wp2
    go_ret
    exact⟨⟨(j:Int),rfl,.inr ⟨hj0,za R2⟩⟩,za F1⟩
  ·obtain rfl:j=l.length:=by omega
   have R2:=zaa (show l.any pick=false by have:=za hr;rwa [List.take_length] at this);have hj1:¬ (l.length:Int)<(l.length:Int):=by omega
   go_wp2
   go_ret
   exact⟨⟨-1,rfl,.inl ⟨rfl,by have h9:=za R2;first|exact h9|simpa using h9⟩⟩,za F⟩
theorem zi {w:World} {sp:Option Addr} {l:List Pq} (c:Nat) (hL:∀ W:World,Below w.heap.size w W→∀ j (hj:j<l.length),∃ g,sp=some ⟨g,0,none⟩∧W.cell? ⟨g,j*2,none⟩=some (.string l[j].po.nm)∧W.cell? ⟨g,j*2+1,none⟩=some (.slice l[j].ta l[j].po.ts.length l[j].tc)) (hn:l.length≤100) {K:Nat} {caps:Array Value} {pick:Pq→Bool} (hK:PickP K caps pick w l) :
  Calls Tryz.prog 111 #[.slice sp l.length c,.func (.func K) #[] caps] w fun e w'=>e=.returned (.bool (l.any pick))∧Below w.heap.size w w':=by
 have LL:=zaa hL;have HK:=zaa hK;clear hL hK;go_enter Tryz.func111,Tryz.ntmps111
 go_wp2_with fail
 refine(zk8 c (za LL) hn (za HK)).mono ?_;rintro e w2 ⟨⟨r,rfl,⟨rfl,hn⟩|⟨hr,hn⟩⟩,b2⟩
 ·have e1:=zaa hn;have B2:=zaa b2;clear hn b2
  go_wp2
  go_ret
  exact⟨by rw[za e1];rfl,za B2⟩
 ·have e1:=zaa hn;have B2:=zaa b2;clear hn b2
  go_wp2
  go_ret
  exact⟨by rw[za e1];first|rfl|simp[hr],za B2⟩
theorem zo9 (c:Array Value) (w:World):(callFunc 115 c).run Tryz.prog w=.ok (.enter 115 c) w:=by
 simp[callFunc,go_sem,Tryz.func115];rw[if_neg (by decide +kernel),if_neg (fun h=>by cases h)]
structure PickR (K:Nat) (caps:Array Value) (pick:Rt→Bool) (w0:World) (l:List Rt):Prop where
 enter:∀ (c:Array Value) (w:World),(callFunc K c).run Tryz.prog w=.ok (.enter K c) w
 call:∀ x∈l,∀ w:World,Below w0.heap.size w0 w→Calls Tryz.prog K (#[.agg #[.string x.h,.string x.p,.string x.l]]++caps) w fun e w'=>e=.returned (.bool (pick x))∧Below w.heap.size w w'
theorem zk9 {w:World} {sp:Option Addr} {l:List Rt} (c:Nat) (hL:∀ W:World,Below w.heap.size w W→∀ j (hj:j<l.length),∃ g,sp=some ⟨g,0,none⟩∧W.cell? ⟨g,j*3,none⟩=some (.string l[j].h)∧W.cell? ⟨g,j*3+1,none⟩=some (.string l[j].p)∧W.cell? ⟨g,j*3+2,none⟩=some (.string l[j].l)) (hn:l.length≤100) {K:Nat} {caps:Array Value} {pick:Rt→Bool} (hK:PickR K caps pick w l) :
  Calls Tryz.prog 161 #[.slice sp l.length c,.func (.func K) #[] caps] w fun e w'=>(∃ r:Int,e=.returned (.int .i64 r)∧((r=-1∧l.any pick=false)∨(0≤r∧l.any pick=true)))∧Below w.heap.size w w':=by
 have LL:=zaa hL;have HK:=zaa hK;have hE:=hK.enter;clear hL hK;go_enter Tryz.func161,Tryz.ntmps161
 go_wp2_with fail
 go_loopw [8] (fun i wr=>∃ (j:Nat),j≤l.length∧i=.int .i64 (j:Int)∧Hid ((l.take j).any pick=false)∧Hid (Below w.heap.size w wr)) (fun i _=>l.length - (intOf i).toNat)
 case atStart=>exact⟨0,by omega,rfl,by simp[Hid],Below.refl _ _⟩
 case round =>
  obtain⟨j,hj,rfl,hr,F⟩:=hrel;by_cases hjm:j<l.length
  ·obtain⟨g,rfl,p0,p1,p2⟩:=za LL wr (za F) j hjm;have hT:=zaa (List.take_succ_eq_append_getElem hjm);have hI:=zaa (List.getElem_mem hjm);generalize l[j]=x at *;have hj0:(0:Int)≤(j:Int):=by omega
   have hj1:(j:Int)<(l.length:Int):=by omega
   go_wp2_with fail
   refine((za HK).call x (za hI) wr (za F)).mono ?_;rintro e w1 ⟨rfl,b1⟩;have F1:=zaa ((za F).trans (b1.mono (za F).size));clear b1 p0 p1 p2;cases hp:pick x
   ·have R2:=zaa (show(l.take (j+1)).any pick=false by rw[za hT,List.any_append,za hr];simp[hp])
    go_wp2
    exact⟨⟨j+1,by omega,by go_num,R2,F1⟩,by simp[intOf];omega⟩
   ·have R2:=zaa (show l.any pick=true from List.any_eq_true.2 ⟨x,za hI,hp⟩)
    go_wp2
    go_ret
    exact⟨⟨(j:Int),rfl,.inr ⟨hj0,za R2⟩⟩,za F1⟩
  ·obtain rfl:j=l.length:=by omega
   have R2:=zaa (show l.any pick=false by have:=za hr;rwa [List.take_length] at this);have hj1:¬ (l.length:Int)<(l.length:Int):=by omega
   go_wp2
   go_ret
   exact⟨⟨-1,rfl,.inl ⟨rfl,by have h9:=za R2;first|exact h9|simpa using h9⟩⟩,za F⟩
theorem zia {w:World} {sp:Option Addr} {l:List Rt} (c:Nat) (hL:∀ W:World,Below w.heap.size w W→∀ j (hj:j<l.length),∃ g,sp=some ⟨g,0,none⟩∧W.cell? ⟨g,j*3,none⟩=some (.string l[j].h)∧W.cell? ⟨g,j*3+1,none⟩=some (.string l[j].p)∧W.cell? ⟨g,j*3+2,none⟩=some (.string l[j].l)) (hn:l.length≤100) {K:Nat} {caps:Array Value} {pick:Rt→Bool} (hK:PickR K caps pick w l) :
  Calls Tryz.prog 114 #[.slice sp l.length c,.func (.func K) #[] caps] w fun e w'=>e=.returned (.bool (l.any pick))∧Below w.heap.size w w':=by
 have LL:=zaa hL;have HK:=zaa hK;clear hL hK;go_enter Tryz.func114,Tryz.ntmps114
 go_wp2_with fail
 refine(zk9 c (za LL) hn (za HK)).mono ?_;rintro e w2 ⟨⟨r,rfl,⟨rfl,hn⟩|⟨hr,hn⟩⟩,b2⟩
 ·have e1:=zaa hn;have B2:=zaa b2;clear hn b2
  go_wp2
  go_ret
  exact⟨by rw[za e1];rfl,za B2⟩
 ·have e1:=zaa hn;have B2:=zaa b2;clear hn b2
  go_wp2
  go_ret
  exact⟨by rw[za e1];first|rfl|simp[hr],za B2⟩
theorem zo7 (c:Array Value) (w:World):(callFunc 118 c).run Tryz.prog w=.ok (.enter 118 c) w:=by
 simp[callFunc,go_sem,Tryz.func118];rw[if_neg (by decide +kernel),if_neg (fun h=>by cases h)]
structure PickC (K:Nat) (caps:Array Value) (pick:Ls→Bool) (w0:World) (l:List Ls):Prop where
 enter:∀ (c:Array Value) (w:World),(callFunc K c).run Tryz.prog w=.ok (.enter K c) w
 call:∀ x∈l,∀ w:World,Below w0.heap.size w0 w→Calls Tryz.prog K (#[.agg #[.int .i64 x.id,.int .i64 x.seq,.int .i64 x.e,.int .i64 x.ver]]++caps) w fun e w'=>e=.returned (.bool (pick x))∧Below w.heap.size w w'
theorem zk7 {w:World} {sp:Option Addr} {l:List Ls} (c:Nat) (hL:∀ W:World,Below w.heap.size w W→∀ j (hj:j<l.length),∃ g,sp=some ⟨g,0,none⟩∧W.cell? ⟨g,j*4,none⟩=some (.int .i64 l[j].id)∧W.cell? ⟨g,j*4+1,none⟩=some (.int .i64 l[j].seq)∧W.cell? ⟨g,j*4+2,none⟩=some (.int .i64 l[j].e)∧W.cell? ⟨g,j*4+3,none⟩=some (.int .i64 l[j].ver)) (hn:l.length≤100) {K:Nat} {caps:Array Value} {pick:Ls→Bool} (hK:PickC K caps pick w l) :
  Calls Tryz.prog 162 #[.slice sp l.length c,.func (.func K) #[] caps] w fun e w'=>(∃ r:Int,e=.returned (.int .i64 r)∧((r=-1∧l.any pick=false)∨(0≤r∧l.any pick=true)))∧Below w.heap.size w w':=by
 have LL:=zaa hL;have HK:=zaa hK;have hE:=hK.enter;clear hL hK;go_enter Tryz.func162,Tryz.ntmps162
 go_wp2_with fail
 go_loopw [8] (fun i wr=>∃ (j:Nat),j≤l.length∧i=.int .i64 (j:Int)∧Hid ((l.take j).any pick=false)∧Hid (Below w.heap.size w wr)) (fun i _=>l.length - (intOf i).toNat)
 case atStart=>exact⟨0,by omega,rfl,by simp[Hid],Below.refl _ _⟩
 case round =>
  obtain⟨j,hj,rfl,hr,F⟩:=hrel;by_cases hjm:j<l.length
  ·obtain⟨g,rfl,p0,p1,p2,p3⟩:=za LL wr (za F) j hjm;have hT:=zaa (List.take_succ_eq_append_getElem hjm);have hI:=zaa (List.getElem_mem hjm);generalize l[j]=x at *;have hj0:(0:Int)≤(j:Int):=by omega
   have hj1:(j:Int)<(l.length:Int):=by omega
   go_wp2_with fail
   refine((za HK).call x (za hI) wr (za F)).mono ?_;rintro e w1 ⟨rfl,b1⟩;have F1:=zaa ((za F).trans (b1.mono (za F).size));clear b1 p0 p1 p2 p3;cases hp:pick x
   ·have R2:=zaa (show(l.take (j+1)).any pick=false by rw[za hT,List.any_append,za hr];simp[hp])
    go_wp2
    exact⟨⟨j+1,by omega,by go_num,R2,F1⟩,by simp[intOf];omega⟩
   ·have R2:=zaa (show l.any pick=true from List.any_eq_true.2 ⟨x,za hI,hp⟩)
    go_wp2
    go_ret
    exact⟨⟨(j:Int),rfl,.inr ⟨hj0,za R2⟩⟩,za F1⟩
  ·obtain rfl:j=l.length:=by omega
   have R2:=zaa (show l.any pick=false by have:=za hr;rwa [List.take_length] at this);have hj1:¬ (l.length:Int)<(l.length:Int):=by omega
   go_wp2
   go_ret
   exact⟨⟨-1,rfl,.inl ⟨rfl,by have h9:=za R2;first|exact h9|simpa using h9⟩⟩,za F⟩
theorem zh9 {w:World} {sp:Option Addr} {l:List Ls} (c:Nat) (hL:∀ W:World,Below w.heap.size w W→∀ j (hj:j<l.length),∃ g,sp=some ⟨g,0,none⟩∧W.cell? ⟨g,j*4,none⟩=some (.int .i64 l[j].id)∧W.cell? ⟨g,j*4+1,none⟩=some (.int .i64 l[j].seq)∧W.cell? ⟨g,j*4+2,none⟩=some (.int .i64 l[j].e)∧W.cell? ⟨g,j*4+3,none⟩=some (.int .i64 l[j].ver)) (hn:l.length≤100) {K:Nat} {caps:Array Value} {pick:Ls→Bool} (hK:PickC K caps pick w l) :
  Calls Tryz.prog 117 #[.slice sp l.length c,.func (.func K) #[] caps] w fun e w'=>e=.returned (.bool (l.any pick))∧Below w.heap.size w w':=by
 have LL:=zaa hL;have HK:=zaa hK;clear hL hK;go_enter Tryz.func117,Tryz.ntmps117
 go_wp2_with fail
 refine(zk7 c (za LL) hn (za HK)).mono ?_;rintro e w2 ⟨⟨r,rfl,⟨rfl,hn⟩|⟨hr,hn⟩⟩,b2⟩
 ·have e1:=zaa hn;have B2:=zaa b2;clear hn b2
  go_wp2
  go_ret
  exact⟨by rw[za e1];rfl,za B2⟩
 ·have e1:=zaa hn;have B2:=zaa b2;clear hn b2
  go_wp2
  go_ret
  exact⟨by rw[za e1];first|rfl|simp[hr],za B2⟩
theorem zph {w:World} (x:Pq) (h:TgsAt w x.ta x.po.ts) (hs:x.po.nm.size≤1000000) (hz:x.po.ts.length≤16∧∀ t∈x.po.ts,t.1.size≤1000000) :
  Calls Tryz.prog 112 #[.agg #[.string x.po.nm,.slice x.ta x.po.ts.length x.tc]] w fun e w'=>e=.returned (.bool (!zbe x.po))∧Below w.heap.size w w':=by
 have b1:=zaa (show Below w.heap.size w (w.alloc (.cells #[.string x.po.nm,.slice x.ta x.po.ts.length x.tc] 54)) from(Below.refl _ _).alloc (Nat.le_refl _) _);have X1:=zad w (.cells #[.string x.po.nm,.slice x.ta x.po.ts.length x.tc] 54);have c0:=zab X1 0 _ rfl;have c1:=zab X1 1 _ rfl;have MB:=zaa (ziu x.po (h.later (za b1)) (by omega) (fun t ht=>Nat.le_trans (hz.2 t ht) (by omega)) x.po.ts.length x.tc rfl (by simp only[maxLen];omega));generalize zbe x.po=ok at *;clear X1 h;go_enter Tryz.func112,Tryz.ntmps112
 go_wp2_with fail
 refine(za MB).mono ?_;rintro e U ⟨rfl,u1⟩;have B2:=zaa ((za b1).trans (u1.mono (za b1).size));clear u1 c0 c1 MB
 go_wp2
 go_ret
 exact⟨by cases ok <;> rfl,za B2⟩
theorem zpi {w:World} {h:StH} {x:Sm} {D:Nat} (s:StAt w h x) (hm:Mx w) (hD:w.cell? ⟨D,0,none⟩=some (.pointer (some ⟨h.S,0,none⟩))) (rh rp rl:ByteArray) (hr:rh.size≤1000000∧rp.size≤1000000∧rl.size≤1000000) :
  Calls Tryz.prog 115 (#[.agg #[.string rh,.string rp,.string rl]]++#[.pointer (some ⟨D,0,none⟩)]) w fun e w'=>e=.returned (.bool (!zaz x ⟨rh,rp,rl⟩))∧Below w.heap.size w w':=by
 have b1:=zaa (show Below w.heap.size w (w.alloc (.cells #[.string rh,.string rp,.string rl] 56)) from(Below.refl _ _).alloc (Nat.le_refl _) _);have X1:=zad w (.cells #[.string rh,.string rp,.string rl] 56);have c0:=zab X1 0 _ rfl;have c1:=zab X1 1 _ rfl;have c2:=zab X1 2 _ rfl;have d0:=cell_later (za b1) hD;have MB:=zaa (zhn (s.later (za b1)) (hm.later (za b1)) rh rp rl hr);generalize zaz x ⟨rh,rp,rl⟩=ok at *;clear X1 s hm hD;go_enter Tryz.func115,Tryz.ntmps115
 go_wp2_with fail
 refine(za MB).mono ?_;rintro e U ⟨rfl,u1⟩;have B2:=zaa ((za b1).trans (u1.mono (za b1).size));clear u1 c0 c1 c2 d0 MB
 go_wp2
 go_ret
 exact⟨by cases ok <;> rfl,za B2⟩
theorem zpg {w:World} {S:Nat} {v:Int} {D:Nat} (hS:w.cell? ⟨S,0,none⟩=some (.int .i64 v)) (hD:w.cell? ⟨D,0,none⟩=some (.pointer (some ⟨S,0,none⟩))) (x:Ls) :
  Calls Tryz.prog 118 (#[.agg #[.int .i64 x.id,.int .i64 x.seq,.int .i64 x.e,.int .i64 x.ver]]++#[.pointer (some ⟨D,0,none⟩)]) w fun e w'=>e=.returned (.bool (!zb3 v x))∧Below w.heap.size w w':=by
 have b1:=zaa (show Below w.heap.size w (w.alloc (.cells #[.int .i64 x.id,.int .i64 x.seq,.int .i64 x.e,.int .i64 x.ver] 156)) from(Below.refl _ _).alloc (Nat.le_refl _) _);have X1:=zad w (.cells #[.int .i64 x.id,.int .i64 x.seq,.int .i64 x.e,.int .i64 x.ver] 156);have c0:=zab X1 0 _ rfl;have c1:=zab X1 1 _ rfl;have c2:=zab X1 2 _ rfl;have c3:=zab X1 3 _ rfl;have d0:=cell_later (za b1) hD;have MB:=zaa (zgv x (cell_later (za b1) hS));generalize zb3 v x=ok at *;clear X1 hS hD;go_enter Tryz.func118,Tryz.ntmps118
 go_wp2_with fail
 refine(za MB).mono ?_;rintro e U ⟨rfl,u1⟩;have B2:=zaa ((za b1).trans (u1.mono (za b1).size));clear u1 c0 c1 c2 c3 d0 MB
 go_wp2
 go_ret
 exact⟨by cases ok <;> rfl,za B2⟩
theorem znl {w:World} {sp:Option Addr} {l:List Pq} (c:Nat) (hL:∀ W:World,Below w.heap.size w W→∀ j (hj:j<l.length),∃ g,sp=some ⟨g,0,none⟩∧W.cell? ⟨g,j*2,none⟩=some (.string l[j].po.nm)∧W.cell? ⟨g,j*2+1,none⟩=some (.slice l[j].ta l[j].po.ts.length l[j].tc)) (hn:l.length≤100) :
  Calls Tryz.prog 104 #[.slice sp l.length c,.func (.func 105) #[] #[]] w fun e w'=>e=.returned (.bool (zat (l.map qnm)))∧Below w.heap.size w w':=by
 have LL:=zaa hL
 have KX:=zaa (show ∀ (j:Nat) (hj:j+1<l.length),zat ((l.map qnm).drop j)=(decide (Kord.lt (qnm l[j]) (qnm l[j+1]))&&zat ((l.map qnm).drop (j+1))) from fun j hj=>by
  rw[zg7 (l.map qnm) j (by simpa using hj),List.getElem_map,List.getElem_map])
 have KS:=zaa (show ∀ j,l.length≤j+1→zat ((l.map qnm).drop j)=true from fun j hj=>zf0 (l.map qnm) j (by simpa using hj));have hE:=zo5;generalize hks:l.map qnm=ks at *;generalize hR:zat ks=R at *;clear hL;go_enter Tryz.func104,Tryz.ntmps104
 go_wp2_with fail
 go_loopw [5] (fun i wr=>∃ j:Nat,j≤l.length∧i=.int .i64 ((j:Int)+1)∧Hid (R=zat (ks.drop j))∧Hid (Below w.heap.size w wr)) (fun i _=>l.length+5 - (intOf i).toNat)
 case atStart=>exact⟨0,by omega,rfl,zaa (by rw[List.drop_zero];exact hR.symm),Below.refl _ _⟩
 case round =>
  obtain⟨j,hj,rfl,HR,F⟩:=hrel;by_cases hjm:j+1<l.length
  ·as_aux_lemma =>
   have y0:(0:Int)≤(j:Int):=by omega
   have y1:(j:Int)+1<(l.length:Int):=by omega
   have y2:(0:Int)≤(j:Int)+1:=by omega
   have y3:(j:Int)<(l.length:Int):=by omega
   have hw:IntKind.i64.wrap (j:Int)=(j:Int):=by rw[IntKind.wrap_i64];omega
   have ht:((j:Int)+1).toNat=j+1:=by omega
   have NX:=zaa (za KX j hjm)
   have CE:=zaa (show ∀ W:World,Below w.heap.size w W→∃ g,sp=some ⟨g,0,none⟩∧W.cell? ⟨g,j*2,none⟩=some (.string l[j].po.nm)∧W.cell? ⟨g,j*2+1,none⟩=some (.slice l[j].ta l[j].po.ts.length l[j].tc)∧W.cell? ⟨g,(j+1)*2,none⟩=some (.string l[j+1].po.nm)∧W.cell? ⟨g,(j+1)*2+1,none⟩=some (.slice l[j+1].ta l[j+1].po.ts.length l[j+1].tc) from fun W hb=>by
    obtain⟨g,h1,h2⟩:=za LL W hb j (by omega);obtain⟨g',h1',h2'⟩:=za LL W hb (j+1) hjm;have e:=h1.symm.trans h1';simp only[Option.some.injEq,Addr.mk.injEq,and_true] at e;subst e
    exact⟨g,h1,h2.1,h2.2,h2'⟩)
   generalize l[j]=xa at *;generalize l[j+1]=xb at *;obtain⟨⟨an,at_⟩,aa,ac⟩:=xa;obtain⟨⟨bn,bt⟩,ba,bc⟩:=xb;dsimp only[qnm] at CE NX;have F:=zaa (show Below w.heap.size w wr.drew from(za F).drew);obtain⟨g,rfl,_⟩:=za CE _ (za F)
   have CG:=zaa (show ∀ W:World,Below w.heap.size w W→W.cell? ⟨g,j*2,none⟩=some (.string an)∧W.cell? ⟨g,j*2+1,none⟩=some (.slice aa at_.length ac)∧W.cell? ⟨g,(j+1)*2,none⟩=some (.string bn)∧W.cell? ⟨g,(j+1)*2+1,none⟩=some (.slice ba bt.length bc) from fun W hb=>by
    obtain⟨g',e,h⟩:=za CE W hb;simp only[Option.some.injEq,Addr.mk.injEq,and_true] at e;subst e
    exact h)
   by_cases hlt:Kord.lt an bn
   ·as_aux_lemma =>
    have hv:=zmv hlt;have RN:=zaa (show R=zat (ks.drop (j+1)) by rw[za HR,za NX];simp[show Kord.lt an bn from hlt]);clear hR hlt
    go_wp2_with fail
    refine wp_region_held_drew (S:=fun W=>W.cell? ⟨g,j*2,none⟩=some (.string an)∧W.cell? ⟨g,j*2+1,none⟩=some (.slice aa at_.length ac)∧W.cell? ⟨g,(j+1)*2,none⟩=some (.string bn)∧W.cell? ⟨g,(j+1)*2+1,none⟩=some (.slice ba bt.length bc)) (by kernel_rfl) ?_ (fun hHeld=>?_)
    ·try dsimp only
     exact za CG _ (za F)
    refine hT 0 ?_;refine hT 1 ?_;refine hT 2 ?_;refine hT 3 ?_;refine hT 4 ?_;refine hT 5 ?_;refine hT 6 ?_;refine hT 7 ?_;refine hT 8 ?_;refine hT 9 ?_;refine hO 10 (fun K hK=>?_);go_simp
    first
     |(go_at_call 105
       refine(zgx an at_ aa ac bn bt ba bc _).mono ?_;rintro e U1 ⟨rfl,u1⟩;rw[hv];have F:=zaa ((za F).trans (u1.mono (za F).size))
       clear u1)
    go_wp2_with fail
    refine hK.out _ _ ?_ (fun hHeld=>?_)
    ·try dsimp only
     exact za CG _ (za F)
    clear hK K;refine hP ?_;refine hT 11 ?_;refine wpAnyH_done (by kernel_rfl) ?_ _
    go_wp2
    exact⟨⟨j+1,by omega,by go_num,RN,F⟩,by simp[intOf];omega⟩
   ·as_aux_lemma =>
    have RN:=zaa (show R=false by rw[za HR,za NX];simp[show ¬ Kord.lt an bn from hlt]);rcases zmu hlt with hv|hv
    ·as_aux_lemma =>
     clear hR hlt
     go_wp2_with fail
     refine wp_region_held_drew (S:=fun W=>W.cell? ⟨g,j*2,none⟩=some (.string an)∧W.cell? ⟨g,j*2+1,none⟩=some (.slice aa at_.length ac)∧W.cell? ⟨g,(j+1)*2,none⟩=some (.string bn)∧W.cell? ⟨g,(j+1)*2+1,none⟩=some (.slice ba bt.length bc)) (by kernel_rfl) ?_ (fun hHeld=>?_)
     ·try dsimp only
      exact za CG _ (za F)
     refine hT 0 ?_;refine hT 1 ?_;refine hT 2 ?_;refine hT 3 ?_;refine hT 4 ?_;refine hT 5 ?_;refine hT 6 ?_;refine hT 7 ?_;refine hT 8 ?_;refine hT 9 ?_;refine hO 10 (fun K hK=>?_);go_simp
     first
      |(go_at_call 105
        refine(zgx an at_ aa ac bn bt ba bc _).mono ?_;rintro e U1 ⟨rfl,u1⟩;rw[hv];have F:=zaa ((za F).trans (u1.mono (za F).size))
        clear u1)
     go_wp2_with fail
     refine hK.out _ _ ?_ (fun hHeld=>?_)
     ·try dsimp only
      exact za CG _ (za F)
     clear hK K;refine hP ?_;refine hT 11 ?_;refine wpAnyH_done (by kernel_rfl) ?_ _
     go_wp2
     go_ret
     rw[za RN];exact⟨rfl,za F⟩
    ·as_aux_lemma =>
     clear hR hlt
     go_wp2_with fail
     refine wp_region_held_drew (S:=fun W=>W.cell? ⟨g,j*2,none⟩=some (.string an)∧W.cell? ⟨g,j*2+1,none⟩=some (.slice aa at_.length ac)∧W.cell? ⟨g,(j+1)*2,none⟩=some (.string bn)∧W.cell? ⟨g,(j+1)*2+1,none⟩=some (.slice ba bt.length bc)) (by kernel_rfl) ?_ (fun hHeld=>?_)
     ·try dsimp only
      exact za CG _ (za F)
     refine hT 0 ?_;refine hT 1 ?_;refine hT 2 ?_;refine hT 3 ?_;refine hT 4 ?_;refine hT 5 ?_;refine hT 6 ?_;refine hT 7 ?_;refine hT 8 ?_;refine hT 9 ?_;refine hO 10 (fun K hK=>?_);go_simp
     first
      |(go_at_call 105
        refine(zgx an at_ aa ac bn bt ba bc _).mono ?_;rintro e U1 ⟨rfl,u1⟩;rw[hv];have F:=zaa ((za F).trans (u1.mono (za F).size))
        clear u1)
     go_wp2_with fail
     refine hK.out _ _ ?_ (fun hHeld=>?_)
     ·try dsimp only
      exact za CG _ (za F)
     clear hK K;refine hP ?_;refine hT 11 ?_;refine wpAnyH_done (by kernel_rfl) ?_ _
     go_wp2
     go_ret
     rw[za RN];exact⟨rfl,za F⟩
  ·as_aux_lemma =>
   have y1:¬ (j:Int)+1<(l.length:Int):=by omega
   have RN:=zaa (show R=true by rw[za HR];exact za KS j (by omega))
   go_wp2
   go_ret
   rw[za RN];exact⟨rfl,za F⟩
end
end Go.Proofs.YtjcjleaicjhpeaaGreatDoor
