/- Numbers as texts: strconv.Itoa, strconv.Atoi. -/
import Derived.Test.YtofllbpfajppeaaGreatDoorB05
import Derived.Test.YtofllbpfajppeaaGreatDoorB07
import Derived.Test.YtofllbpfajppeaaGreatDoorB08
import Derived.Test.YtofllbpfajppeaaGreatDoorRows
import Derived.Lib.LaidTab
import Derived.Lib.LaidU8
import Derived.MakeChecks
import Derived.Laws.BitsAllLaws
import Derived.Test.YtofllbpfajppeaaGreatDoorB01
import Derived.WalkKit
import Derived.ProofKit
import Derived.OpenShut
import Derived.Below
import Derived.WalkLawsBesides
import Derived.WalkSpells
import Derived.Outline
import Derived.Laws.CopyOwn
import Derived.Deep.QuietTactic
import Derived.BigQuiet
set_option linter.unusedVariables false
set_option maxRecDepth 20000
set_option maxHeartbeats 16000000
namespace Go.Proofs.YtofllbpfajppeaaGreatDoor
section
open Go.ChangeShapes Go.WideShapes Go.ChangeAt Go.RowKit Go.Sort
structure Tz (w:World):Prop where
 tab:Lib.TabIs Tryz.prog w "internal/strconv.uint64pow10" .u64 Lib.pow10Tab
 sy:∃ ev,w.cell? ⟨Tryz.laysC172_ren.g 15,0,none⟩=some ev∧(ev=.nilIface∨∃ te pe,ev=.iface te pe)
 rg:∃ ev,w.cell? ⟨Tryz.laysC172_ren.g 16,0,none⟩=some ev∧(ev=.nilIface∨∃ te pe,ev=.iface te pe)
theorem zx9 {n:String} {g:Nat} {k:IntKind} {zs:List Int} {w w':World} (hg:Tryz.prog.globalNamed n=some g) (h:Lib.TabIs Tryz.prog w n k zs) (hb:Below w.heap.size w w'):Lib.TabIs Tryz.prog w' n k zs:=by
 unfold Lib.TabIs World.var? at h ⊢;rw[hg] at h ⊢;simp only[Option.bind_some] at h ⊢;have hlt:g<w.heap.size:=by
  rcases Nat.lt_or_ge g w.heap.size with h'|h'
  ·exact h'
  ·rw[Array.getElem?_eq_none h'] at h;cases h
 rw[hb.block g hlt];exact h
theorem zvc:∃ g,Tryz.prog.globalNamed "internal/strconv.uint64pow10" = some g:=Option.isSome_iff_exists.1 (show(Tryz.prog.globalNamed "internal/strconv.uint64pow10").isSome=true by kernel_rfl)
theorem Tz.later {w w':World} (h:Tz w) (hb:Below w.heap.size w w'):Tz w':=by
 obtain⟨g,hg⟩:=zvc;obtain⟨e1,h1,h2⟩:=h.sy;obtain⟨e2,h3,h4⟩:=h.rg;exact⟨zx9 hg h.tab hb,⟨e1,cell_later hb h1,h2⟩,⟨e2,cell_later hb h3,h4⟩⟩
theorem zu5 {w:World} (k:Nat) (os:Array Obj):Below w.heap.size w (grow (w.drewN k) os) :=
 ⟨rfl,rfl,rfl,by show w.heap.size≤(w.heap++os).size;simp,fun i hi=>by show(w.heap++os)[i]? = _;rw[Array.getElem?_append_left hi]⟩
theorem zu6 (n:Nat) (hn:n≤9223372036854775807) (w:World) (hz:Tz w):Calls Tryz.prog 97 #[.int .i64 (n:Int)] w fun e w'=>e=.returned (.string (str (Lib.decDigits n)))∧Below w.heap.size w w':=by
 refine(Tryz.strconv_Itoa (n:Int) (by omega) (by omega) w hz.tab).mono ?_;rintro e w' ⟨rfl,k,os,rfl⟩;refine⟨?_,zu5 k os⟩;have:Lib.itoa (n:Int)=Lib.decDigits n:=by
  unfold Lib.itoa;rw[if_neg (by omega),Int.toNat_natCast]
 rw[this];rfl
theorem zho (a b:Nm):str a++str b=str (a++b):=by
 unfold str;apply ByteArray.ext
 simp
theorem zAt (x:Nm) (hx:x.length≤64) (v:Int) (h:Lib.atoiAll x=.ok v) (w:World):Calls Tryz.prog 120 #[.string (str x)] w fun e w'=>e=.returned (.tuple #[.int .i64 v,.nilIface])∧Below w.heap.size w w':=by
 refine(Tryz.strconv_Atoi_ok (str x) (by rw[zb];omega) v h w).mono ?_;rintro e w' ⟨rfl,rfl|⟨t,rfl⟩⟩
 ·exact⟨rfl,Below.refl _ _⟩
 ·exact⟨rfl,zgo w t⟩
theorem zAs (x:Nm) (hx:x.length≤64) (h:∀ v,Lib.atoiAll x≠.ok v) (w:World) (hz:Tz w):Calls Tryz.prog 120 #[.string (str x)] w fun e w'=>∃ v t a,e=.returned (.tuple #[.int .i64 v,.iface t (.pointer (some a))])∧Below w.heap.size w w':=by
 obtain⟨e1,h1,h2⟩:=hz.sy;obtain⟨e2,h3,h4⟩:=hz.rg;cases hh:Lib.atoiAll x with
 |ok v=>exact absurd hh (h v)
 |«syntax» =>
  refine(Tryz.strconv_Atoi_syntax (str x) (by rw[zb];omega) hh e1 w h1 h2).mono ?_;rintro e w' ⟨N,rfl,_,_,hb⟩;exact⟨_,_,_,rfl,hb⟩
 |range =>
  refine(Tryz.strconv_Atoi_range (str x) (by rw[zb];omega) hh e2 w h3 h4).mono ?_;rintro e w' ⟨N,rfl,_,_,hb⟩;exact⟨_,_,_,rfl,hb⟩
theorem zst (a b:Nm):((str a).toList==(str b).toList)=decide (a=b):=by
 have h1:∀ x:Nm,(str x).toList=x:=fun x=>by rw[ByteArray.toList_eq];rfl
 rw[h1,h1];by_cases h:a=b
 ·subst h;simp
 ·rw[decide_eq_false h]
  simpa using h
end
section
open Go.ChangeShapes Go.WideShapes Go.ChangeAt Go.RowKit Go.Lib
theorem zl7 {P:Program} {W:World} {name:String} {k:IntKind} {zs:List Int} {g:Nat} {t e:TypeId} {n:Nat}
  (hg:P.globalNamed name=some g) (hty:(P.globals[g]?).map (·.type)=some t) (ht:P.underlying t=some (.array n e)) (he:P.underlying e=some (.int k)) (hce:P.cellsOf e=1) (hct:P.cellsOf t=n)
  (h:VarReads P W name (tabData k zs)):TabIs P W name k zs:=by
 obtain⟨g',t',cs,fuel,p,hg',ht',hvar,hd⟩:=h;obtain rfl:=Option.some.inj (hg.symm.trans hg');obtain rfl:=Option.some.inj (hty.symm.trans ht');unfold TabIs;rw[hvar,← cells_of_tab ht he hce hct hd]
theorem zr8 {H:Type} {enc:TypeId×Value→H} {P:Program} {w:World} {base:Nat} {sp:Nat→Bool} {held:Bool} {fuel:Nat} {t:TypeId} {ms:_} {cs:List Value} {r:DataW H×List MemPlace}
  (ht:P.underlying t=some (.interface ms)) (h:DataW.trod enc P w base sp held fuel t cs=some r):cs=[.nilIface]∨∃ u v,cs=[.iface u v]:=by
 cases fuel with
 |zero=>simp[DataW.trod] at h
 |succ fuel =>
  simp only[DataW.trod,ht] at h;split at h <;> first|(exact .inl rfl)|(exact .inr ⟨_,_,rfl⟩)|(simp_all)|(cases h)
theorem zh1 {P:Program} {W:World} {name:String} {g:Nat} {t:TypeId} {ms:_} {d:DataW Unit}
  (hg:P.globalNamed name=some g) (hty:(P.globals[g]?).map (·.type)=some t) (ht:P.underlying t=some (.interface ms)) (h:VarReads P W name d):∃ ev,W.cell? ⟨g,0,none⟩=some ev∧(ev=.nilIface∨∃ te pe,ev=.iface te pe):=by
 obtain⟨g',t',cs,fuel,p,hg',ht',hvar,hd⟩:=h;obtain rfl:=Option.some.inj (hg.symm.trans hg');obtain rfl:=Option.some.inj (hty.symm.trans ht');have h0:=World.var?_cell hg hvar 0;rcases zr8 ht hd with e|⟨u,v,e⟩
 ·rw[show cs=#[.nilIface] from Array.toList_inj.1 e] at h0;exact⟨_,by simpa using h0,.inl rfl⟩
 ·rw[show cs=#[.iface u v] from Array.toList_inj.1 e] at h0;exact⟨_,by simpa using h0,.inr ⟨u,v,rfl⟩⟩
noncomputable def powG:Nat:=(Tryz.prog.globalNamed "internal/strconv.uint64pow10").getD 0
noncomputable def powT:Nat:=((Tryz.prog.globals[powG]?).map (·.type)).getD 0
noncomputable def powE:Nat:=match Tryz.prog.underlying powT with
 |some (.array _ e)=>e
 |_=>0
noncomputable def errT:Nat:=((Tryz.prog.globals[Tryz.laysC172_ren.g 15]?).map (·.type)).getD 0
theorem zr9 (o:Option TypeDesc) (h:(match o with
  |some (.interface _)=>true
  |_=>false)=true):∃ ms,o=some (.interface ms):=by
 split at h
 ·exact⟨_,rfl⟩
 ·cases h
theorem zwv:∃ ms,Tryz.prog.underlying errT=some (.interface ms):=zr9 _ (by kernel_rfl)
theorem zBw:(Rows.laid_internal_strconv_uint64pow10:DataW Unit)=tabData .u64 Lib.pow10Tab:=by kernel_rfl
theorem zrg {W:World} (hL:laidMet Tryz.prog [("math/bits.deBruijn32tab",Rows.laid_math_bits_deBruijn32tab),("math/bits.deBruijn64tab",Rows.laid_math_bits_deBruijn64tab),("internal/strconv.uint64pow10",Rows.laid_internal_strconv_uint64pow10),("strconv.ErrRange",Rows.laid_strconv_ErrRange),("strconv.ErrSyntax",Rows.laid_strconv_ErrSyntax)] W):Tz W:=by
 have h1:=Lib.laidMet.reads hL (.tail _ (.tail _ (.head _)));rw[zBw] at h1;have h2:=Lib.laidMet.reads hL (.tail _ (.tail _ (.tail _ (.head _))));have h3:=Lib.laidMet.reads hL (.tail _ (.tail _ (.tail _ (.tail _ (.head _)))));obtain⟨ms,hm⟩:=zwv
 exact⟨zl7 (g:=powG) (t:=powT) (e:=powE) (n:=20) (by kernel_rfl) (by kernel_rfl) (by kernel_rfl) (by kernel_rfl) (by kernel_rfl) (by kernel_rfl) h1,
  zh1 Tryz.laysC172.m15 (by kernel_rfl) hm h3,zh1 (t:=errT) Tryz.laysC172.m16 (by kernel_rfl) hm h2⟩
end
end Go.Proofs.YtofllbpfajppeaaGreatDoor
section
namespace Go.Proofs.YtofllbpfajppeaaGreatDoor.Crc
def step (r:Nat):Nat:=if r % 2=1 then (r / 2) ^^^ 3988292384 else r / 2
def steps:Nat→Nat→Nat
 |0,r=>r
 |k+1,r=>step (steps k r)
def stepBit (r c:Nat):Nat:=if (r+c) % 2=1 then (r / 2) ^^^ 3988292384 else r / 2
def bitsOf (r c:Nat):Nat→Nat
 |0=>r
 |k+1=>stepBit (bitsOf r c k) (c / 2 ^ k)
def reg (r:Nat) (l:List Nat):Nat:=l.foldl (fun r c=>steps 8 (r ^^^ c)) r
theorem reg_nil (r:Nat):reg r []=r:=List.foldl_nil
theorem ztx (r c:Nat) (l:List Nat):reg r (c::l)=reg (steps 8 (r ^^^ c)) l:=List.foldl_cons ..
def not32 (r:Nat):Nat:=4294967295 - r
def ext (s:Nat) (l:List Nat):Nat:=not32 (reg (not32 s) l)
theorem xor_mod (a b:Nat):(a ^^^ b) % 2=(a+b) % 2:=by
 have h:=Nat.xor_mod_two_pow (a:=a) (b:=b) (n:=1);rw[Nat.pow_one] at h;rw[h];rcases Nat.mod_two_eq_zero_or_one a with ha|ha <;> rcases Nat.mod_two_eq_zero_or_one b with hb|hb <;> (rewrite [ha,hb,Nat.add_mod,ha,hb];decide)
theorem xor_lt {a b:Nat} (ha:a<4294967296) (hb:b<4294967296):a ^^^ b<4294967296:=Nat.xor_lt_two_pow (n:=32) ha hb
theorem zA4 {r:Nat} (h:r<4294967296):step r<4294967296:=by
 unfold step;split
 ·exact xor_lt (by omega) (by decide)
 ·omega
theorem steps_lt {r:Nat} (h:r<4294967296):∀ k,steps k r<4294967296
 |0=>h
 |k+1=>zA4 (steps_lt h k)
theorem reg_lt:∀ (l:List Nat) {r:Nat},r<4294967296→(∀ c∈l,c<256)→reg r l<4294967296
 |[],_,h,_=>by rewrite [reg_nil];exact h
 |c::l,_,h,hl=>by rewrite [ztx];exact reg_lt l (steps_lt (xor_lt h (by have:=hl c (by simp);omega)) 8) (fun d hd=>hl d (by simp[hd]))
theorem not32_lt (r:Nat):not32 r<4294967296:=by unfold not32;omega
theorem ext_lt (s:Nat) (l:List Nat):ext s l<4294967296:=not32_lt _
theorem not32_xor {r:Nat} (h:r<4294967296):not32 r=r ^^^ 4294967295:=by
 unfold not32;apply Nat.eq_of_testBit_eq
 intro i;rw[Nat.testBit_xor];have h1:(4294967295 - r)=2 ^ 32 - (r+1):=by omega
 rw[h1,Nat.testBit_two_pow_sub_succ (by simpa using h)];have h2:(4294967295:Nat)=2 ^ 32 - 1:=by decide
 rw[h2,Nat.testBit_two_pow_sub_one];by_cases hi:i<32
 ·simp[hi]
 ·have:r.testBit i=false:=Nat.testBit_lt_two_pow (Nat.lt_of_lt_of_le h (by
   have:(2:Nat) ^ 32≤2 ^ i:=Nat.pow_le_pow_right (by omega) (by omega)
   simpa using this))
  simp[hi,this]
theorem zvh (r:Nat) (a b:List Nat):reg r (a++b)=reg (reg r a) b:=by
 unfold reg;exact List.foldl_append
theorem reg_snoc (r:Nat) (a:List Nat) (c:Nat):reg r (a++[c])=steps 8 (reg r a ^^^ c):=by
 rewrite [zvh,ztx];exact reg_nil _
theorem zss (r c:Nat):stepBit r c ^^^ (c / 2)=step (r ^^^ c):=by
 unfold stepBit step;rw[Nat.xor_div_two,xor_mod];by_cases h:(r+c) % 2=1
 ·rw[if_pos h,if_pos h,Nat.xor_assoc,Nat.xor_assoc,Nat.xor_comm (c / 2)]
 ·rw[if_neg h,if_neg h]
theorem zmj (r c:Nat):∀ k,bitsOf r c k ^^^ (c / 2 ^ k)=steps k (r ^^^ c)
 |0=>by simp[bitsOf,steps]
 |k+1=>by
  simp only[bitsOf,steps];rw[← zmj r c k,← zss,Nat.div_div_eq_div_mul,← Nat.pow_succ]
theorem bitsOf_eight (r c:Nat) (h:c<256):bitsOf r c 8=steps 8 (r ^^^ c):=by
 rw[← zmj r c 8,Nat.div_eq_of_lt (by omega),Nat.xor_zero]
theorem zvy {r c:Nat} (h:r<4294967296):stepBit r c<4294967296:=by
 unfold stepBit;split
 ·exact xor_lt (by omega) (by decide)
 ·omega
theorem bitsOf_lt {r:Nat} (c:Nat) (h:r<4294967296):∀ k,bitsOf r c k<4294967296
 |0=>h
 |k+1=>zvy (bitsOf_lt c h k)
end Go.Proofs.YtofllbpfajppeaaGreatDoor.Crc
end
namespace Go.Proofs.YtofllbpfajppeaaGreatDoor
section
open Go.ChangeShapes Go.WideShapes Go.ChangeAt Go.RowKit
theorem zz0 (n:Nat) (hn:n<4294967296) (h:n % 2=1):bits .xor .u32 ((n:Int) / 2) 3988292384=((Crc.step n:Nat):Int):=by
 have e:((n:Int) / 2)=((n / 2:Nat):Int):=by omega
 rw[e];have:=u32_xor_nat (n / 2) 3988292384 (by omega) (by decide);rw[Crc.step,if_pos h];exact this
theorem zx4 (n:Nat) (h:¬ n % 2=1):((n:Int) / 2)=((Crc.step n:Nat):Int):=by
 rw[Crc.step,if_neg h];omega
theorem znu (n:Nat) (hn:n<4294967296):bits .and .u32 (n:Int) 1=((n % 2:Nat):Int):=by
 have:=u32_and_nat n 1 hn (by decide);rw[nat_mask1] at this;exact this
theorem zBu (n:Nat) (hn:n<4294967296) (h:(bits .and .u32 (n:Int) 1==1)=true):n % 2=1:=by
 rw[znu n hn] at h;have:=beq_iff_eq.1 h;omega
theorem zAy (n:Nat) (hn:n<4294967296) (h:(bits .and .u32 (n:Int) 1==1)=false):¬ n % 2=1:=by
 rw[znu n hn] at h;have:=beq_eq_false_iff_ne.1 h;omega
theorem zsq (r:Nat) (w:World) (hr:r<4294967296) :
  Calls Tryz.prog 208 #[.int .u32 (r:Int)] w fun e w'=>e=.returned (.int .u32 ((Crc.steps 8 r:Nat):Int))∧w'=w:=by
 go_enter Tryz.func208,Tryz.ntmps208
 go_wp2
 go_loop [0,4] (fun x i=>∃ k n:Nat,k≤8∧i=.int .i64 (k:Int)∧x=.int .u32 (n:Int)∧n=Crc.steps k r) (fun _ i=>8 - (intOf i).toNat)
 case atStart=>exact⟨0,r,by omega,rfl,rfl,rfl⟩
 case round =>
  obtain⟨k,n,hk,rfl,rfl,hn⟩:=hrel;have hlt:n<4294967296:=by rw[hn];exact Crc.steps_lt hr k
  have HN:Hid (n=Crc.steps k r):=hn;clear hn;by_cases h8:k<8
  ·have hs:Crc.steps (k+1) r=Crc.step n:=by rw[HN.out];rfl
   have HS:=zaa hs;clear hs
   go_wp2
   ·have ho:n % 2=1:=zBu n hlt ‹_›;exact⟨⟨k+1,Crc.step n,by omega,by go_num,by rw[zz0 n hlt ho],(za HS).symm⟩,by simp[intOf];omega⟩
   ·have ho:¬ n % 2=1:=zAy n hlt ‹_›;exact⟨⟨k+1,Crc.step n,by omega,by go_num,by rw[zx4 n ho],(za HS).symm⟩,by simp[intOf];omega⟩
  ·have hk8:k=8:=by omega
   subst hk8;have HR:=zaa (show Ending.returned (.int .u32 (n:Int))=.returned (.int .u32 ((Crc.steps 8 r:Nat):Int)) by rw[HN.out])
   go_wp2
   go_ret
   exact⟨za HR,rfl⟩
theorem zw9 (n:Nat) (hn:n<4294967296):bits .xor .u32 IntKind.u32.max (n:Int)=((Crc.not32 n:Nat):Int):=by
 have e:IntKind.u32.max=((4294967295:Nat):Int):=by decide
 rw[e,u32_xor_nat 4294967295 n (by decide) hn,Crc.not32_xor hn,Nat.xor_comm]
theorem zB (a b:Nat) (ha:a<4294967296) (hb:b<4294967296):bits .xor .u32 (a:Int) (b:Int)=((a ^^^ b:Nat):Int):=u32_xor_nat a b ha hb
theorem zjr (s:Nat) (a:Option Addr) (c:Nat) (l:List Nat) (w:World) (hs:s<4294967296) (hl:l.length≤maxLen) (hb:BytesAt w a l) :
  Calls Tryz.prog 188 #[.int .u32 (s:Int),.slice a l.length c] w fun e w'=>e=.returned (.int .u32 ((Crc.ext s l:Nat):Int))∧w'=w:=by
 unfold maxLen at hl;have hB:=zaa hb;clear hb;go_enter Tryz.func188,Tryz.ntmps188
 go_wp2
 rw[zw9 s hs]
 go_loop [5,12] (fun x i=>∃ k n:Nat,k≤l.length∧i=.int .i64 (k:Int)∧x=.int .u32 (n:Int)∧n=Crc.reg (Crc.not32 s) (l.take k)) (fun _ i=>l.length - (intOf i).toNat)
 case atStart=>exact⟨0,Crc.not32 s,by omega,rfl,rfl,by rw[List.take_zero,Crc.reg_nil]⟩
 case round =>
  obtain⟨k,n,hk,rfl,rfl,hn⟩:=hrel;have hlt:n<4294967296:=by rw[hn];exact Crc.reg_lt _ (Crc.not32_lt _) (fun c hc=>(za hB).lt c (List.mem_of_mem_take hc))
  have HN:Hid (n=Crc.reg (Crc.not32 s) (l.take k)):=hn;clear hn;by_cases hkl:k<l.length
  ·obtain⟨b,off,rfl,hc⟩:=(za hB).cell k hkl;have hc256:=zcv (za hB).lt k;have HS:=zaa (show Crc.reg (Crc.not32 s) (l.take (k+1))=Crc.steps 8 (n ^^^ l.getD k 0) by rw[zi3 l k hkl,Crc.reg_snoc,HN.out]);generalize l.getD k 0=x at *
   go_wp2_with fail
   rw[zB n x hlt (by omega)];refine(zsq _ _ (Crc.xor_lt hlt (by omega))).mono ?_;rintro e w' ⟨rfl,rfl⟩;generalize hy:Crc.steps 8 (n ^^^ x)=y at *;have HY:=zaa hy;clear hy
   go_wp2
   exact⟨⟨k+1,y,by omega,by go_num,rfl,(za HS).symm⟩,by simp[intOf];omega⟩
  ·have hkl':k=l.length:=by omega
   have HR:=zaa (show Ending.returned (.int .u32 ((Crc.not32 n:Nat):Int))=.returned (.int .u32 ((Crc.ext s l:Nat):Int)) by rw[HN.out,hkl',List.take_length];unfold Crc.ext;exact Eq.refl _);have HNn:=zaa (zw9 n hlt);clear hkl'
   go_wp2
   go_ret
   exact⟨(congrArg (fun z:Int=>Ending.returned (.int .u32 z)) (za HNn)).trans (za HR),rfl⟩
theorem zx8 (a:Option Addr) (c:Nat) (l:List Nat) (w:World) (hl:l.length≤maxLen) (hb:BytesAt w a l) :
  Calls Tryz.prog 189 #[.slice a l.length c] w fun e w'=>e=.returned (.int .u32 ((Crc.ext 0 l:Nat):Int))∧w'=w:=by
 have hB:=zaa hb;clear hb;go_enter Tryz.func189,Tryz.ntmps189
 go_wp2_with (go_at_call 188;refine(zjr 0 _ _ _ _ (by decide) hl (za hB)).mono ?_;rintro e w' ⟨rfl,rfl⟩)
 go_ret
 exact⟨rfl,rfl⟩
theorem zt9 (n:Nat) (hn:n<4294967296):bits .xor .u32 (n:Int) 4294967295=((Crc.not32 n:Nat):Int):=by
 have:=u32_xor_nat n 4294967295 hn (by decide);rw[Crc.not32_xor hn];exact this
theorem zAe (m x j:Nat) (hm:m<4294967296) :
  bits .and .u32 (bits .xor .u32 (m:Int) (bits .and .u32 ((x:Int) / 2 ^ j % 4294967296) 1)) 1=(((m+x / 2 ^ j) % 2:Nat):Int):=by
 have e:((x:Int) / 2 ^ j % 4294967296)=((x / 2 ^ j % 4294967296:Nat):Int):=by
  rw[Int.natCast_emod,Int.natCast_ediv,Int.natCast_pow];rfl
 have h1:x / 2 ^ j % 4294967296<4294967296:=Nat.mod_lt _ (by decide);rw[e,znu _ h1];generalize hy:x / 2 ^ j=y at *;rw[u32_xor_nat m _ hm (by omega),znu _ (Crc.xor_lt hm (by omega)),Crc.xor_mod]
 congr 1
 omega
theorem zAu (m x j:Nat) (hm:m<4294967296)
  (h:(bits .and .u32 (bits .xor .u32 (m:Int) (bits .and .u32 ((x:Int) / 2 ^ j % 4294967296) 1)) 1==1)=true):(m+x / 2 ^ j) % 2=1:=by
 rw[zAe m x j hm] at h;have:=beq_iff_eq.1 h;omega
theorem zyt (m x j:Nat) (hm:m<4294967296)
  (h:(bits .and .u32 (bits .xor .u32 (m:Int) (bits .and .u32 ((x:Int) / 2 ^ j % 4294967296) 1)) 1==1)=false):¬ (m+x / 2 ^ j) % 2=1:=by
 rw[zAe m x j hm] at h;have:=beq_eq_false_iff_ne.1 h;omega
theorem zsr (m c:Nat) (hm:m<4294967296) (h:(m+c) % 2=1):bits .xor .u32 ((m:Int) / 2) 3988292384=((Crc.stepBit m c:Nat):Int):=by
 have e:((m:Int) / 2)=((m / 2:Nat):Int):=by omega
 rw[e];have:=u32_xor_nat (m / 2) 3988292384 (by omega) (by decide);rw[Crc.stepBit,if_pos h];exact this
theorem zq4 (m c:Nat) (h:¬ (m+c) % 2=1):((m:Int) / 2)=((Crc.stepBit m c:Nat):Int):=by
 rw[Crc.stepBit,if_neg h];omega
theorem ze4 (s:Nat) (a:Option Addr) (c:Nat) (l:List Nat) (w:World) (hs:s<4294967296) (hl:l.length≤maxLen) (hb:BytesAt w a l) :
  Calls Tryz.prog 142 #[.int .u32 (s:Int),.slice a l.length c] w fun e w'=>e=.returned (.int .u32 ((Crc.ext s l:Nat):Int))∧w'=w:=by
 unfold maxLen at hl;have hB:=zaa hb;clear hb;go_enter Tryz.func142,Tryz.ntmps142
 go_wp2
 rw[zt9 s hs]
 go_loop [5,6] (fun x i=>∃ k n:Nat,k≤l.length∧i=.int .i64 (k:Int)∧x=.int .u32 (n:Int)∧n=Crc.reg (Crc.not32 s) (l.take k)) (fun _ i=>l.length - (intOf i).toNat)
 case atStart=>exact⟨0,Crc.not32 s,by omega,rfl,rfl,by rw[List.take_zero,Crc.reg_nil]⟩
 case round =>
  obtain⟨k,n,hk,rfl,rfl,hn⟩:=hrel;have hlt:n<4294967296:=by rw[hn];exact Crc.reg_lt _ (Crc.not32_lt _) (fun c hc=>(za hB).lt c (List.mem_of_mem_take hc))
  have HN:Hid (n=Crc.reg (Crc.not32 s) (l.take k)):=hn;clear hn;by_cases hkl:k<l.length
  ·obtain⟨b,off,rfl,hc⟩:=(za hB).cell k hkl;have hc256:=zcv (za hB).lt k;have HS:=zaa (show Crc.reg (Crc.not32 s) (l.take (k+1))=Crc.bitsOf n (l.getD k 0) 8 by rw[zi3 l k hkl,Crc.reg_snoc,HN.out,Crc.bitsOf_eight _ _ hc256]);generalize l.getD k 0=x at *
   go_wp2
   go_loop [5,7] (fun r i=>∃ j m:Nat,j≤8∧i=.int .i64 (j:Int)∧r=.int .u32 (m:Int)∧m=Crc.bitsOf n x j) (fun _ i=>8 - (intOf i).toNat)
   case atStart=>exact⟨0,n,by omega,rfl,rfl,rfl⟩
   case round =>
    obtain⟨j,m,hj,rfl,rfl,hm⟩:=hrel;have hmlt:m<4294967296:=by rw[hm];exact Crc.bitsOf_lt x hlt j
    have HM:Hid (m=Crc.bitsOf n x j):=hm;clear hm;by_cases hj8:j<8
    ·have hs:Crc.bitsOf n x (j+1)=Crc.stepBit m (x / 2 ^ j):=by rw[HM.out];rfl
     have HT:=zaa hs;clear hs
     go_wp2
     ·exact⟨⟨j+1,_,by omega,by go_num,by rw[zsr m (x / 2 ^ j) hmlt (zAu m x j hmlt ‹_›)],(za HT).symm⟩,by simp[intOf];omega⟩
     ·exact⟨⟨j+1,_,by omega,by go_num,by rw[zq4 m (x / 2 ^ j) (zyt m x j hmlt ‹_›)],(za HT).symm⟩,by simp[intOf];omega⟩
    ·have hj8':j=8:=by omega
     subst hj8'
     go_wp2
     exact⟨⟨k+1,m,by omega,by go_num,rfl,HM.out.trans (za HS).symm⟩,by simp[intOf];omega⟩
  ·have hkl':k=l.length:=by omega
   have HR:=zaa (show Ending.returned (.int .u32 ((Crc.not32 n:Nat):Int))=.returned (.int .u32 ((Crc.ext s l:Nat):Int)) by rw[HN.out,hkl',List.take_length];unfold Crc.ext;exact Eq.refl _);have HNn:=zaa (zt9 n hlt);clear hkl'
   go_wp2
   go_ret
   exact⟨(congrArg (fun z:Int=>Ending.returned (.int .u32 z)) (za HNn)).trans (za HR),rfl⟩
theorem zqk (a:Option Addr) (c:Nat) (l:List Nat) (w:World) (hl:l.length≤maxLen) (hb:BytesAt w a l) :
  Calls Tryz.prog 143 #[.slice a l.length c] w fun e w'=>e=.returned (.int .u32 ((Crc.ext 0 l:Nat):Int))∧w'=w:=by
 have hB:=zaa hb;clear hb;go_enter Tryz.func143,Tryz.ntmps143
 go_wp2_with (go_at_call 142;refine(ze4 0 _ _ _ _ (by decide) hl (za hB)).mono ?_;rintro e w' ⟨rfl,rfl⟩)
 go_ret
 exact⟨rfl,rfl⟩
def zdr (n:Nat):List Nat:=[n / 16777216,n / 65536 % 256,n / 256 % 256,n % 256]
theorem zhs (n:Nat) (hn:n<4294967296):∀ c∈zdr n,c<256:=by
 intro c hc;simp only[zdr,List.mem_cons,List.not_mem_nil,or_false] at hc;omega
theorem zcm (n:Nat):(zdr n).length=4:=by simp[zdr]
theorem znn (n:Nat) (w:World) (hn:n<4294967296) :
  Calls Tryz.prog 168 #[.int .u32 (n:Int)] w fun e w'=>∃ b0 b1 b2 b3:Nat,e=.returned (.agg #[.int .u8 (b0:Int),.int .u8 (b1:Int),.int .u8 (b2:Int),.int .u8 (b3:Int)])∧Below w.heap.size w w'∧Hid (zdr n=[b0,b1,b2,b3]):=by
 go_enter Tryz.func168,Tryz.ntmps168
 go_wp2
 refine bodyPost_ret (v:=.agg #[.int .u8 ((n:Int) / 16777216),.int .u8 ((n:Int) / 65536 % 256),.int .u8 ((n:Int) / 256 % 256),.int .u8 ((n:Int) % 256)]) (by simp[results,Tryz.results168,go_sem]) rfl ?_;exact⟨n / 16777216,n / 65536 % 256,n / 256 % 256,n % 256,rfl,(Below.refl _ _).alloc (Nat.le_refl _) _,rfl⟩
def zf3 (l:List Nat):Nat:=l.getD 0 0*16777216+l.getD 1 0*65536+l.getD 2 0*256+l.getD 3 0
theorem or4 (x0 x1 x2 x3:Nat) (l0:x0<256) (l1:x1<256) (l2:x2<256) (l3:x3<256) :
  bits .or .u32 (bits .or .u32 (bits .or .u32 ((x0:Int)*16777216) ((x1:Int)*65536)) ((x2:Int)*256)) (x3:Int)=((x0*16777216+x1*65536+x2*256+x3:Nat):Int):=by
 have e0:((x0:Int)*16777216)=((x0*16777216:Nat):Int):=by omega
 have e1:((x1:Int)*65536)=((x1*65536:Nat):Int):=by omega
 have e2:((x2:Int)*256)=((x2*256:Nat):Int):=by omega
 rw[e0,e1,e2,u32_or_nat _ _ (by omega) (by omega),nat_join 24 (x0*16777216) (x1*65536) (by omega) (by omega),
  u32_or_nat _ _ (by omega) (by omega),nat_join 16 _ (x2*256) (by omega) (by omega),
  u32_or_nat _ _ (by omega) (by omega),nat_join 8 _ x3 (by omega) (by omega)]
theorem zrk (a:Option Addr) (c:Nat) (l:List Nat) (w:World) (h4:4≤l.length) (hl:l.length≤maxLen) (hb:BytesAt w a l) :
  Calls Tryz.prog 156 #[.slice a l.length c] w fun e w'=>e=.returned (.int .u32 ((zf3 l:Nat):Int))∧Below w.heap.size w w':=by
 unfold maxLen at hl;obtain⟨b,off,rfl,hc⟩:=zgt hb (by omega);have c0:=hc 0 (by omega);have c1:=hc 1 (by omega);have c2:=hc 2 (by omega);have c3:=hc 3 (by omega);have l0:=zcv hb.lt 0;have l1:=zcv hb.lt 1;have l2:=zcv hb.lt 2;have l3:=zcv hb.lt 3;have HR:Hid (zf3 l=l.getD 0 0*16777216+l.getD 1 0*65536+l.getD 2 0*256+l.getD 3 0):=rfl;clear hc hb;rw[Nat.add_zero] at c0;generalize zf3 l=r at *;generalize l.getD 0 0=x0 at *;generalize l.getD 1 0=x1 at *;generalize l.getD 2 0=x2 at *;generalize l.getD 3 0=x3 at *;generalize l.length=n at *;go_enter Tryz.func156,Tryz.ntmps156
 go_wp2
 go_quiet (fail)
 go_wp2
 go_ret
 exact⟨zA2 (by rw[or4 x0 x1 x2 x3 l0 l1 l2 l3,HR.out]),_root_.Go.below_drewN (Below.refl _ _) _⟩
def ztc (n:Nat) (l:List Nat):Nat:=Crc.ext (Crc.ext 0 (zdr n)) l
theorem zr4 (n:Nat) (l:List Nat):ztc n l<4294967296:=Crc.ext_lt _ _
theorem zhz (a a':Option Addr) (c c':Nat) (h l:List Nat) (w:World) (hh:h.length≤maxLen) (hl:l.length≤maxLen) (hb:BytesAt w a h) (hb':BytesAt w a' l) :
  Calls Tryz.prog 157 #[.slice a h.length c,.slice a' l.length c'] w fun e w'=>e=.returned (.int .u32 ((Crc.ext (Crc.ext 0 h) l:Nat):Int))∧w'=w:=by
 have hB:=zaa hb;have hB':=zaa hb';clear hb hb';go_enter Tryz.func157,Tryz.ntmps157
 go_wp2_with fail
 refine(zx8 _ _ h _ hh (za hB)).mono ?_;rintro e w' ⟨rfl,rfl⟩
 go_wp2_with fail
 refine(zjr _ _ _ l _ (Crc.ext_lt _ _) hl (za hB')).mono ?_;rintro e w' ⟨rfl,rfl⟩
 go_wp2
 go_ret
 exact⟨rfl,rfl⟩
def zbl (l:List Nat):List Nat:=zdr l.length++(zdr (ztc l.length l)++l)
theorem zy9 (a:Option Addr) (c:Nat) (l:List Nat) (w:World) (hb:BytesAt w a l) (h:l.length≤65536) :
  Calls Tryz.prog 136 #[.slice a l.length c] w fun e w'=>∃ g,e=.returned (.tuple #[.slice (some ⟨g,0,none⟩) (8+l.length) (8+l.length),.int .i64 0])∧Below w.heap.size w w'∧w.heap.size≤g∧w'.heap[g]? = some (.cells ((zbl l).map zbb).toArray 5 (0,0)):=by
 have hB:=zaa hb;clear hb;go_enter Tryz.func136,Tryz.ntmps136
 go_wp2_with fail
 refine(znn l.length _ (by omega)).mono ?_;rintro e w1 ⟨b0,b1,b2,b3,rfl,hb1,h1⟩;have hlt1:∀ c∈[b0,b1,b2,b3],c<256:=by rw[← za h1];exact zhs _ (by omega)
 have hW1:=zad w1 (.cells #[.int .u8 (b0:Int),.int .u8 (b1:Int),.int .u8 (b2:Int),.int .u8 (b3:Int)] 199);have hbW1:Below w.heap.size w (w1.alloc (.cells #[.int .u8 (b0:Int),.int .u8 (b1:Int),.int .u8 (b2:Int),.int .u8 (b3:Int)] 199)):=hb1.alloc hb1.size _;have hB1:=zaa (zbx (l:=[b0,b1,b2,b3]) hW1 hlt1);have hBl1:=zaa ((za hB).later hbW1);have HW1:=zaa hW1;have HB1:=zaa hbW1;clear hW1 hbW1 hB
 go_wp2_with fail
 generalize w1.alloc _=W1 at *;refine(zhz _ _ _ _ [b0,b1,b2,b3] l _ (by simp[maxLen]) (by unfold maxLen;omega) (za hB1) (za hBl1)).mono ?_;rintro e W1 ⟨rfl,rfl⟩;rw[← za h1];have HS:=zaa (show Crc.ext (Crc.ext 0 (zdr l.length)) l=ztc l.length l from rfl);rw[za HS];generalize hs:ztc l.length l=s at *;have Hs:=zaa hs;have hslt:s<4294967296:=by rw[← hs];exact zr4 _ _
 clear hs
 go_wp2_with fail
 refine(znn s _ hslt).mono ?_;rintro e w2 ⟨c0,c1,c2,c3,rfl,hb2,h2⟩;have hlt2:∀ c∈[c0,c1,c2,c3],c<256:=by rw[← za h2];exact zhs _ hslt
 have hW2:=zad w2 (.cells #[.int .u8 (c0:Int),.int .u8 (c1:Int),.int .u8 (c2:Int),.int .u8 (c3:Int)] 199);have hsz2:=hb2.size;have hbW2:Below W1.heap.size W1 (w2.alloc (.cells #[.int .u8 (c0:Int),.int .u8 (c1:Int),.int .u8 (c2:Int),.int .u8 (c3:Int)] 199)):=hb2.alloc hb2.size _;have hmk:=zqz (8+l.length) (by omega);have e8:((8+l.length:Nat):Int)=8+(l.length:Int):=by omega
 rw[e8] at hmk;clear e8;have hW3:=fun o1 o2=>zad (w2.alloc o1) o2;have hbW3:∀ o1 o2,Below (w2.heap.size+1) (w2.alloc o1) ((w2.alloc o1).alloc o2):=fun o1 o2=>(Below.refl _ _).alloc (by simp) _;simp only[World.size_alloc] at hW3;have HW3:=zaa hW3;have hsB:=(za HB1).size
 have HF:=zaa (fun o2 W (hb:Below (w2.heap.size+1) ((w2.alloc (.cells #[.int .u8 (c0:Int),.int .u8 (c1:Int),.int .u8 (c2:Int),.int .u8 (c3:Int)] 199)).alloc o2) W) =>
  (show BytesAt W (some ⟨w1.heap.size,0,none⟩) [b0,b1,b2,b3]∧BytesAt W (some ⟨w2.heap.size,0,none⟩) [c0,c1,c2,c3]∧BytesAt W a l∧Below w.heap.size w W from by
   have hq:Below (w2.heap.size+1) (w2.alloc (.cells #[.int .u8 (c0:Int),.int .u8 (c1:Int),.int .u8 (c2:Int),.int .u8 (c3:Int)] 199)) W:=(hbW3 _ o2).trans hb;have hq1:Below W1.heap.size W1 W:=hbW2.trans (hq.mono (by omega))
   exact⟨(za hB1).later hq1,(zbx (l:=[c0,c1,c2,c3]) hW2 hlt2).later (hq.mono (by simp)),(za hBl1).later hq1,(za HB1).trans (hq1.mono hsB)⟩))
 clear hW3 hW2 hbW2 hbW3 hlt1 hlt2 hB1 hBl1 HW1 hb1 hb2 HS;have hz:0+4≤(zmf (8+l.length)).length:=by rw[zcu];omega
 go_wp2_with (refine zhe rfl (.tmp 22) (.tmp 23) rfl (some ⟨w2.heap.size+1,0,none⟩) (some ⟨w1.heap.size,0,none⟩) (8+l.length) (8+l.length) 4 4 rfl rfl (w2.heap.size+1) 0 (zmf (8+l.length)) ?hg [b0,b1,b2,b3] ?hsl rfl (by omega) (fun _=>rfl) hz ?_;rotate_right;intro W4 h4 hb4)
 case hg=>exact za HW3 _ _
 case hsl=>exact(za HF _ _ (Below.refl _ _)).1
 have F4:=zaa (za HF _ _ hb4);generalize hZ1:splice (zmf (8+l.length)) 0 [b0,b1,b2,b3]=Z1 at *;have HZ1:=zaa hZ1;have hz1:4+4≤Z1.length:=by rw[← hZ1,length_splice _ _ _ (by simp only[zcu,List.length_cons,List.length_nil];omega),zcu];omega
 clear hZ1 HW3 hmk;have q1:(4:Int)≤8+(l.length:Int):=by omega
 have q2:¬ (8+l.length=4):=by omega
 have q3:8+l.length - 4=4+l.length:=by omega
 go_region_law (refine zv0 rfl (.tmp 26) (.tmp 27) rfl (some ⟨w2.heap.size+1,4,none⟩) (some ⟨w2.heap.size,0,none⟩) (4+l.length) (4+l.length) 4 4 rfl rfl (w2.heap.size+1) 4 Z1 (by exact za h4) [c0,c1,c2,c3] (by exact(za F4).2.1.drew) rfl (by omega) (fun _=>rfl) hz1 ?_;intro W5 h5 hb5)
 have hb45:Below (w2.heap.size+1) W4 W5:=((Below.refl _ _).drew).trans hb5;have F5:=zaa (za HF _ _ (hb4.trans hb45));generalize hZ2:splice Z1 4 [c0,c1,c2,c3]=Z2 at *;have HZ2:=zaa hZ2;have hz2:8+l.length≤Z2.length:=by
  rw[← hZ2,length_splice _ _ _ (by simp only[List.length_cons,List.length_nil];omega),← za HZ1,length_splice _ _ _ (by simp only[zcu,List.length_cons,List.length_nil];omega),zcu];exact Nat.le_refl _
 clear hZ2 q1 q2 q3 hb5 h4 F4;have hs8:∀ u:World,(Instr.slice 62 (.slice (some ⟨w2.heap.size+1,0,none⟩) (8+l.length) (8+l.length)) (some (.int .i64 8)) none none).run Tryz.prog u=.ok (.slice (slp (some ⟨w2.heap.size+1,0,none⟩) 8 (8+l.length)) (8+l.length - 8) (8+l.length - 8)) u :=
  zd2 (some ⟨w2.heap.size+1,0,none⟩) (8+l.length) (8+l.length) 8 (by omega)
 have hp8:=zaa (show 0<l.length→slp (some ⟨w2.heap.size+1,0,none⟩) 8 (8+l.length)=some ⟨w2.heap.size+1,8,none⟩ from fun h0=>by unfold slp;rw[if_neg (by omega)];simp[Addr.add_lit]);rw[show 8+l.length - 8=l.length by omega] at hs8;generalize slp (some ⟨w2.heap.size+1,0,none⟩) 8 (8+l.length)=p8 at *
 go_wp2_with (refine zhe rfl (.tmp 30) (.tmp 31) rfl p8 a l.length l.length l.length c rfl rfl (w2.heap.size+1) 8 Z2 ?hg l ?hsl rfl (Nat.le_refl _) ?hdp hz2 ?_;rotate_right;intro W6 h6 hb6)
 case hg=>exact za h5
 case hsl=>exact(za F5).2.2.1
 case hdp=>exact za hp8
 have F6:=zaa (za HF _ _ (hb4.trans (hb45.trans hb6)));have HZ:splice Z2 8 l=zbl l:=by
  rw[← za HZ2,← za HZ1];have e:=splice_splice_splice (zmf (8+l.length)) [b0,b1,b2,b3] [c0,c1,c2,c3] l 4 4 rfl rfl (by rw[zcu]);rw[e,← za h1,← za h2,← za Hs];rfl
 rw[HZ] at h6
 go_ret2
 exact⟨w2.heap.size+1,rfl,(za F6).2.2.2,by omega,za h6⟩
def zca (l:List Nat) (k:Nat):Nat :=
 if l.length - k<8 then 3 else if 65536<zf3 (l.drop k) then 6 else if l.length - k - 8<zf3 (l.drop k) then 3
 else if Crc.ext (Crc.ext 0 ((l.drop k).take 4)) ((l.drop (k+8)).take (zf3 (l.drop k)))=zf3 (l.drop (k+4)) then 0 else 5
def zdo (l:List Nat) (k:Nat):List Nat:=(l.drop (k+8)).take (zf3 (l.drop k))
theorem zo {l:List Nat} (h:∀ c∈l,c<256):zf3 l<4294967296:=by
 have l0:=zcv h 0;have l1:=zcv h 1;have l2:=zcv h 2;have l3:=zcv h 3;unfold zf3;omega
theorem zkz (l:List Nat):zf3 (l.take 4)=zf3 l:=by
 unfold zf3;rw[zg0 l 4 0 (by omega),zg0 l 4 1 (by omega),zg0 l 4 2 (by omega),zg0 l 4 3 (by omega)]
theorem zu8 (a:Option Addr) (c:Nat) (l:List Nat) (k:Nat) (w:World) (hl:l.length≤maxLen) (hk:k≤l.length) (h:l.length - k<8) :
  Calls Tryz.prog 124 #[.slice a l.length c,.int .i64 (k:Int)] w fun e w'=>e=.returned (.tuple #[.slice none 0 0,.int .i64 0,.int .i64 3])∧w'=w:=by
 unfold maxLen at hl;have h0:¬ (k:Int)<0:=by omega
 have h1:¬ (l.length:Int)<(k:Int):=by omega
 go_enter Tryz.func124,Tryz.ntmps124
 go_wp2
 go_ret3
 exact⟨rfl,rfl⟩
theorem zq3 (Z X:List Nat) (h:Z.length=X.length):splice Z 0 X=X:=by
 unfold splice;rw[List.take_zero,List.nil_append,List.drop_eq_nil_of_le (by omega),List.append_nil]
theorem zgm (a:Option Addr) (n c:Nat) (l:List Nat) (w:World) (hn:l.length=n) (h4:4≤l.length) (hl:l.length≤maxLen) (hb:BytesAt w a l) :
  Calls Tryz.prog 156 #[.slice a n c] w fun e w'=>e=.returned (.int .u32 ((zf3 l:Nat):Int))∧Below w.heap.size w w':=by
 subst hn;exact zrk a c l w h4 hl hb
theorem zkq (a a':Option Addr) (n n' c c':Nat) (h l:List Nat) (w:World) (hn:h.length=n) (hn':l.length=n') (hh:h.length≤maxLen) (hl:l.length≤maxLen) (hb:BytesAt w a h) (hb':BytesAt w a' l) :
  Calls Tryz.prog 157 #[.slice a n c,.slice a' n' c'] w fun e w'=>e=.returned (.int .u32 ((Crc.ext (Crc.ext 0 h) l:Nat):Int))∧w'=w:=by
 subst hn;subst hn';exact zhz a a' c c' h l w hh hl hb hb'
theorem zu7 (a:Option Addr) (c:Nat) (l:List Nat) (k:Nat) (w:World) (hl:l.length≤maxLen) (hc:l.length≤c) (hk:k≤l.length) (h8:¬ l.length - k<8) (hb:BytesAt w a l) :
  Calls Tryz.prog 124 #[.slice a l.length c,.int .i64 (k:Int)] w fun e w'=>Below w.heap.size w w' ∧
   ((0<zca l k∧e=.returned (.tuple #[.slice none 0 0,.int .i64 0,.int .i64 (zca l k:Nat)])) ∨
    (zca l k=0∧∃ g,e=.returned (.tuple #[.slice (some ⟨g,0,none⟩) (zdo l k).length (zdo l k).length,.int .i64 ((k+8+(zdo l k).length:Nat):Int),.int .i64 0])∧w.heap.size≤g∧w'.heap[g]? = some (.cells ((zdo l k).map zbb).toArray 5 (0,0)))):=by
 unfold maxLen at hl;have h0:¬ (k:Int)<0:=by omega
 have h1:¬ (l.length:Int)<(k:Int):=by omega
 have h2:¬ (l.length:Int) - (k:Int)<8:=by omega
 have s1:=zdi a l.length c k (k+4) (by omega) (by omega);have s2:=zd2 a l.length c (k+4) (by omega);have B1:=zaa ((hb.drop k c hc).take 4);have B2:=zaa (hb.drop (k+4) c hc);have HB:=zaa hb;have e1:((k+4:Nat):Int)=(k:Int)+4:=by omega
 rw[e1] at s1 s2;rw[show k+4 - k=4 by omega] at s1;generalize hp1:slp a k c=p1 at *;generalize hp2:slp a (k+4) c=p2 at *;clear e1 hb hp1 hp2
 have HE:Hid (zca l k=if 65536<zf3 (l.drop k) then 6 else if l.length - k - 8<zf3 (l.drop k) then 3
  else if Crc.ext (Crc.ext 0 ((l.drop k).take 4)) ((l.drop (k+8)).take (zf3 (l.drop k)))=zf3 (l.drop (k+4)) then 0 else 5):=by
  show _=_
  rw[zca,if_neg h8]
 have HH:Hid (zdo l k=(l.drop (k+8)).take (zf3 (l.drop k))):=by show _=_;rw[zdo]
 have hn4:=zo (fun c hc=>(za HB).lt c (List.mem_of_mem_drop hc):∀ c∈l.drop k,c<256);have hsm4:=zo (fun c hc=>(za HB).lt c (List.mem_of_mem_drop hc):∀ c∈l.drop (k+4),c<256);have L2:=zaa (show(l.drop (k+4)).length=l.length - (k+4) by simp);have L1:=zaa (show((l.drop k).take 4).length=4 by simp;omega);have L1':=zaa (show 4≤((l.drop k).take 4).length by simp;omega);have L2':=zaa (show 4≤(l.drop (k+4)).length by simp;omega);have L1m:=zaa (show((l.drop k).take 4).length≤maxLen by simp[maxLen];omega);have L2m:=zaa (show(l.drop (k+4)).length≤maxLen by simp[maxLen];omega);have N1:=zaa (zkz (l.drop k));go_enter Tryz.func124,Tryz.ntmps124
 go_wp2_with fail
 refine(zgm _ _ _ (l.drop (k+4)) _ (za L2) (za L2') (za L2m) (za B2)).mono ?_;rintro e w1 ⟨rfl,hb1⟩;have B1a:=zaa ((za B1).later hb1);have HBa:=zaa ((za HB).later hb1);generalize hsm:zf3 (l.drop (k+4))=sm at *;have Hsm:=zaa hsm;clear hsm
 go_wp2_with fail
 refine(zgm _ _ _ ((l.drop k).take 4) _ (za L1) (za L1') (za L1m) (za B1a)).mono ?_;rintro e w2 ⟨rfl,hb2⟩;have B1b:=zaa ((za B1a).later hb2);have HBb:=zaa ((za HBa).later hb2);have hb02:Below w.heap.size w w2:=hb1.trans (hb2.mono hb1.size);rw[za N1];generalize hnn:zf3 (l.drop k)=n at *;have Hn:=zaa hnn;clear hnn;by_cases hA:65536<n
 ·have HE':=zaa ((za HE).trans (if_pos hA))
  go_wp2
  go_ret3
  refine⟨hb02,Or.inl ⟨by rw[za HE'];omega,by rw[za HE'];rfl⟩⟩
 ·have HE':=zaa ((za HE).trans (if_neg hA));have hA':¬ 65536<(n:Int):=by omega
  go_wp2_with fail
  refine(zgm _ _ _ ((l.drop k).take 4) _ (za L1) (za L1') (za L1m) (za B1b)).mono ?_;rintro e w3 ⟨rfl,hb3⟩;have B1c:=zaa ((za B1b).later hb3);have HBc:=zaa ((za HBb).later hb3);have hb03:Below w.heap.size w w3:=hb02.trans (hb3.mono hb02.size);rw[za N1];by_cases hC:l.length - k - 8<n
  ·have HE'':=zaa ((za HE').trans (if_pos hC));have hC':(l.length:Int) - ((k:Int)+8)<(n:Int):=by omega
   go_wp2
   go_ret3
   refine⟨hb03,Or.inl ⟨by rw[za HE''];omega,by rw[za HE''];rfl⟩⟩
  ·have HE'':=zaa ((za HE').trans (if_neg hC));have hC':¬ (l.length:Int) - ((k:Int)+8)<(n:Int):=by omega
   have s3:=zdi a l.length c (k+8) (k+8+n) (by omega) (by omega);have B3:=zaa (((za HBc).drop (k+8) c hc).take n);have e3:((k+8:Nat):Int)=(k:Int)+8:=by omega
   have e4:((k+8+n:Nat):Int)=(k:Int)+8+(n:Int):=by omega
   rw[e3,e4] at s3;rw[show k+8+n - (k+8)=n by omega] at s3;generalize hp3:slp a (k+8) c=p3 at *;have hL3:((l.drop (k+8)).take n).length=n:=by simp;omega
   have L3:=zaa hL3;have L3m:=zaa (show((l.drop (k+8)).take n).length≤maxLen by rw[hL3];simp[maxLen];omega);clear e3 e4 hp3 hL3
   go_wp2_with fail
   refine(zkq _ _ _ _ _ _ ((l.drop k).take 4) ((l.drop (k+8)).take n) _ (za L1) (za L3) (za L1m) (za L3m) (za B1c) (za B3)).mono ?_;rintro e w4 ⟨rfl,rfl⟩;have hsl:=Crc.ext_lt (Crc.ext 0 ((l.drop k).take 4)) ((l.drop (k+8)).take n);generalize hss:Crc.ext (Crc.ext 0 ((l.drop k).take 4)) ((l.drop (k+8)).take n)=ss at *;have Hss:=zaa hss;clear hss;by_cases hD:ss=sm
   ·have HE3:=zaa ((za HE'').trans (if_pos hD));have hD':((ss:Int) != (sm:Int))=false:=by rw[hD];simp
    have hmk:=zqz n (by omega)
    go_wp2_with (refine zhe rfl (.tmp 63) (.tmp 64) rfl (some ⟨w4.heap.size,0,none⟩) p3 n n n _ rfl rfl w4.heap.size 0 (zmf n) ?hg ((l.drop (k+8)).take n) ?hsl (by exact za L3) (Nat.le_refl _) (fun _=>rfl) (by rw[zcu];omega) ?_;rotate_right;intro W6 h6 hb6)
    case hg=>exact zad _ _
    case hsl=>exact(za B3).later ((Below.refl _ _).alloc (Nat.le_refl _) _)
    have hbw:Below w4.heap.size w4 W6:=((Below.refl _ _).alloc (Nat.le_refl _) _).trans hb6;have hX:=zq3 (zmf n) ((l.drop (k+8)).take n) (by rw[zcu,za L3]);rw[hX] at h6
    go_ret3
    refine⟨hb03.trans (hbw.mono hb03.size),Or.inr ⟨za HE3,w4.heap.size,?_,hb03.size,by rw[za HH];exact za h6⟩⟩;rw[za HH,za L3];rfl
   ·have HE3:=zaa ((za HE'').trans (if_neg hD));have hD':((ss:Int) != (sm:Int))=true:=by simp;omega
    go_wp2
    go_ret3
    refine⟨hb03,Or.inl ⟨by rw[za HE3];omega,by rw[za HE3];rfl⟩⟩
def zl3 (l:List Nat):Nat→Nat
 |0=>0
 |i+1=>zl3 l i*256+l.getD i 0
theorem zzl {l:List Nat} (h:∀ c∈l,c<256) (i:Nat) (hi:i≤3):zl3 l i≤16777215:=by
 have l0:=zcv h 0;have l1:=zcv h 1;have l2:=zcv h 2
 match i,hi with
 |0,_=>simp[zl3]
 |1,_=>simp only[zl3];omega
 |2,_=>simp only[zl3];omega
 |3,_=>simp only[zl3];omega
theorem zva (l:List Nat):zl3 l 4=zf3 l:=by
 simp only[zl3,zf3];omega
theorem zjt (a:Option Addr) (c:Nat) (l:List Nat) (k:Nat) (w:World) (hl:l.length≤maxLen) (hk:k+4≤l.length) (hb:BytesAt w a l) :
  Calls Tryz.prog 162 #[.slice a l.length c,.int .i64 (k:Int)] w fun e w'=>e=.returned (.int .i64 ((zf3 (l.drop k):Nat):Int))∧w'=w:=by
 unfold maxLen at hl;obtain⟨b,off,rfl,hc⟩:=zgt hb (by omega);have hlt:∀ c∈l.drop k,c<256:=fun c hc=>hb.lt c (List.mem_of_mem_drop hc);have Hc:=zaa hc;have Hlt:=zaa hlt;clear hc hlt hb;go_enter Tryz.func162,Tryz.ntmps162
 go_wp2
 go_loop [5,6] (fun n i=>∃ j m:Nat,j≤4∧i=.int .i64 (j:Int)∧n=.int .i64 (m:Int)∧m=zl3 (l.drop k) j) (fun _ i=>4 - (intOf i).toNat)
 case atStart=>exact⟨0,0,by omega,rfl,rfl,rfl⟩
 case round =>
  obtain⟨j,m,hj,rfl,rfl,hm⟩:=hrel;have HM:=zaa hm;clear hm;by_cases h4:j<4
  ·have hm':m≤16777215:=by rw[za HM];exact zzl (za Hlt) j (by omega)
   have cj:=(za Hc) (k+j) (by omega)
   have e1:l.getD (k+j) 0=(l.drop k).getD j 0:=(zpx l k j).symm;rw[e1] at cj;have hx:=zcv (za Hlt) j;have HS:=zaa (show zl3 (l.drop k) (j+1)=m*256+(l.drop k).getD j 0 by rw[za HM];rfl);generalize (l.drop k).getD j 0=x at *;clear e1;have q1:((k:Int)+(j:Int)).toNat=k+j:=by omega
   go_wp2
   exact⟨⟨j+1,m*256+x,by omega,by go_num,by go_num,(za HS).symm⟩,by simp[intOf];omega⟩
  ·have h4':j=4:=by omega
   subst h4';have HR:=zaa (show Ending.returned (.int .i64 (m:Int))=.returned (.int .i64 ((zf3 (l.drop k):Nat):Int)) by rw[za HM,zva])
   go_wp2
   go_ret
   exact⟨za HR,rfl⟩
theorem zix (a:Option Addr) (n c:Nat) (l:List Nat) (w:World) (hn:l.length=n) (hl:l.length≤maxLen) (hb:BytesAt w a l) :
  Calls Tryz.prog 143 #[.slice a n c] w fun e w'=>e=.returned (.int .u32 ((Crc.ext 0 l:Nat):Int))∧w'=w:=by
 subst hn;exact zqk a c l w hl hb
theorem zj6 (s:Nat) (a:Option Addr) (n c:Nat) (l:List Nat) (w:World) (hn:l.length=n) (hs:s<4294967296) (hl:l.length≤maxLen) (hb:BytesAt w a l) :
  Calls Tryz.prog 142 #[.int .u32 (s:Int),.slice a n c] w fun e w'=>e=.returned (.int .u32 ((Crc.ext s l:Nat):Int))∧w'=w:=by
 subst hn;exact ze4 s a c l w hs hl hb
end
end Go.Proofs.YtofllbpfajppeaaGreatDoor
