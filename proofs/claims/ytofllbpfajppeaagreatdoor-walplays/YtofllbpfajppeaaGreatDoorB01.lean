/- Slices of bytes: what lies in memory, what the walks ask of it. -/
import Derived.Test.YtofllbpfajppeaaGreatDoorChecked
import Derived.WalkKit
import Derived.ProofKit
import Derived.OpenShut
import Derived.Below
import Derived.WalkLawsBesides
import Derived.WalkSpells
import Derived.Outline
import Derived.Laws.CopyOwn
import Derived.Laws.IdiomStrings
import Derived.Deep.QuietTactic
import Derived.BigQuiet
import Derived.Deep.AppendLies
import Derived.Laws.BitsAllLaws
import Derived.Laws.AppendOwnNone
import Derived.Maps.AppendAt
import Derived.WalkSmall
import Derived.Laws.AppendOwn
import Derived.ArgAppend
import Derived.Laws.Tables
import Derived.Laws.Rows
set_option linter.unusedVariables false
set_option maxRecDepth 20000
set_option maxHeartbeats 16000000
namespace Go.Proofs.YtofllbpfajppeaaGreatDoor
section
open Go.ChangeShapes Go.WideShapes Go.ChangeAt Go.RowKit
structure BytesAt (w:World) (a:Option Addr) (l:List Nat):Prop where
 lt:∀ c∈l,c<256
 cell:∀ i,i<l.length→∃ b off,a=some ⟨b,off,none⟩∧w.cell? ⟨b,off+i,none⟩=some (.int .u8 ((l.getD i 0:Nat):Int))
theorem zaa {p:Prop} (h:p):Hid p:=h
theorem za {p:Prop} (h:Hid p):p:=h
theorem zA2 {k:IntKind} {a b:Int} (h:a=b):Ending.returned (.int k a)=.returned (.int k b):=by rw[h]
theorem zi3 (l:List Nat) (k:Nat) (h:k<l.length):l.take (k+1)=l.take k++[l.getD k 0]:=by
 rw[List.take_succ_eq_append_getElem h,List.getD_eq_getElem?_getD,List.getElem?_eq_getElem h];rfl
theorem zcv {l:List Nat} (h:∀ c∈l,c<256) (k:Nat):l.getD k 0<256:=by
 rw[List.getD_eq_getElem?_getD];by_cases hk:k<l.length
 ·rw[List.getElem?_eq_getElem hk];exact h _ (List.getElem_mem hk)
 ·rw[List.getElem?_eq_none (by omega)];decide
def zbb (c:Nat):Value:=.int .u8 (c:Int)
theorem zgt {w:World} {a:Option Addr} {l:List Nat} (hb:BytesAt w a l) (h:0<l.length) :
  ∃ b off,a=some ⟨b,off,none⟩∧∀ i,i<l.length→w.cell? ⟨b,off+i,none⟩=some (.int .u8 ((l.getD i 0:Nat):Int)):=by
 obtain⟨b,off,rfl,_⟩:=hb.cell 0 h;refine⟨b,off,rfl,fun i hi=>?_⟩;obtain⟨b',off',he,hc⟩:=hb.cell i hi;simp only[Option.some.injEq,Addr.mk.injEq,and_true] at he;obtain⟨rfl,rfl⟩:=he;exact hc
theorem BytesAt.later {w w':World} {a:Option Addr} {l:List Nat} (hb:BytesAt w a l) (h:Below w.heap.size w w'):BytesAt w' a l :=
 ⟨hb.lt,fun i hi=>by obtain⟨b,off,rfl,hc⟩:=hb.cell i hi;exact⟨b,off,rfl,cell_later h hc⟩⟩
theorem BytesAt.drew {w:World} {a:Option Addr} {l:List Nat} (hb:BytesAt w a l):BytesAt w.drew a l:=⟨hb.lt,hb.cell⟩
theorem zbx {w:World} {g:Nat} {l:List Nat} {t:TypeId} {fr:Nat×Nat} (h:w.heap[g]? = some (.cells (l.map zbb).toArray t fr)) (hl:∀ c∈l,c<256):BytesAt w (some ⟨g,0,none⟩) l:=by
 refine⟨hl,fun i hi=>⟨g,0,rfl,?_⟩⟩;rw[cell_of_row w g (0+i) _ t fr h];simp only[Nat.zero_add,List.getElem?_toArray,List.getElem?_map,List.getElem?_eq_getElem hi,Option.map_some,List.getD_eq_getElem?_getD,Option.getD_some,zbb]
theorem zad (w:World) (o:Obj):(w.alloc o).heap[w.heap.size]? = some o:=by
 show(w.heap.push o)[w.heap.size]? = _
 simp
theorem zw7:(Tryz.prog.info? 5).map (fun i=>(i.zero,i.size,i.bytes))=some (some (.int .u8 0),1,1):=by kernel_rfl
theorem zzy:(Tryz.prog.info? 5).map (·.size)=some 1:=by kernel_rfl
def zmf (n:Nat):List Nat:=List.replicate n 0
theorem zcu (n:Nat):(zmf n).length=n:=List.length_replicate
theorem zqz (n:Nat) (hn:n≤281474976710656) (u:World):(Instr.makeSlice 62 (.int .i64 (n:Int)) (.int .i64 (n:Int))).run Tryz.prog u =
  .ok (.slice (some ⟨u.heap.size,0,none⟩) n n) (u.alloc (.cells ((zmf n).map zbb).toArray 5)):=by
 obtain⟨i0,hi,hz0,hz1,hz2⟩:=info_parts zw7;have h:=run_make (P:=Tryz.prog) u 62 5 i0 (.int .u8 0) Tryz.underlying62 hi hz0 .i64 .i64 (n:Int) (n:Int) (by omega) (Int.le_refl _) (by rw[hz2];omega) (by omega);have e:madeCells #[.int .u8 0] n=((zmf n).map zbb).toArray:=by
  unfold zmf;apply Array.ext
  ·simp[madeCells]
  ·intro i h1 h2;simp[madeCells,zbb,Nat.mod_one]
 rw[← e]
 simpa [hz1,Value.cells] using h
theorem zm5 (cur l:List Nat) (off:Nat):splice (cur.map zbb) off (l.map zbb)=(splice cur off l).map zbb:=by
 simp[splice,List.map_take,List.map_drop]
theorem zcw (l:List Nat):∀ v∈l.map zbb,v.oneCell'=true:=by
 intro v hv;obtain⟨c,_,rfl⟩:=List.mem_map.1 hv;rfl
theorem zbz {w:World} {a:Option Addr} {l:List Nat} (hb:BytesAt w a l) (h:0<(l.map zbb).length):∃ ad,a=some ad∧∀ j v,(l.map zbb)[j]? = some v→w.cell? (ad.add j)=some v:=by
 obtain⟨b,off,rfl,hc⟩:=zgt hb (by simpa using h);refine⟨_,rfl,fun j v hv=>?_⟩;rw[List.getElem?_map] at hv;obtain⟨x,hx,rfl⟩:=Option.map_eq_some_iff.1 hv;have hj:j<l.length:=(List.getElem?_eq_some_iff.1 hx).1;have:=hc j hj;rw[List.getD_eq_getElem?_getD,hx] at this;rw[Addr.add_lit];exact this
theorem zhe {w:World} {ops:Array Oper} {rest:List Oper} {o:Oper} {a:Act} {Q:Exit→Act→World→Prop} (hgd:o.guard=none) (d s:Operand)
  (ho:o.op=.call { callee:=.builtin .copy,args:=#[d,s],argTypes:=#[62,62] })
  (dp sp:Option Addr) (dLen dCap sLen sCap:Nat) (hd:a.eval d=.slice dp dLen dCap) (hs:a.eval s=.slice sp sLen sCap)
  (g off:Nat) (cur:List Nat) (hg:w.heap[g]? = some (.cells (cur.map zbb).toArray 5 (0,0))) (l:List Nat) (hsl:BytesAt w sp l) (hlen:l.length=sLen) (hle:sLen≤dLen)
  (hdp:0<sLen→dp=some ⟨g,off,none⟩) (hfit:off+sLen≤cur.length)
  (h:∀ w',Hid (w'.heap[g]? = some (.cells ((splice cur off l).map zbb).toArray 5 (0,0)))→Below g w w'→wpList Tryz.prog ops Q rest (a.put o.dst (goInt l.length)) w') :
  wpList Tryz.prog ops Q (o::rest) a w:=by
 have hm:Nat.min sLen dLen=sLen:=Nat.min_eq_left hle;refine wpList_copy_splice hgd d s 62 62 ho 5 Tryz.underlying62 zzy dp sp dLen dCap sLen sCap hd hs g off (cur.map zbb) 5 hg (l.map zbb)
  (by rw[List.length_map,hm];exact hlen) (fun h0=>⟨hdp (by rw[← hlen];simpa using h0),zbz hsl h0⟩) (by rw[List.length_map,List.length_map];omega) (zcw l) g w (Below.refl _ _) (Nat.le_refl _) ?_
 intro w' h1 h2;rw[zm5] at h1;rw[List.length_map];exact h w' h1 h2
theorem zv0 {w:World} {ops:Array Oper} {o:Oper} {a:Act} {K:Act→World→Prop} {Q:Exit→Act→World→Prop} {E:Prop} (hgd:o.guard=none) (d s:Operand)
  (ho:o.op=.call { callee:=.builtin .copy,args:=#[d,s],argTypes:=#[62,62] })
  (dp sp:Option Addr) (dLen dCap sLen sCap:Nat) (hd:a.eval d=.slice dp dLen dCap) (hs:a.eval s=.slice sp sLen sCap)
  (g off:Nat) (cur:List Nat) (hg:w.heap[g]? = some (.cells (cur.map zbb).toArray 5 (0,0))) (l:List Nat) (hsl:BytesAt w sp l) (hlen:l.length=sLen) (hle:sLen≤dLen)
  (hdp:0<sLen→dp=some ⟨g,off,none⟩) (hfit:off+sLen≤cur.length)
  (h:∀ w',Hid (w'.heap[g]? = some (.cells ((splice cur off l).map zbb).toArray 5 (0,0)))→Below g w w'→K (a.put o.dst (goInt l.length)) w') :
  if Region.wanted o (yielded ops a.tmps)=true then Oper.wp Tryz.prog o a w K Q else E:=by
 have hm:Nat.min sLen dLen=sLen:=Nat.min_eq_left hle;refine step_copy_splice hgd d s 62 62 ho 5 Tryz.underlying62 zzy dp sp dLen dCap sLen sCap hd hs g off (cur.map zbb) 5 hg (l.map zbb)
  (by rw[List.length_map,hm];exact hlen) (fun h0=>⟨hdp (by rw[← hlen];simpa using h0),zbz hsl h0⟩) (by rw[List.length_map,List.length_map];omega) (zcw l) g w (Below.refl _ _) (Nat.le_refl _) ?_
 intro w' h1 h2;rw[zm5] at h1;rw[List.length_map];exact h w' h1 h2
def slp (a:Option Addr) (lo cap:Nat):Option Addr:=if cap=lo then a else a.map (·.add lo)
theorem zy3:Tryz.prog.underlying 62=some (.slice (Tryz.prog.elem 62)):=by kernel_rfl
theorem zot (u:World):(sizeOf (Tryz.prog.elem 62)).run Tryz.prog u=.ok 1 u:=by kernel_rfl
theorem zdi (a:Option Addr) (len cap lo hi:Nat) (h1:lo≤hi) (h2:hi≤cap) (u:World) :
  (Instr.slice 62 (.slice a len cap) (some (.int .i64 (lo:Int))) (some (.int .i64 (hi:Int))) none).run Tryz.prog u=.ok (.slice (slp a lo cap) (hi - lo) (cap - lo)) u:=by
 rw[run_slice_lh (w:=u) 62 a len cap zy3 .i64 .i64 (lo:Int) (hi:Int) (by omega) (by omega) (by omega),zot];simp[Result.andThen,sliced,slp]
theorem zd2 (a:Option Addr) (len cap lo:Nat) (h1:lo≤len) (u:World) :
  (Instr.slice 62 (.slice a len cap) (some (.int .i64 (lo:Int))) none none).run Tryz.prog u=.ok (.slice (slp a lo cap) (len - lo) (cap - lo)) u:=by
 rw[run_slice_l (w:=u) 62 a len cap zy3 .i64 (lo:Int) (by omega) (by omega),zot];simp[Result.andThen,sliced,slp]
theorem zpx (l:List Nat) (lo i:Nat):(l.drop lo).getD i 0=l.getD (lo+i) 0:=by
 simp[List.getD_eq_getElem?_getD]
theorem zg0 (l:List Nat) (k i:Nat) (h:i<k):(l.take k).getD i 0=l.getD i 0:=by
 rw[List.getD_eq_getElem?_getD,List.getD_eq_getElem?_getD,List.getElem?_take,if_pos h]
theorem BytesAt.drop {w:World} {a:Option Addr} {l:List Nat} (hb:BytesAt w a l) (lo cap:Nat) (hc:l.length≤cap):BytesAt w (slp a lo cap) (l.drop lo):=by
 refine⟨fun c hc=>hb.lt c (List.mem_of_mem_drop hc),fun i hi=>?_⟩;rw[List.length_drop] at hi;obtain⟨b,off,rfl,h⟩:=hb.cell (lo+i) (by omega);refine⟨b,off+lo,?_,?_⟩
 ·unfold slp;rw[if_neg (by omega)];simp[Addr.add_lit]
 ·rw[zpx,Nat.add_assoc];exact h
theorem BytesAt.take {w:World} {a:Option Addr} {l:List Nat} (hb:BytesAt w a l) (k:Nat):BytesAt w a (l.take k):=by
 refine⟨fun c hc=>hb.lt c (List.mem_of_mem_take hc),fun i hi=>?_⟩;rw[List.length_take] at hi;obtain⟨b,off,rfl,h⟩:=hb.cell i (by omega);exact⟨b,off,rfl,by rw[zg0 _ _ _ (by omega)];exact h⟩
def zx5 (l:List Nat):ByteArray:=⟨(l.map UInt8.ofNat).toArray⟩
theorem zyh:Tryz.prog.underlying 5=some (.int .u8):=Tryz.underlying5
theorem zcy {w:World} {a:Option Addr} {l:List Nat} (n c:Nat) (hn:l.length=n) (hb:BytesAt w a l):(convert 62 9 (.slice a n c)).run Tryz.prog w=.ok (.string (zx5 l)) w:=by
 subst hn;cases a with
 |none =>
  have hl:l=[]:=by
   cases l with
   |nil=>rfl
   |cons x r=>obtain⟨b,off,h,_⟩:=hb.cell 0 (by simp);cases h
  subst hl;rw[run_convert_bytes_string w 62 9 5 none _ c Tryz.underlying62 zyh Tryz.underlying9];rfl
 |some x =>
  have hlen:(l.map UInt8.ofNat).length=l.length:=by simp
  rw[← hlen];apply run_convert_bytes_back w 62 9 5 x c (l.map UInt8.ofNat) Tryz.underlying62 zyh Tryz.underlying9
  intro j hj;rw[hlen] at hj;obtain⟨b,off,h,hc⟩:=hb.cell j hj;cases h
  rw[Addr.add_lit,hc];have hlt:=zcv hb.lt j;have e:l.getD j 0=l[j]:=by rw[List.getD_eq_getElem?_getD,List.getElem?_eq_getElem hj];rfl
  rw[e] at hlt ⊢;simp only[List.getElem_map,UInt8.toNat_ofNat'];rw[Nat.mod_eq_of_lt (by simpa using hlt)]
theorem zfm (a:Option Addr) (len cap hi:Nat) (h2:hi≤cap) (u:World) :
  (Instr.slice 62 (.slice a len cap) none (some (.int .i64 (hi:Int))) none).run Tryz.prog u=.ok (.slice (slp a 0 cap) hi cap) u:=by
 rw[run_slice_h (w:=u) 62 a len cap zy3 .i64 (hi:Int) (by omega) (by omega),zot];simp[Result.andThen,sliced,slp]
theorem zdf (w:World) (row:Option Nat):w.grownBy w row:=⟨rfl,rfl,rfl,Nat.le_refl _,fun _ _ _=>rfl⟩
theorem zag {a b c:World} {row:Option Nat} (h:a.grownBy b row) (k:b.grownBy c row):a.grownBy c row :=
 ⟨k.os.trans h.os,k.tape.trans h.tape,k.output.trans h.output,Nat.le_trans h.size k.size,fun i hi hne=>(k.block i (Nat.lt_of_lt_of_le hi h.size) hne).trans (h.block i hi hne)⟩
theorem zb0 {a b:World} (row:Option Nat) (h:Below a.heap.size a b):a.grownBy b row:=⟨h.os,h.tape,h.output,h.size,fun i hi _=>h.block i hi⟩
theorem zaf (w:World) (j k:Nat) (v:Value):w.grownBy (w.setCell ⟨j,k,none⟩ v) (some j) :=
 ⟨rfl,rfl,rfl,by simp[World.setCell],fun i _ hne=>heap_setCell_other w ⟨j,k,none⟩ i v (fun e=>hne (by rw[e]))⟩
theorem BytesAt.far {w w':World} {a:Option Addr} {l:List Nat} {j:Nat} (hb:BytesAt w a l) (hg:w.grownBy w' (some j)) (hne:∀ b off,a=some ⟨b,off,none⟩→b≠j):BytesAt w' a l:=by
 refine⟨hb.lt,fun i hi=>?_⟩;obtain⟨b,off,h1,h2⟩:=hb.cell i hi;refine⟨b,off,h1,?_⟩;rw[hg.cell_far ⟨b,off+i,none⟩ (World.block_lt_of_cell? _ _ h2) (by simpa using hne b off h1)];exact h2
theorem zfe {w:World} {a:Option Addr} {l:List Nat} (hb:BytesAt w a l) (h0:0<l.length):∀ b off,a=some ⟨b,off,none⟩→b<w.heap.size:=by
 intro b off e;obtain⟨b',off',h1,h2⟩:=hb.cell 0 h0;rw[e] at h1;simp only[Option.some.injEq,Addr.mk.injEq,and_true] at h1;have:=World.block_lt_of_cell? _ _ h2;simp only at this;omega
structure OwnB (base:Nat) (w:World) (sp:Option Addr) (c:Nat) (l:List Nat):Prop where
 owns:w.ownsRow base 5 1 (.slice sp l.length c) l.length (l.map zbb)
 lt:∀ c∈l,c<256
theorem OwnB.bytes {base:Nat} {w:World} {sp:Option Addr} {c:Nat} {l:List Nat} (h:OwnB base w sp c l):BytesAt w sp l:=by
 refine⟨h.lt,fun i hi=>?_⟩;rcases h.owns.2 with⟨hv,h0⟩|⟨g,cap,cur,hv,_,hg,_,_,_,ht⟩
 ·omega
 ·cases hv
  refine⟨g,0,rfl,?_⟩;rw[cell_of_row w g (0+i) cur _ _ hg,Nat.zero_add];have e:(l.map zbb)[i]? = some (zbb (l.getD i 0)):=by
   rw[List.getElem?_map,List.getElem?_eq_getElem hi,List.getD_eq_getElem?_getD,List.getElem?_eq_getElem hi];rfl
  rw[← ht,List.getElem?_take,if_pos (by omega)] at e;rw[← Array.getElem?_toList];exact e
theorem OwnB.cap {base:Nat} {w:World} {sp:Option Addr} {c:Nat} {l:List Nat} (h:OwnB base w sp c l):l.length≤c∧c≤maxLen:=by
 rcases h.owns.2 with⟨hv,h0⟩|⟨g,cap,cur,hv,_,hg,h1,h2,_,ht⟩
 ·simp only[Value.slice.injEq] at hv;obtain⟨_,_,rfl⟩:=hv;exact⟨by omega,by simp[maxLen]⟩
 ·simp only[Value.slice.injEq] at hv;obtain⟨_,_,rfl⟩:=hv;exact⟨h1,h2⟩
theorem OwnB.empty (w:World) (base:Nat) (hb:base≤w.heap.size):OwnB base (w.alloc (.cells #[] 5)) (some ⟨w.heap.size,0,none⟩) 0 [] :=
 ⟨⟨rfl,.inr ⟨w.heap.size,0,#[],rfl,hb,zad _ _,Nat.le_refl _,by simp[maxLen],rfl,rfl⟩⟩,by simp⟩
theorem OwnB.ofNil (w:World) (base:Nat):OwnB base w none 0 []:=⟨w.ownsRow_nil base 5 1,by simp⟩
theorem OwnB.later {base:Nat} {w w':World} {sp:Option Addr} {c:Nat} {l:List Nat} (h:OwnB base w sp c l) (hb:Below w.heap.size w w'):OwnB base w' sp c l:=by
 refine⟨⟨h.owns.1,?_⟩,h.lt⟩;rcases h.owns.2 with hv|⟨g,cap,cur,hv,hbg,hg,r⟩
 ·exact .inl hv
 ·exact .inr ⟨g,cap,cur,hv,hbg,(hb.block g (Array.getElem?_eq_some_iff.1 hg).1).trans hg,r⟩
theorem OwnB.mono {base base':Nat} {w:World} {sp:Option Addr} {c:Nat} {l:List Nat} (h:OwnB base w sp c l) (hb:base'≤base):OwnB base' w sp c l:=by
 refine⟨⟨h.owns.1,?_⟩,h.lt⟩;rcases h.owns.2 with hv|⟨g,cap,cur,hv,hbg,r⟩
 ·exact .inl hv
 ·exact .inr ⟨g,cap,cur,hv,by omega,r⟩
theorem OwnB.ofBlock {base g:Nat} {w:World} {l:List Nat} (hg:w.heap[g]? = some (.cells (l.map zbb).toArray 5 (0,0))) (hbg:base≤g) (hl:∀ c∈l,c<256) (hm:l.length≤maxLen):OwnB base w (some ⟨g,0,none⟩) l.length l :=
 ⟨⟨by simp,.inr ⟨g,l.length,(l.map zbb).toArray,rfl,hbg,hg,Nat.le_refl _,hm,by simp,by rw[Nat.mul_one];exact List.take_of_length_le (by simp)⟩⟩,hl⟩
theorem zlc {w:World} (base:Nat) (sp:Option Addr) (c:Nat) (l:List Nat) (hown:OwnB base w sp c l) (xp:Option Addr) (m xc:Nat) (k:List Nat) (hk:k.length=m) (hB:BytesAt w xp k) (hx0:xp=none→xc=0)
  (hsz:l.length+m≤140737488355328) (hbase:base≤w.heap.size) (ty:TypeId) :
  ∃ sp' c' w',(Builtin.append_ #[62,62] ty #[.slice sp l.length c,.slice xp m xc]).run Tryz.prog w=.ok (.slice sp' (l++k).length c') w'∧OwnB base w' sp' c' (l++k)∧w.grownBy w' (Value.slice sp l.length c).ownBlock∧Below base w w':=by
 subst hk;obtain⟨i0,hi,hz0,hz1,hz2⟩:=info_parts zw7;have hlt:∀ c∈l++k,c<256:=fun c hc=>(List.mem_append.1 hc).elim (hown.lt c) (hB.lt c);have hbel:∀ w',w.grownBy w' (Value.slice sp l.length c).ownBlock→Below base w w':=fun w' hg=>(Below.refl base w).grown hg hbase (fun j hj=>(hown.owns.lt j hj).1);cases xp with
 |none =>
  have hk0:k=[]:=by
   cases k with
   |nil=>rfl
   |cons x r=>obtain⟨b,off,h,_⟩:=hB.cell 0 (by simp);cases h
  subst hk0;rw[hx0 rfl];have hrun:=run_append_owned_none (P:=Tryz.prog) (w:=w) base 62 ty 5 i0 1 Tryz.underlying62 hi _ _ _ hown.owns;refine⟨sp,c,w,?_,?_,⟨rfl,rfl,rfl,Nat.le_refl _,fun _ _ _=>rfl⟩,Below.refl _ _⟩
  ·rw[List.append_nil];exact hrun
  ·rw[List.append_nil];exact hown
 |some x =>
  obtain⟨v',w',hrun,h1,h2,_⟩:=run_append_own (P:=Tryz.prog) (w:=w) base 62 ty 5 i0 (.int .u8 0) 1 1 Tryz.underlying62 hi hz0 hz1 hz2 rfl (by omega) _ _ _ hown.owns x k.length xc (k.map zbb) (by simp)
   (fun j u hu=>by
    have h0:0<(k.map zbb).length:=by
     rcases Nat.eq_zero_or_pos (k.map zbb).length with h|h
     ·rw[List.getElem?_eq_none (by omega)] at hu;cases hu
     ·exact h
    obtain⟨ad,had,hc⟩:=zbz hB h0;cases had
    exact hc j u hu) (zcw k) (by simp only[maxLen];omega) (by omega) hbase
  rw[← List.map_append,← List.length_append] at h1;have hv:∃ sp' c',v'=.slice sp' (l++k).length c':=by
   rcases h1.2 with⟨hv,h0⟩|⟨g,cap,cur,hv,_⟩
   ·exact⟨none,0,by rw[hv,h0]⟩
   ·exact⟨_,_,hv⟩
  obtain⟨sp',c',rfl⟩:=hv;exact⟨sp',c',w',hrun,⟨h1,hlt⟩,h2,hbel w' h2⟩
theorem zas {w:World} {ops:Array Oper} {rest:List Oper} {o:Oper} {a:Act} {Q:Exit→Act→World→Prop} (hgd:o.guard=none) (s x:Operand)
  (ho:o.op=.call { callee:=.builtin .append,args:=#[s,x],argTypes:=#[62,62] })
  (base:Nat) (sp:Option Addr) (n c:Nat) (l:List Nat) (hs:a.eval s=.slice sp n c) (hn:l.length=n) (hown:OwnB base w sp c l)
  (xp:Option Addr) (m xc:Nat) (hx:a.eval x=.slice xp m xc) (k:List Nat) (hk:k.length=m) (hB:BytesAt w xp k) (hx0:xp=none→xc=0)
  (hsz:l.length+m≤140737488355328) (hbase:base≤w.heap.size)
  (h:∀ sp' n' c' w',Hid ((l++k).length=n')→OwnB base w' sp' c' (l++k)→w.grownBy w' (Value.slice sp l.length c).ownBlock→Below base w w'→wpList Tryz.prog ops Q rest (a.put o.dst (.slice sp' n' c')) w') :
  wpList Tryz.prog ops Q (o::rest) a w:=by
 subst hn;refine wpList_plain hgd fun K hK=>?_;obtain⟨sp',c',w',hrun,h1,h2,h3⟩:=zlc (w:=w) base sp c l hown xp m xc k hk hB hx0 hsz hbase o.type;unfold Oper.wp;simp[execOp,ho,resolve,invoke,builtin,hs,hx,hrun,Result.andThen];have:=hK _ _ (h sp' (l++k).length c' w' rfl h1 h2 h3);rw[List.length_append] at this;exact this
theorem OwnB.far {base:Nat} {w w':World} {sp:Option Addr} {c:Nat} {l:List Nat} {j:Nat} (h:OwnB base w sp c l) (hg:w.grownBy w' (some j)) (hj:j<base):OwnB base w' sp c l:=by
 refine⟨⟨h.owns.1,?_⟩,h.lt⟩;rcases h.owns.2 with hv|⟨g,cap,cur,hv,hbg,hgg,r⟩
 ·exact .inl hv
 ·exact .inr ⟨g,cap,cur,hv,hbg,(hg.block g (Array.getElem?_eq_some_iff.1 hgg).1 (fun e=>by simp only[Option.some.injEq] at e;omega)).trans hgg,r⟩
def blk (sp:Option Addr):Option Nat:=sp.map (·.block)
theorem zal (sp:Option Addr) (n c:Nat):(Value.slice sp n c).ownBlock=blk sp:=by cases sp <;> rfl
theorem OwnB.blk_lt {base:Nat} {w:World} {sp:Option Addr} {c:Nat} {l:List Nat} (h:OwnB base w sp c l):∀ g,blk sp=some g→base≤g∧g<w.heap.size:=by
 intro g hg;have:=h.owns.lt g (by rw[zal];exact hg);exact this
theorem zfl {w:World} (base:Nat) (sp:Option Addr) (c:Nat) (l:List Nat) (hown:OwnB base w sp c l) (xp:Option Addr) (m xc:Nat) (k:List Nat) (hk:k.length=m) (hB:BytesAt w xp k) (hx0:xp=none→xc=0)
  (hsz:l.length+m≤140737488355328) (hbase:base≤w.heap.size) (ty:TypeId) :
  ∃ sp' c' w',(Builtin.append_ #[62,62] ty #[.slice sp l.length c,.slice xp m xc]).run Tryz.prog w=.ok (.slice sp' (l++k).length c') w'∧OwnB base w' sp' c' (l++k)∧w.grownBy w' (blk sp)∧∀ g,blk sp'=some g→blk sp=some g∨w.heap.size≤g:=by
 subst hk;obtain⟨i0,hi,hz0,hz1,hz2⟩:=info_parts zw7;have hlt:∀ c∈l++k,c<256:=fun c hc=>(List.mem_append.1 hc).elim (hown.lt c) (hB.lt c);cases xp with
 |none =>
  have hk0:k=[]:=by
   cases k with
   |nil=>rfl
   |cons x r=>obtain⟨b,off,h,_⟩:=hB.cell 0 (by simp);cases h
  subst hk0;rw[hx0 rfl];have hrun:=run_append_owned_none (P:=Tryz.prog) (w:=w) base 62 ty 5 i0 1 Tryz.underlying62 hi _ _ _ hown.owns;refine⟨sp,c,w,?_,?_,⟨rfl,rfl,rfl,Nat.le_refl _,fun _ _ _=>rfl⟩,fun g hg=>.inl hg⟩
  ·rw[List.append_nil];exact hrun
  ·rw[List.append_nil];exact hown
 |some x =>
  obtain⟨v',w',hrun,h1,h2,_,h5⟩:=run_append_own_at (P:=Tryz.prog) w base 62 ty 5 i0 (.int .u8 0) 1 1 Tryz.underlying62 hi hz0 hz1 hz2 rfl (by omega) _ _ _ hown.owns x k.length xc (k.map zbb) (by simp)
   (fun j u hu=>by
    have h0:0<(k.map zbb).length:=by
     rcases Nat.eq_zero_or_pos (k.map zbb).length with h|h
     ·rw[List.getElem?_eq_none (by omega)] at hu;cases hu
     ·exact h
    obtain⟨ad,had,hc⟩:=zbz hB h0;cases had
    exact hc j u hu) (zcw k) (by simp only[maxLen];omega) (by omega) hbase
  rw[← List.map_append,← List.length_append] at h1;have hv:∃ sp' c',v'=.slice sp' (l++k).length c':=by
   rcases h1.2 with⟨hv,h0⟩|⟨g,cap,cur,hv,_⟩
   ·exact⟨none,0,by rw[hv,h0]⟩
   ·exact⟨_,_,hv⟩
  obtain⟨sp',c',rfl⟩:=hv;rw[zal,zal] at h5;rw[zal] at h2;refine⟨sp',c',w',hrun,⟨h1,hlt⟩,h2,fun g hg=>?_⟩;rcases h5 with h5|h5
  ·exact .inl (h5.symm.trans hg)
  ·rw[h5] at hg;exact .inr (Nat.le_of_eq (Option.some.inj hg))
theorem zby {w:World} {ops:Array Oper} {rest:List Oper} {o:Oper} {a:Act} {Q:Exit→Act→World→Prop} (hgd:o.guard=none) (s x:Operand)
  (ho:o.op=.call { callee:=.builtin .append,args:=#[s,x],argTypes:=#[62,62] })
  (base:Nat) (sp:Option Addr) (n c:Nat) (l:List Nat) (hs:a.eval s=.slice sp n c) (hn:l.length=n) (hown:OwnB base w sp c l)
  (xp:Option Addr) (m xc:Nat) (hx:a.eval x=.slice xp m xc) (k:List Nat) (hk:k.length=m) (hB:BytesAt w xp k) (hx0:xp=none→xc=0)
  (hsz:l.length+m≤140737488355328) (hbase:base≤w.heap.size)
  (h:∀ sp' n' c' w',Hid ((l++k).length=n')→OwnB base w' sp' c' (l++k)→w.grownBy w' (blk sp)→(∀ g,blk sp'=some g→blk sp=some g∨w.heap.size≤g)→wpList Tryz.prog ops Q rest (a.put o.dst (.slice sp' n' c')) w') :
  wpList Tryz.prog ops Q (o::rest) a w:=by
 subst hn;refine wpList_plain hgd fun K hK=>?_;obtain⟨sp',c',w',hrun,h1,h2,h3⟩:=zfl (w:=w) base sp c l hown xp m xc k hk hB hx0 hsz hbase o.type;unfold Oper.wp;simp[execOp,ho,resolve,invoke,builtin,hs,hx,hrun,Result.andThen];have:=hK _ _ (h sp' (l++k).length c' w' rfl h1 h2 h3);rw[List.length_append] at this;exact this
theorem zi1 {w:World} {ops:Array Oper} {o:Oper} {a:Act} {K:Act→World→Prop} {Q:Exit→Act→World→Prop} {E:Prop} (hgd:o.guard=none) (s x:Operand)
  (ho:o.op=.call { callee:=.builtin .append,args:=#[s,x],argTypes:=#[62,62] })
  (base:Nat) (sp:Option Addr) (n c:Nat) (l:List Nat) (hs:a.eval s=.slice sp n c) (hn:l.length=n) (hown:OwnB base w sp c l)
  (xp:Option Addr) (m xc:Nat) (hx:a.eval x=.slice xp m xc) (k:List Nat) (hk:k.length=m) (hB:BytesAt w xp k) (hx0:xp=none→xc=0)
  (hsz:l.length+m≤140737488355328) (hbase:base≤w.heap.size)
  (h:∀ sp' n' c' w',Hid ((l++k).length=n')→OwnB base w' sp' c' (l++k)→w.grownBy w' (blk sp)→(∀ g,blk sp'=some g→blk sp=some g∨w.heap.size≤g)→K (a.put o.dst (.slice sp' n' c')) w') :
  if Region.wanted o (yielded ops a.tmps)=true then Oper.wp Tryz.prog o a w K Q else E:=by
 subst hn;have hw:Region.wanted o (yielded ops a.tmps)=true:=by simp[Region.wanted,hgd]
 rw[if_pos hw];obtain⟨sp',c',w',hrun,h1,h2,h3⟩:=zfl (w:=w) base sp c l hown xp m xc k hk hB hx0 hsz hbase o.type;unfold Oper.wp;simp[execOp,ho,resolve,invoke,builtin,hs,hx,hrun,Result.andThen];have:=h sp' (l++k).length c' w' rfl h1 h2 h3;rw[List.length_append] at this;exact this
structure Grew (w:World) (sp:Option Addr) (w':World) (sp':Option Addr):Prop where
 grown:w.grownBy w' (blk sp)
 lies:∀ g,blk sp'=some g→blk sp=some g∨w.heap.size≤g
theorem Grew.refl (w:World) (sp:Option Addr):Grew w sp w sp:=⟨⟨rfl,rfl,rfl,Nat.le_refl _,fun _ _ _=>rfl⟩,fun _ h=>.inl h⟩
theorem Grew.trans {w w1 w2:World} {s s1 s2:Option Addr} (h:Grew w s w1 s1) (k:Grew w1 s1 w2 s2):Grew w s w2 s2:=by
 refine⟨⟨k.grown.os.trans h.grown.os,k.grown.tape.trans h.grown.tape,k.grown.output.trans h.grown.output,Nat.le_trans h.grown.size k.grown.size,fun j hj hne=>?_⟩,fun g hg=>?_⟩
 ·refine(k.grown.block j (Nat.lt_of_lt_of_le hj h.grown.size) (fun e=>?_)).trans (h.grown.block j hj hne);rcases h.lies j e.symm with h1|h1
  ·exact hne h1.symm
  ·omega
 ·rcases k.lies g hg with h1|h1
  ·exact h.lies g h1
  ·exact .inr (Nat.le_trans h.grown.size h1)
theorem Grew.below {base:Nat} {w w':World} {sp sp':Option Addr} {c:Nat} {l:List Nat} (h:Grew w sp w' sp') (ho:OwnB base w sp c l) (hb:base≤w.heap.size):Below base w w' :=
 (Below.refl base w).grown h.grown hb (fun j hj=>(ho.blk_lt j hj).1)
theorem Grew.aside {w w1 w':World} {sp sp':Option Addr} (hb:Below w.heap.size w w1) (h:Grew w1 sp w' sp'):Grew w sp w' sp' :=
 ⟨⟨h.grown.os.trans hb.os,h.grown.tape.trans hb.tape,h.grown.output.trans hb.output,Nat.le_trans hb.size h.grown.size,fun j hj hne=>(h.grown.block j (Nat.lt_of_lt_of_le hj hb.size) hne).trans (hb.block j hj)⟩,
  fun g hg=>(h.lies g hg).imp id (fun h1=>Nat.le_trans hb.size h1)⟩
theorem Grew.block {w w':World} {sp sp':Option Addr} (h:Grew w sp w' sp') {j:Nat} {o:Obj} (hj:w.heap[j]? = some o) (hne:blk sp≠some j):w'.heap[j]? = some o :=
 (h.grown.block j (Array.getElem?_eq_some_iff.1 hj).1 (fun e=>hne e.symm)).trans hj
def zcj (l:List Nat) (k:Nat) (o:List Nat):List Nat:=l.take k++(o++l.drop (k+o.length))
theorem zit (l:List Nat) (k:Nat):zcj l k []=l:=by simp[zcj]
theorem zer (l:List Nat) (k:Nat) (o:List Nat) (hk:k≤l.length):(zcj l k o).length=max l.length (k+o.length):=by
 simp only[zcj,List.length_append,List.length_take,List.length_drop];omega
theorem ztm {l o:List Nat} (k:Nat) (hl:∀ c∈l,c<256) (ho:∀ c∈o,c<256):∀ c∈zcj l k o,c<256:=by
 intro c hc;simp only[zcj,List.mem_append] at hc;rcases hc with h|h|h
 ·exact hl c (List.mem_of_mem_take h)
 ·exact ho c h
 ·exact hl c (List.mem_of_mem_drop h)
theorem zxi (l:List Nat) (k n:Nat) (o:List Nat) (hk:k≤l.length) (hn:n=min o.length (l.length - k)):zcj l k (o.take n)++o.drop n=zcj l k o:=by
 unfold zcj;by_cases h:o.length≤l.length - k
 ·have e:n=o.length:=by omega
  rw[e,List.take_of_length_le (Nat.le_refl _),List.drop_of_length_le (Nat.le_refl _),List.append_nil]
 ·have e:n=l.length - k:=by omega
  have h1:(o.take n).length=n:=by rw[List.length_take];omega
  have h2:l.drop (k+n)=[]:=List.drop_of_length_le (by omega);have h3:l.drop (k+o.length)=[]:=List.drop_of_length_le (by omega);rw[h1,h2,h3,List.append_nil,List.append_nil,List.append_assoc,List.take_append_drop]
structure Bx (base:Nat) (w:World) (sp:Option Addr) (c:Nat) (l:List Nat):Prop where
 lt:∀ x∈l,x<256
 row:(sp=none∧c=0∧l=[])∨∃ (g:Nat) (cur:List Value),sp=some ⟨g,0,none⟩∧base≤g∧w.heap[g]? = some (.cells cur.toArray 5 (0,0))∧l.length≤c∧c≤cur.length∧c≤maxLen∧cur.take l.length=l.map zbb
section
variable {base:Nat} {w w':World} {sp:Option Addr} {c:Nat} {l:List Nat}
theorem Bx.ofNil (base:Nat) (w:World):Bx base w none 0 []:=⟨by simp,.inl ⟨rfl,rfl,rfl⟩⟩
theorem OwnB.toBx (h:OwnB base w sp c l):Bx base w sp c l:=by
 refine⟨h.lt,?_⟩;rcases h.owns.2 with⟨hv,h1⟩|⟨g,cap,cur,hv,hb,hg,hle,hmx,hsz,ht⟩
 ·simp only[Value.slice.injEq] at hv;exact .inl ⟨hv.1,hv.2.2,List.eq_nil_of_length_eq_zero h1⟩
 ·simp only[Value.slice.injEq] at hv;obtain⟨rfl,_,rfl⟩:=hv;obtain⟨cl⟩:=cur;have h2:cl.length=c*1:=hsz;have h3:cl.take (l.length*1)=l.map zbb:=ht;rw[Nat.mul_one] at h2 h3;exact .inr ⟨g,cl,rfl,hb,hg,hle,by omega,hmx,h3⟩
theorem Bx.bytes (h:Bx base w sp c l):BytesAt w sp l:=by
 refine⟨h.lt,fun i hi=>?_⟩;rcases h.row with⟨_,_,rfl⟩|⟨g,cur,rfl,_,hg,_,_,_,ht⟩
 ·simp at hi
 ·refine⟨g,0,rfl,?_⟩;rw[cell_of_row w g (0+i) _ _ _ hg,Nat.zero_add];have e:(l.map zbb)[i]? = some (zbb (l.getD i 0)):=by
   rw[List.getElem?_map,List.getElem?_eq_getElem hi,List.getD_eq_getElem?_getD,List.getElem?_eq_getElem hi];rfl
  rw[← ht,List.getElem?_take,if_pos hi] at e;have e2:cur.toArray[i]? = cur[i]?:=by simp
  exact e2.trans e
theorem Bx.cap (h:Bx base w sp c l):l.length≤c∧c≤maxLen:=by
 rcases h.row with⟨_,rfl,rfl⟩|⟨g,cur,_,_,_,h1,_,h2,_⟩
 ·exact⟨by simp,by simp[maxLen]⟩
 ·exact⟨h1,h2⟩
theorem Bx.nil0 (h:Bx base w sp c l):sp=none→c=0:=by
 intro e;rcases h.row with⟨_,h1,_⟩|⟨g,cur,h1,_⟩
 ·exact h1
 ·rw[h1] at e;cases e
theorem Bx.isT (h:Bx base w sp c l):∀ g,blk sp=some g→base≤g∧g<w.heap.size∧∃ cur:Array Value,w.heap[g]? = some (.cells cur 5 (0,0)):=by
 intro g hg;rcases h.row with⟨h1,_⟩|⟨g1,cur,h1,hb,hh,_⟩
 ·rw[h1] at hg;cases hg
 ·rw[h1] at hg;obtain rfl:g1=g:=by simpa [blk] using hg
  exact⟨hb,(Array.getElem?_eq_some_iff.1 hh).1,_,hh⟩
theorem Bx.grownNe {o:Option Nat} (h:Bx base w sp c l) (hg:w.grownBy w' o) (hne:∀ g,blk sp=some g→o≠some g):Bx base w' sp c l:=by
 refine⟨h.lt,?_⟩;rcases h.row with hv|⟨g,cur,h1,hb,hh,r⟩
 ·exact .inl hv
 ·exact .inr ⟨g,cur,h1,hb,(hg.block g (Array.getElem?_eq_some_iff.1 hh).1 (fun e=>hne g (by rw[h1];rfl) e.symm)).trans hh,r⟩
theorem Bx.later (h:Bx base w sp c l) (hb:Below w.heap.size w w'):Bx base w' sp c l:=by
 refine⟨h.lt,?_⟩;rcases h.row with hv|⟨g,cur,h1,hbg,hh,r⟩
 ·exact .inl hv
 ·exact .inr ⟨g,cur,h1,hbg,(hb.block g (Array.getElem?_eq_some_iff.1 hh).1).trans hh,r⟩
theorem Bx.mono {base':Nat} (h:Bx base w sp c l) (hb:base'≤base):Bx base' w sp c l:=by
 refine⟨h.lt,?_⟩;rcases h.row with hv|⟨g,cur,h1,hbg,r⟩
 ·exact .inl hv
 ·exact .inr ⟨g,cur,h1,by omega,r⟩
theorem Bx.ne_block (h:Bx base w sp c l) {g:Nat} {cs:Array Value} {T:TypeId} {fr:Nat×Nat} (hg:w.heap[g]? = some (.cells cs T fr)) (hT:T≠5):blk sp≠some g:=by
 intro hs;obtain⟨_,_,cur,hc⟩:=h.isT g hs;rw[hc] at hg;simp only[Option.some.injEq,Obj.cells.injEq] at hg;exact hT hg.2.1.symm
theorem Bx.cut (h:Bx base w sp c l) (k m:Nat) (hk:k≤l.length) (hkm:k≤m) (hm:m≤c):Bx base w sp m (l.take k):=by
 refine⟨fun x hx=>h.lt x (List.mem_of_mem_take hx),?_⟩;have hl:(l.take k).length=k:=by rw[List.length_take];omega
 rcases h.row with⟨h1,h2,h3⟩|⟨g,cur,h1,hb,hg,h2,h3,h4,ht⟩
 ·subst h3;exact .inl ⟨h1,by omega,by simp⟩
 ·refine .inr ⟨g,cur,h1,hb,hg,by omega,by omega,by omega,?_⟩;rw[hl,List.map_take,← ht,List.take_take]
  congr 1
  omega
theorem zt1 (sp:Option Addr) (m:Nat) (h:∀ ad,sp=some ad→∃ g,ad=⟨g,0,none⟩):slp sp 0 m=sp:=by
 unfold slp;split
 ·rfl
 ·cases sp with
  |none=>rfl
  |some ad =>
   obtain⟨g,rfl⟩:=h ad rfl;simp[Addr.add_lit]
theorem Bx.slp0 (h:Bx base w sp c l) (m:Nat):slp sp 0 m=sp:=zt1 sp m fun ad e=>by
 rcases h.row with⟨h1,_⟩|⟨g,cur,h1,_⟩
 ·rw[h1] at e;cases e
 ·rw[h1] at e;cases e;exact⟨g,rfl⟩
theorem zg1 (w:World) (g:Nat) (cs:Array Value):w.grownBy (w.setRow g cs) (some g) :=
 ⟨rfl,rfl,rfl,by simp,fun i _ hne=>setRow_other w g i cs (fun e=>hne (by rw[e]))⟩
theorem zqw (h:Bx base w sp c l) (xp:Option Addr) (m xc:Nat) (k:List Nat) (hk:k.length=m) (hB:BytesAt w xp k) (hx0:xp=none→xc=0) (hsz:l.length+m≤140737488355328) (hbase:base≤w.heap.size) (ty:TypeId) :
  ∃ sp' c' w',(Builtin.append_ #[62,62] ty #[.slice sp l.length c,.slice xp m xc]).run Tryz.prog w=.ok (.slice sp' (l++k).length c') w'∧Bx base w' sp' c' (l++k)∧Grew w sp w' sp':=by
 rcases h.row with⟨rfl,rfl,rfl⟩|⟨g,cur,rfl,hbg,hg,hle,hcc,hmx,ht⟩
 ·obtain⟨sp',c',w',h1,h2,h3,h4⟩:=zfl base none 0 [] (OwnB.ofNil w base) xp m xc k hk hB hx0 hsz hbase ty;exact⟨sp',c',w',h1,h2.toBx,h3,h4⟩
 ·subst hk;obtain⟨i0,hi,hz0,hz1,hz2⟩:=info_parts zw7;cases xp with
  |none =>
   have hk0:k=[]:=by
    cases k with
    |nil=>rfl
    |cons x r=>obtain⟨b,off,h,_⟩:=hB.cell 0 (by simp);cases h
   subst hk0;rw[hx0 rfl];refine⟨some ⟨g,0,none⟩,c,w,?_,by rw[List.append_nil];exact h,Grew.refl _ _⟩;rw[List.append_nil];simp[Builtin.append_,run_underlying Tryz.underlying62,sizeOf,typeInfo,hi,Builtin.lenOf,Builtin.firstCells,hle,storeCells]
  |some ad =>
   have hnews:∀ j u,(k.map zbb)[j]? = some u→w.cell? (ad.add j)=some u:=fun j u hu=>by
    have h0:0<(k.map zbb).length:=by
     rcases Nat.eq_zero_or_pos (k.map zbb).length with h|h
     ·rw[List.getElem?_eq_none (by omega)] at hu;cases hu
     ·exact h
    obtain⟨ad',had,hc⟩:=zbz hB h0;cases had
    exact hc j u hu
   have hlt:∀ x∈l++k,x<256:=fun x hx=>(List.mem_append.1 hx).elim (h.lt x) (hB.lt x);by_cases hroom:l.length+k.length≤c
   ·have hrun:=run_append_room (P:=Tryz.prog) w 62 ty 5 i0 Tryz.underlying62 hi g l.length c cur.toArray hg ad k.length xc (k.map zbb) (by rw[hz1];simp) hnews (zcw k) hroom (by rw[hz1];simp;omega);refine⟨some ⟨g,0,none⟩,c,_,by rw[List.length_append];exact hrun,⟨hlt,.inr ⟨g,_,rfl,hbg,setRow_heap w g _ _ _ _ hg,by rw[List.length_append];exact hroom,?_,hmx,?_⟩⟩,⟨zg1 _ _ _,fun g' hg'=>.inl hg'⟩⟩
    ·rw[hz1];simp;omega
    ·rw[hz1];have hm:(cur.take l.length++k.map zbb).length=l.length+k.length:=by simp;omega
     have hc2:(cur.take l.length++k.map zbb++cur.drop (l.length+k.length)).take (l.length+k.length)=l.map zbb++k.map zbb:=by
      rw[← hm,List.take_left,ht]
     simpa using hc2
   ·obtain⟨v',w',hrun,h1,h2⟩:=run_append_arg_grows (P:=Tryz.prog) (w:=w) 62 ty 5 i0 (.int .u8 0) 1 1 Tryz.underlying62 hi hz0 hz1 hz2 rfl (by omega) ⟨g,0,none⟩ l.length c (l.map zbb) (by simp) (by
     intro j u hu;rw[Addr.add_lit,Nat.zero_add,cell_of_row w g j _ _ _ hg];have hj:j<l.length:=by have:=(List.getElem?_eq_some_iff.1 hu).1;simpa using this
     rw[← ht,List.getElem?_take,if_pos hj] at hu
     simpa using hu) ad k.length xc (k.map zbb) (by simp) hnews (by omega) (by simp only[maxLen];omega) (by omega)
    rw[← List.map_append] at h1;rcases h1.2 with⟨hv,h3⟩|⟨g',cap,cur',hv,hb',hg',hle',hmx',hsz',ht'⟩
    ·omega
    ·obtain⟨cl⟩:=cur';have h4:cl.length=cap*1:=hsz';have h5:cl.take ((l.length+k.length)*1)=(l++k).map zbb:=ht';rw[Nat.mul_one] at h4 h5;refine⟨some ⟨g',0,none⟩,cap,w',by rw[hrun,hv,List.length_append],⟨hlt,.inr ⟨g',cl,rfl,by omega,hg',by rw[List.length_append];exact hle',by omega,hmx',by rw[List.length_append];exact h5⟩⟩,⟨?_,fun g2 hg2=>.inr ?_⟩⟩
     ·exact⟨h2.os,h2.tape,h2.output,h2.size,fun j hj _=>h2.block j hj (by simp)⟩
     ·obtain rfl:g'=g2:=by simpa [blk] using hg2
      exact hb'
end
theorem zoq (a:Option Addr) (len cap h m:Nat) (h1:h≤m) (h2:m≤cap) (u:World) :
  (Instr.slice 62 (.slice a len cap) none (some (.int .i64 (h:Int))) (some (.int .i64 (m:Int)))).run Tryz.prog u=.ok (.slice (slp a 0 m) h m) u:=by
 rw[run_slice_hm (w:=u) 62 a len cap zy3 .i64 .i64 (h:Int) (m:Int) (by omega) (by omega) (by omega),zot];simp[Result.andThen,sliced,slp]
theorem zc9 (a:Option Addr) (n c:Nat) (l:List Nat) (w:World) (hn:l.length=n) (hl:n≤140737488355328) (hb:BytesAt w a l) (hz:a=none→c=0) :
  Calls Tryz.prog 82 #[.slice a n c] w fun e w'=>∃ sp',e=.returned (.slice sp' n n)∧Bx w.heap.size w' sp' n l∧Below w.heap.size w w':=by
 have HB:=zaa hb;have HN:=zaa hn;have HZ:=zaa hz;clear hb hn hz;go_enter Tryz.func82,Tryz.ntmps82
 go_wp2_with (at_builtin;refine za ?_)
 refine zaa ?_;refine zby rfl (.const (.slice none 0 0)) (.tmp 4) rfl w.heap.size none 0 0 [] rfl rfl (OwnB.ofNil _ _) a n c rfl l (za HN) (za HB) (za HZ) (by simp only[List.length_nil];omega) (Nat.le_refl _) ?_;intro sp2 n2 c2 W2 hn2 ho2 hg2 hl2;rw[List.nil_append] at hn2 ho2;obtain rfl:n=n2:=(za HN).symm.trans (za hn2);have hx:=ho2.toBx;have hcap:n≤c2:=by have:=hx.cap.1;rw[za HN] at this;exact this
 have hs3:=zoq sp2 n c2 n n (Nat.le_refl _) hcap;rw[hx.slp0] at hs3;have B2:=zaa (show Below w.heap.size w W2 from(Below.refl _ _).grown hg2 (Nat.le_refl _) (fun g hg=>by cases hg))
 have X2:=zaa (show Bx w.heap.size W2 sp2 n l by
  have:=hx.cut l.length n (Nat.le_refl _) (by rw[za HN];exact Nat.le_refl _) hcap
  rwa [List.take_length] at this)
 clear hg2 hl2 ho2 hx
 go_wp2
 go_ret
 exact⟨sp2,rfl,za X2,za B2⟩
theorem zeg (l:List Nat) (k m:Nat) (o:List Nat) (hk:k≤l.length) (hm:m≤l.length - k):(zcj l k (o.take m)).length=l.length:=by
 rw[zer _ _ _ hk,List.length_take];omega
theorem zvr {base:Nat} {w:World} {sp:Option Addr} {c:Nat} {l:List Nat} (h:Bx base w sp c l) (k:Nat) (hk:k≤l.length) (xp:Option Addr) (xn xc:Nat) (o:List Nat) (ho:o.length=xn) (hB:BytesAt w xp o) (ty:TypeId) :
  ∃ w',(Builtin.copy_ #[62,62] ty #[.slice (slp sp k c) (l.length - k) (c - k),.slice xp xn xc]).run Tryz.prog w=.ok (goInt (min xn (l.length - k):Nat)) w'∧Bx base w' sp c (zcj l k (o.take (min xn (l.length - k))))∧w.grownBy w' (blk sp):=by
 by_cases h0:min xn (l.length - k)=0
 ·rw[h0];refine⟨w,run_copy_none (P:=Tryz.prog) w 62 62 ty 5 _ xp _ _ xn xc Tryz.underlying62 zzy h0,?_,zdf _ _⟩;rw[List.take_zero,zit];exact h
 ·rcases h.row with⟨_,_,rfl⟩|⟨g,cur,rfl,hbg,hg,hle,hcc,hmx,ht⟩
  ·simp at h0
  ·have hsl:slp (some ⟨g,0,none⟩) k c=some ⟨g,k,none⟩:=by
    unfold slp;rw[if_neg (by omega)];simp[Addr.add_lit]
   generalize hm:min xn (l.length - k)=m at *;have hlt:(o.take m).length=m:=by rw[List.length_take];omega
   have hlm:((o.take m).map zbb).length=m:=by rw[List.length_map,hlt]
   obtain⟨ad,rfl,hc⟩:=zbz (hB.take m) (by rw[hlm];omega);have hrun:=run_copy_row (P:=Tryz.prog) w 62 62 ty 5 g k (l.length - k) (c - k) ad xn xc cur.toArray 5 ((o.take m).map zbb) Tryz.underlying62 zzy hg (by rw[hlm,← hm]) hc (by rw[hlm];simp;omega) (zcw _);rw[hlm] at hrun;rw[hsl];refine⟨_,hrun,⟨ztm k h.lt (fun c hc=>hB.lt c (List.mem_of_mem_take hc)),.inr ⟨g,_,rfl,hbg,setRow_heap w g _ _ _ _ hg,?_,?_,hmx,?_⟩⟩,zg1 _ _ _⟩
   ·rw[zeg l k m o hk (by omega)];exact hle
   ·simp only[List.length_append,hlm,List.length_take,List.length_drop];omega
   ·rw[zeg l k m o hk (by omega)];have e1:(l.take k).map zbb=cur.take k:=by
     rw[List.map_take,← ht,List.take_take,Nat.min_eq_left hk]
    have e2:(l.drop (k+m)).map zbb=(cur.drop (k+m)).take (l.length - (k+m)):=by
     rw[List.map_drop,← ht,List.drop_take]
    have e3:(cur.take k++(o.take m).map zbb).length=k+m:=by
     rw[List.length_append,hlm,List.length_take];omega
    unfold zcj;rw[hlt,List.map_append,List.map_append,e1,e2,← List.append_assoc];show List.take l.length (cur.take k++(o.take m).map zbb++cur.drop (k+m))=_
    rw[List.take_append,e3,List.take_of_length_le (by omega)]
theorem zeb {w:World} {ops:Array Oper} {rest:List Oper} {o:Oper} {a:Act} {Q:Exit→Act→World→Prop} (hgd:o.guard=none) (s x:Operand)
  (ho:o.op=.call { callee:=.builtin .append,args:=#[s,x],argTypes:=#[62,62] })
  (base:Nat) (sp:Option Addr) (n c:Nat) (l:List Nat) (hs:a.eval s=.slice sp n c) (hn:l.length=n) (hown:Bx base w sp c l)
  (xp:Option Addr) (m xc:Nat) (hx:a.eval x=.slice xp m xc) (k:List Nat) (hk:k.length=m) (hB:BytesAt w xp k) (hx0:xp=none→xc=0)
  (hsz:l.length+m≤140737488355328) (hbase:base≤w.heap.size)
  (h:∀ sp' n' c' w',Hid ((l++k).length=n')→Bx base w' sp' c' (l++k)→Grew w sp w' sp'→wpList Tryz.prog ops Q rest (a.put o.dst (.slice sp' n' c')) w') :
  wpList Tryz.prog ops Q (o::rest) a w:=by
 subst hn;refine wpList_plain hgd fun K hK=>?_;obtain⟨sp',c',w',hrun,h1,h2⟩:=zqw hown xp m xc k hk hB hx0 hsz hbase o.type;unfold Oper.wp;simp[execOp,ho,resolve,invoke,builtin,hs,hx,hrun,Result.andThen];have:=hK _ _ (h sp' (l++k).length c' w' rfl h1 h2);rw[List.length_append] at this;exact this
theorem zo3 {w:World} {ops:Array Oper} {rest:List Oper} {o:Oper} {a:Act} {Q:Exit→Act→World→Prop} (hgd:o.guard=none) (d s:Operand)
  (ho:o.op=.call { callee:=.builtin .copy,args:=#[d,s],argTypes:=#[62,62] })
  (base:Nat) (sp:Option Addr) (c:Nat) (l:List Nat) (k:Nat) (hk:k≤l.length) (p:Option Addr) (pn pc:Nat) (hd:a.eval d=.slice p pn pc) (hp:p=slp sp k c) (hpn:pn=l.length - k) (hpc:pc=c - k) (hown:Bx base w sp c l)
  (xp:Option Addr) (xn xc:Nat) (hx:a.eval s=.slice xp xn xc) (x:List Nat) (hl:x.length=xn) (hB:BytesAt w xp x)
  (h:∀ w',Bx base w' sp c (zcj l k (x.take (min xn (l.length - k))))→w.grownBy w' (blk sp)→wpList Tryz.prog ops Q rest (a.put o.dst (goInt (min xn (l.length - k):Nat))) w') :
  wpList Tryz.prog ops Q (o::rest) a w:=by
 subst hp hpn hpc;refine wpList_plain hgd fun K hK=>?_;obtain⟨w',hrun,h1,h2⟩:=zvr hown k hk xp xn xc x hl hB o.type;unfold Oper.wp;simp[execOp,ho,resolve,invoke,builtin,hd,hx,hrun,Result.andThen];exact hK _ _ (h w' h1 h2)
theorem zjf (base:Nat) (sp:Option Addr) (c:Nat) (l:List Nat) (n k:Nat) (xp:Option Addr) (xn xc:Nat) (o:List Nat) (w:World) (hn:l.length=n) (hk:k≤n) (ho:o.length=xn) (hB:BytesAt w xp o) (hx0:xp=none→xc=0) (hxc:xn≤xc)
  (hown:Bx base w sp c l) (hne:0<o.length→∀ b off,xp=some ⟨b,off,none⟩→blk sp≠some b) (hsz:n+xn≤140737488355328) (hbase:base≤w.heap.size) :
  Calls Tryz.prog 118 #[.slice sp n c,.int .i64 k,.slice xp xn xc] w fun e w'=>∃ sp' c',e=.returned (.slice sp' (zcj l k o).length c')∧Bx base w' sp' c' (zcj l k o)∧Grew w sp w' sp':=by
 have hs1:=zd2 sp n c k hk;have HB:=zaa hB;have HX:=zaa hown;have HO:=zaa ho;have HN:=zaa hn;have HE:=zaa hne;have HZ:=zaa hx0;have HS:=zaa hsz;have HC:=zaa hxc;have HK:=zaa hk;have HBS:=zaa hbase;clear hB hown ho hn hne hx0 hsz hxc hk hbase;generalize hp1:slp sp k c=p1 at *;have HP:=zaa hp1;clear hp1;go_enter Tryz.func118,Tryz.ntmps118
 go_wp2_with (refine zo3 rfl (.tmp 10) (.tmp 11) rfl base sp c l k ?hk p1 (n - k) (c - k) rfl ?hp ?hpn rfl ?hX xp xn xc rfl o ?hO ?hB ?_;rotate_right;intro W1 h1 hg1;refine za ?_)
 case hk=>rw[za HN];exact za HK
 case hp=>exact(za HP).symm
 case hpn=>rw[za HN]
 case hX=>exact za HX
 case hO=>exact za HO
 case hB=>exact za HB
 refine zaa ?_;rw[za HN] at h1 ⊢;obtain⟨m,hm⟩:∃ m,min xn (n - k)=m:=⟨_,rfl⟩
 rw[hm] at h1 ⊢;have hm1:m≤xn:=by omega
 have HM:=zaa hm;have X1:=zaa h1;have G1:=zaa hg1;have L1:=zaa (show(zcj l k (o.take m)).length=n from(zeg l k m o (by rw[za HN];exact za HK) (by rw[za HN];omega)).trans (za HN))
 have B1:=zaa (show BytesAt W1 xp o from by
  cases hsp:blk sp with
  |none=>rw[hsp] at hg1;exact(za HB).later ⟨hg1.os,hg1.tape,hg1.output,hg1.size,fun i hi=>hg1.block i hi (by simp)⟩
  |some g =>
   rw[hsp] at hg1;by_cases h0:0<o.length
   ·exact(za HB).far hg1 (fun b off e=>fun eb=>za HE h0 b off e (by rw[hsp,eb]))
   ·exact⟨(za HB).lt,fun i hi=>absurd (Nat.lt_of_le_of_lt (Nat.zero_le _) hi) h0⟩)
 have hs2:=zd2 xp xn xc m hm1;have B2:=zaa (za B1 |>.drop m xc (by rw[za HO];exact za HC))
 have Z2:=zaa (show slp xp m xc=none→xc - m=0 from fun e=>by
  unfold slp at e;split at e
  ·omega
  ·cases hxp:xp with
   |none=>have:=za HZ hxp;omega
   |some ad=>rw[hxp] at e;cases e)
 generalize slp xp m xc=p2 at *;clear h1 hg1 hm hs1 HB HE HZ HP;have D2:=zaa (show(o.drop m).length=xn - m by rw[List.length_drop,za HO]);have S2:=zaa (show n+(xn - m)≤140737488355328 by have:=za HS;omega);have BS1:=zaa (show base≤W1.heap.size from Nat.le_trans (za HBS) (za G1).size);have V2:=zaa (show zcj l k (o.take m)++o.drop m=zcj l k o from zxi l k m o (by rw[za HN];exact za HK) (by rw[za HO,za HN];exact(za HM).symm));clear hm1
 go_wp2_with (refine zeb rfl (.tmp 13) (.tmp 16) rfl base sp n c (zcj l k (o.take m)) rfl ?hL ?hX p2 (xn - m) (xc - m) rfl (o.drop m) ?hD ?hB ?hZ ?hS ?hbs ?_;rotate_right;intro sp2 n2 c2 W2 hn2 hX2 hG2;refine za ?_)
 case hL=>exact za L1
 case hX=>exact za X1
 case hD=>exact za D2
 case hB=>exact za B2
 case hZ=>exact za Z2
 case hS=>rw[za L1];exact za S2
 case hbs=>exact za BS1
 refine zaa ?_;rw[za V2] at hn2 hX2;have N2:=hn2;have X2:=zaa hX2;have G2:=zaa ((⟨za G1,fun g hg=>.inl hg⟩:Grew w sp W1 sp).trans hG2);clear hX2 hG2 hn2
 go_wp2
 go_ret
 exact⟨sp2,c2,by rw[za N2];rfl,za X2,za G2⟩
end
end Go.Proofs.YtofllbpfajppeaaGreatDoor
