/- Conf, plain: a command that was told. -/
import Derived.Test.YtjcjleaicjhpeaaGreatDoorB30
set_option linter.unusedVariables false
set_option maxRecDepth 20000
set_option maxHeartbeats 16000000
namespace Go.Proofs.YtjcjleaicjhpeaaGreatDoor
open Go.ChangeShapes Go.WideShapes Go.ChangeAt Go.RowKit
section
variable {κ α:Type} [Kord κ]
theorem zd4 (kf:α→κ) (a:α):∀ l:List α,zap kf (kf a) (zbk kf a l)=some a
 |[]=>by
  rw[show zbk kf a []=[a] from rfl,zb6,if_pos rfl]
 |b::l=>by
  rw[zb7];by_cases h1:Kord.lt (kf b) (kf a)
  ·rw[if_pos h1,zb6,if_neg (fun e=>by rw[e] at h1;exact Kord.irr _ h1)];exact zd4 kf a l
  ·rw[if_neg h1];by_cases h2:kf b=kf a
   ·rw[if_pos h2,zb6,if_pos rfl]
   ·rw[if_neg h2,zb6,if_pos rfl]
end
def zm (c:Cmd) (r:Int×Int) (z:Sm):Prop:=(zbg c z).seq=c.seq∧(zbg c z).e=r.1∧(zbg c z).ver=r.2
theorem zm2 {c:Cmd} {z:Sm} (h:zak c=0) (hc:c.cli≠0) (hl:c.seq<(zbg c z).seq):doS c none 0 z=((12,z.ver),z):=zm7 h hc (by omega) hl
theorem znz {c:Cmd} {z:Sm} (h:zak c=0) (hc:c.cli≠0) (hl:¬ c.seq<(zbg c z).seq):zm c (doS c none 0 z).1 (doS c none 0 z).2:=by
 by_cases hs:c.seq=(zbg c z).seq
 ·rw[zjf h hc hs];exact⟨hs.symm,rfl,rfl⟩
 ·rcases hd:za1 (zbn c none 0 z) with⟨⟨er,v⟩,z'⟩;rw[zm6 h hc hs hl none 0 hd];have e:zbg c { z' with cl:=zbk lid ⟨c.cli,c.seq,er,v⟩ z'.cl }=⟨c.cli,c.seq,er,v⟩:=by
   unfold zbg;dsimp only;have q:zap lid c.cli (zbk lid ⟨c.cli,c.seq,er,v⟩ z'.cl)=some ⟨c.cli,c.seq,er,v⟩:=zd4 lid ⟨c.cli,c.seq,er,v⟩ z'.cl;rw[q];rfl
  unfold zm;rw[e];exact⟨rfl,rfl,rfl⟩
theorem zl9 {c:Cmd} {r:Int×Int} {z:Sm} (h:zak c=0) (hc:c.cli≠0) (t:zm c r z):doS c none 0 z=(r,z):=by
 rw[zjf h hc t.1.symm,t.2.1,t.2.2]
theorem zk7 {c c2:Cmd} {r:Int×Int} {z:Sm} (t:zm c r z) (h2:c2.cli=0):zm c r (doS c2 none 0 z).2:=by
 have e:(doS c2 none 0 z).2.cl=z.cl:=by
  unfold doS;split
  ·rfl
  ·exact zf3 c2 none 0 z
 unfold zm zbg at *;rw[e];exact t
end Go.Proofs.YtjcjleaicjhpeaaGreatDoor
