import Derived.Test.YtafmbokfkbccaaaGreatDoorJN31
import Derived.Test.YtafmbokfkbccaaaGreatDoorJN29
import Derived.Test.YtafmbokfkbccaaaGreatDoorJN30
import Derived.Test.YtafmbokfkbccaaaGreatDoorJN15
namespace Go.Proofs.YtafmbokfkbccaaaGreatDoor
open Go.RowKit Go.Sort
end Go.Proofs.YtafmbokfkbccaaaGreatDoor
namespace Go.Proofs.YtafmbokfkbccaaaGreatDoor
open Go.RowKit Go.Sort
end Go.Proofs.YtafmbokfkbccaaaGreatDoor
namespace Go.Proofs.YtafmbokfkbccaaaGreatDoor
open Go.RowKit Go.Sort
theorem Fg.slices {B:Nat→Prop} {w:World} {v:Value} {d:dD} (h:Fg B w v d):∃a1 c1 a2 c2 a3 c3 a4 c4 a5 c5,v=.agg #[.slice a1 d.told.length c1,.slice a2 d.rules.length c2,.bool d.running,.slice a3 d.run.known.length c3,.slice a4 d.run.fresh.length c4,.int .i64 d.run.level,.int .i64 d.run.rounds,.bool d.run.done,.slice a5 d.saved.length c5]∧
  bC B w (.slice a1 d.told.length c1) d.told∧dU.sl B w (.slice a2 d.rules.length c2) d.rules∧bC B w (.slice a3 d.run.known.length c3) d.run.known∧bC B w (.slice a4 d.run.fresh.length c4) d.run.fresh∧kN.sl B w (.slice a5 d.saved.length c5) d.saved:=by
 obtain⟨tv,rv,kv,nv,sv,rfl,q1,q2,q3,q4,q5⟩:=h;obtain⟨xa1,xc1,rfl⟩:=q1.slice;obtain⟨xa2,xc2,rfl⟩:=Kind.slice q2;obtain⟨xa3,xc3,rfl⟩:=q3.slice;obtain⟨xa4,xc4,rfl⟩:=q4.slice;obtain⟨xa5,xc5,rfl⟩:=Kind.slice q5;exact⟨_,_,_,_,_,_,_,_,_,_,rfl,q1,q2,q3,q4,q5⟩
theorem Fg.below {B:Nat→Prop} {w w':World} {v:Value} {d:dD} (h:Fg B w v d) (k:Below w.heap.size w w'):Fg B w' v d:=by
 obtain⟨tv,rv,kv,nv,sv,e,q1,q2,q3,q4,q5⟩:=h;exact⟨tv,rv,kv,nv,sv,e,q1.below k,Kind.aM q2 k.size fun i hi _=>k.block i hi,q3.below k,q4.below k,Kind.aM q5 k.size fun i hi _=>k.block i hi⟩
end Go.Proofs.YtafmbokfkbccaaaGreatDoor
namespace Go.Proofs.YtafmbokfkbccaaaGreatDoor
open Go.RowKit Go.Sort
def V8 (s:ByteArray):Bool:=LG s 0&&decide (0<s.size∧s.size≤12)
def okF (f:aI):Prop:=f.1.size≤9223372036854775807∧∀s∈f.2,s.size≤9223372036854775807
end Go.Proofs.YtafmbokfkbccaaaGreatDoor
