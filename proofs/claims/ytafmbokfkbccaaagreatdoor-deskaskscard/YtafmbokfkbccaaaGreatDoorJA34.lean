import Derived.Test.YtafmbokfkbccaaaGreatDoorJA24
import Derived.Test.YtafmbokfkbccaaaGreatDoorJA33
import Derived.Test.YtafmbokfkbccaaaGreatDoorJA15
import Derived.BigQuiet
import Derived.Test.YtafmbokfkbccaaaGreatDoorJA7
namespace Go.Proofs.YtafmbokfkbccaaaGreatDoor
open Go.RowKit Go.Sort
theorem Tn.grown {p:Nat} {a b c:World} {row:Option Nat} (h:Tn p a b) (hg:b.grownBy c row) (hr:∀k,row=some k→a.heap.size≤k):Tn p a c:=
 ⟨hg.os.trans h.os,hg.tape.trans h.tape,hg.output.trans h.output,Nat.le_trans h.size hg.size,fun k hk ho=>(hg.block k (Nat.lt_of_lt_of_le hk h.size) (fun e=>by have:=hr k e.symm;omega)).trans (h.block k hk ho)⟩
set_option maxRecDepth 100000 in
theorem Sl (c d:Nat) (w:World):Calls Tryz.prog 54 #[.agg #[.int .i64 c,.int .i64 d]] w fun e w'=>e=.returned (.bool (Av (c,d)))∧Later w w':=by
 unfold Av
 by_cases hc:400<c
 ·have h1:(400:Int)<(c:Int):=by omega
  have e:(decide (400<c)||decide (60<d))=true:=by simp[hc]
  rw[e];clear e hc
  go_enter Tryz.func54,Tryz.ntmps54
  go_wp2;go_ret;exact⟨rfl,(by repeat (first|exact Later.refl _|assumption|refine Later.drewN ?_ _|refine Later.drew ?_|refine Later.alloc ?_ _|refine Later.grow ?_ _))⟩
 ·have h1:¬(400:Int)<(c:Int):=by omega
  by_cases hd:60<d
  ·have h2:(60:Int)<(d:Int):=by omega
   have e:(decide (400<c)||decide (60<d))=true:=by simp[hd]
   rw[e];clear e hc hd
   go_enter Tryz.func54,Tryz.ntmps54
   go_wp2;go_ret;exact⟨rfl,(by repeat (first|exact Later.refl _|assumption|refine Later.drewN ?_ _|refine Later.drew ?_|refine Later.alloc ?_ _|refine Later.grow ?_ _))⟩
  ·have h2:¬(60:Int)<(d:Int):=by omega
   have e:(decide (400<c)||decide (60<d))=false:=by simp[hc,hd]
   rw[e];clear e hc hd
   go_enter Tryz.func54,Tryz.ntmps54
   go_wp2;go_ret;exact⟨rfl,(by repeat (first|exact Later.refl _|assumption|refine Later.drewN ?_ _|refine Later.drew ?_|refine Later.alloc ?_ _|refine Later.grow ?_ _))⟩
theorem Aw.base {α:Type} {K:Kind α} {ty:TypeId} {B:Nat→Prop} {w0:World} {lo lo':Nat} {w:World} {v:Value} {l:List (List α)} (h:Aw K ty B w0 lo w v l) (hl:lo'≤lo):Aw K ty B w0 lo' w v l:=by
 obtain⟨xs,ho,hx⟩:=h;refine⟨xs,⟨ho.1,?_⟩,hx⟩;rcases ho.2 with e|⟨g,cap,cur,e,hg,r⟩
 ·exact Or.inl e
 ·exact Or.inr ⟨g,cap,cur,e,Nat.le_trans hl hg,r⟩
end Go.Proofs.YtafmbokfkbccaaaGreatDoor
namespace Go.Proofs.YtafmbokfkbccaaaGreatDoor
open Go.RowKit Go.Sort
def Xm (all:List au) (b:List aD) (a:aF):Bool:=a.no&&(match aV a b with|none=>true|some f=>inB all f)
end Go.Proofs.YtafmbokfkbccaaaGreatDoor
namespace Go.Proofs.YtafmbokfkbccaaaGreatDoor
open Go.RowKit Go.Sort
theorem Ki {a:aF} {f:au} {l m:List aD} (h:fK a f l=some m):m.length≤l.length+a.terms.length:=by
 have hk:bQ l=((bQ l).map raw).map bs:=by
  rw[List.map_map]
  conv=>lhs;rw[←List.map_id (bQ l)]
  exact List.map_congr_left fun x _=>(kE x).symm
 have h1:=congrArg List.length (oK hk h).2.1;have h2:=qm a.terms ((bQ l).map raw);have e:∀q:List aD,(bQ q).length=q.length:=fun q=>by unfold bQ;rw[List.length_map]
 rw[e,List.length_map] at h1;rw[List.length_map,e] at h2;omega
end Go.Proofs.YtafmbokfkbccaaaGreatDoor
namespace Go.Proofs.YtafmbokfkbccaaaGreatDoor
open Go.RowKit Go.Sort
end Go.Proofs.YtafmbokfkbccaaaGreatDoor
