import Derived.Test.YtafmbokfkbccaaaGreatDoorJW35
import Derived.Test.YtafmbokfkbccaaaGreatDoorJW36
namespace Go.Proofs.YtafmbokfkbccaaaGreatDoor
open Go.RowKit Go.Sort Go.Maps
end Go.Proofs.YtafmbokfkbccaaaGreatDoor
namespace Go.Proofs.YtafmbokfkbccaaaGreatDoor
open Go.RowKit Go.Sort Go.Maps
def okN (c:Nat) (r:kN):Bool:=(decide (0≤r.rounds)&&decide (r.rounds≤1000))&&((decide (0≤r.level)&&decide (r.level≤c))&& !(r.done != (r.level==(c:Int))))
def sK (p:List aA) (r:kN):Int:=if Lf p r.known≠0 then Lf p r.known else if(bB r.fresh).1≠0 then(bB r.fresh).1 else
 if okN (countP (aK p).1) r=false then 3 else if(r.fresh.filter fun f=> !inB r.known f)≠[] then 8 else 0
def OfT (b:Nat) (w:World) (v:Value) (p:List aA) (r:kN):Prop:=(∃a n c,v=.slice a n c)∧(sK p r=0→pY.sl (From b) w v (aK p).1)
end Go.Proofs.YtafmbokfkbccaaaGreatDoor
namespace Go.Proofs.YtafmbokfkbccaaaGreatDoor
open Go.RowKit Go.Sort Go.Maps
def RQ (p:List aA) (r:kN) (n:Int):Int×kN:=if sK p r≠0 then(sK p r,l7) else if(decide (0≤n)&&decide (n≤1000))=false then(3,l7) else fq p (aK p).1 n.toNat r
end Go.Proofs.YtafmbokfkbccaaaGreatDoor
namespace Go.Proofs.YtafmbokfkbccaaaGreatDoor
open Go.RowKit Go.Sort Go.Maps
def Ja (p:List aA) (l:List aj):kN:=⟨l,l,0,0,decide (countP (aK p).1=0)⟩
def RS (p:List aA) (l:List aj):Int×kN:=if Lf p l≠0 then(Lf p l,l7) else(0,Ja p l)
def UM (p:List aA) (l:List aj):Int×List aj:=if Lf p l≠0 then(Lf p l,[]) else
 if(fq p (aK p).1 1000 (Ja p l)).1≠0 then((fq p (aK p).1 1000 (Ja p l)).1,[]) else(0,(fq p (aK p).1 1000 (Ja p l)).2.known)
end Go.Proofs.YtafmbokfkbccaaaGreatDoor
