import Derived.Test.YtaallngooaaonaaGreatDoorJT21
import Derived.Test.YtaallngooaaonaaGreatDoorJT3
import Derived.Test.YtaallngooaaonaaGreatDoorJT11
open Go.RowKit Go.Sort
set_option maxRecDepth 100000
namespace Go.Proofs.YtaallngooaaonaaGreatDoor
def Fits (g:Nat) (f:Bs→Bool):Prop:=∀l w,l.length≤3000→Calls Tryz.prog g #[.string (bs l)] w fun e w'=>e=.returned (.bool (f l))∧w'=w
theorem Tn.row {p b:Nat} {w w':World} {arr:Array Value} {t:TypeId} (h:Tn p w w') (hr:w.heap[b]?=some (.cells arr t (0,0))) (hb:b≠p):w'.heap[b]?=some (.cells arr t (0,0)):=by rw[h.block b (Array.getElem?_eq_some_iff.1 hr).1 hb];exact hr
end Go.Proofs.YtaallngooaaonaaGreatDoor
