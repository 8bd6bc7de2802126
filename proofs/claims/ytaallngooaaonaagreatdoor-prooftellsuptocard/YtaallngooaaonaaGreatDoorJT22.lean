import Derived.Test.YtaallngooaaonaaGreatDoorJT21
import Derived.Test.YtaallngooaaonaaGreatDoorJT3
import Derived.Test.YtaallngooaaonaaGreatDoorJT11
open Go.RowKit Go.Sort
set_option maxRecDepth 100000
namespace Go.Proofs.YtaallngooaaonaaGreatDoor
def Fits (g:Nat) (f:Bs→Bool):Prop:=∀l w,l.length≤3000→Calls Tryz.prog g #[.string (bs l)] w fun e w'=>e=.returned (.bool (f l))∧w'=w
theorem TP.split {α:Type} {p:Nat} {s:ByteArray} {w w':World} {V:World→Value→α→Prop} {x:Res α} {e:Ending} (h:TP p s w V x e w'):
  Tn p w w'∧((∃a r v,x=.ok a r∧e=.returned v∧V w' v a∧Rd w' p s r)∨∃n r,x=.bad n r∧e=TQ n s r∧Rd w' p s r):=by
 obtain⟨h1,h2⟩:=h;refine⟨h1,?_⟩;cases x with
 |ok a r=>obtain⟨⟨v,e1,e2⟩,e3⟩:=h2;exact Or.inl ⟨a,r,v,rfl,e1,e2,e3⟩
 |bad n r=>exact Or.inr ⟨n,r,rfl,h2.1,h2.2⟩
theorem Rd.other {w:World} {p b o:Nat} {s:ByteArray} {l:Bs} (h:Rd w p s l) (hb:b≠p) (h0:p<b) (v:Value):Rd (w.setCell ⟨b,o,none⟩ v) p s l:=
 h.turned ((Tn.refl b w).moved v o) hb h0
theorem Rd.alloc {w:World} {p:Nat} {s:ByteArray} {l:Bs} (h:Rd w p s l) (o:Obj):Rd (w.alloc o) p s l:=h.below ((ak.refl w).alloc o).below
theorem Tn.row {p b:Nat} {w w':World} {arr:Array Value} {t:TypeId} (h:Tn p w w') (hr:w.heap[b]?=some (.cells arr t (0,0))) (hb:b≠p):w'.heap[b]?=some (.cells arr t (0,0)):=by rw[h.block b (Array.getElem?_eq_some_iff.1 hr).1 hb];exact hr
end Go.Proofs.YtaallngooaaonaaGreatDoor
