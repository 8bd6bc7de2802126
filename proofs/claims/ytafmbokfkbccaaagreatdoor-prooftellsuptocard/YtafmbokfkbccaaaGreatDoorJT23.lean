import Derived.Test.YtafmbokfkbccaaaGreatDoorJT22
import Derived.Defers
import Derived.Recover
import Derived.Test.YtafmbokfkbccaaaGreatDoorJT21
import Derived.Test.YtafmbokfkbccaaaGreatDoorJT13
namespace Go.Proofs.YtafmbokfkbccaaaGreatDoor
open Go.RowKit Go.Sort
end Go.Proofs.YtafmbokfkbccaaaGreatDoor
namespace Go.Proofs.YtafmbokfkbccaaaGreatDoor
open Go.RowKit Go.Sort
abbrev But (lo q:Nat):Nat→Prop:=fun k=>lo≤k∧k≠q
theorem Kind.Yz {α:Type} {K:Kind α} {p q lo:Nat} {w w':World} {v:Value} {l:List α} (h:K.sl (But lo q) w v l) (k:Tn p w w') (hp:p<lo∨p=q):K.sl (But lo q) w' v l:=
 Kind.bM h k.size fun i hi hB=>k.block i hi (by have:=hB.1;have:=hB.2;omega)
theorem Kind.TW {α:Type} {K:Kind α} {q lo:Nat} {w:World} {v:Value} {l:List α} (h:K.sl (But lo q) w v l):K.sl (From lo) w v l:=Kind.bT h fun _ _ hB=>hB.1
end Go.Proofs.YtafmbokfkbccaaaGreatDoor
namespace Go.Proofs.YtafmbokfkbccaaaGreatDoor
open Go.RowKit Go.Sort
def D6 (s:Bs):List aD×Int×Nat:=
 if 3000<s.length then([],4,0) else match GY 16 [] s with
  | .ok out _=>(out,0,0)
  | .bad n r=>([],n,s.length-r.length)
end Go.Proofs.YtafmbokfkbccaaaGreatDoor
namespace Go.Proofs.YtafmbokfkbccaaaGreatDoor
open Go.RowKit Go.Sort
def kb (l:Bs):ByteArray:=⟨l.toArray⟩
def YA : List aD :=
  [⟨⟨false, [116], [(true, [88]), (true, [89])]⟩, [⟨false, [101], [(true, [88]), (true, [89])]⟩]⟩,
   ⟨⟨false, [116], [(true, [88]), (true, [90])]⟩, [⟨false, [116], [(true, [88]), (true, [89])]⟩, ⟨false, [101], [(true, [89]), (true, [90])]⟩]⟩,
   ⟨⟨false, [110], [(true, [88])]⟩, [⟨false, [118], [(true, [88])]⟩, ⟨true, [116], [(false, [97]), (true, [88])]⟩]⟩]
def YB:List au:=[(kb [101],[kb [97],kb [98]]),(kb [101],[kb [98],kb [99]]),(kb [118],[kb [97]]),(kb [118],[kb [99]])]
def ZR:List au:=[(kb [101],[kb [97],kb [98]]),(kb [101],[kb [98],kb [99]]),(kb [110],[kb [97]]),(kb [116],[kb [97],kb [98]]),(kb [116],[kb [97],kb [99]]),(kb [116],[kb [98],kb [99]]),(kb [118],[kb [97]]),(kb [118],[kb [99]])]
def ZT:Bs:=[116,40,88,44,89,41,32,58,45,32,101,40,88,44,89,41,46,32,116,40,88,44,90,41,32,58,45,32,116,40,88,44,89,41,44,32,101,40,89,44,90,41,46,32,110,40,88,41,32,58,45,32,118,40,88,41,44,32,33,116,40,97,44,88,41,46]
end Go.Proofs.YtafmbokfkbccaaaGreatDoor
