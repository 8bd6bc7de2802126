import Derived.Test.YtaallngooaaonaaGreatDoorJT22
import Derived.Defers
import Derived.Recover
import Derived.Test.YtaallngooaaonaaGreatDoorJT21
import Derived.Test.YtaallngooaaonaaGreatDoorJT13
open Go.RowKit Go.Sort
set_option maxRecDepth 100000
namespace Go.Proofs.YtaallngooaaonaaGreatDoor
abbrev But (lo q:Nat):Nat→Prop:=fun k=>lo≤k∧k≠q
theorem aB.Yx {α:Type} {K:aB α} {p q lo:Nat} {w w':World} {v:Value} {l:List α} (h:K.sl (But lo q) w v l) (k:Tn p w w') (hp:p<lo∨p=q):K.sl (But lo q) w' v l:=
 aB.bL h k.size fun i hi hB=>k.block i hi (by have:=hB.1;have:=hB.2;omega)
theorem aB.TR {α:Type} {K:aB α} {q lo:Nat} {w:World} {v:Value} {l:List α} (h:K.sl (But lo q) w v l):K.sl (From lo) w v l:=aB.bQ h fun _ _ hB=>hB.1
def DR (s:Bs):List aG×Int×Nat:=
 if 3000<s.length then([],4,0) else match GA 16 [] s with
  | .ok out _=>(out,0,0)
  | .bad n r=>([],n,s.length-r.length)
def kb (l:Bs):ByteArray:=⟨l.toArray⟩
def Yy : List aG :=
  [⟨⟨false, [116], [(true, [88]), (true, [89])]⟩, [⟨false, [101], [(true, [88]), (true, [89])]⟩]⟩,
   ⟨⟨false, [116], [(true, [88]), (true, [90])]⟩, [⟨false, [116], [(true, [88]), (true, [89])]⟩, ⟨false, [101], [(true, [89]), (true, [90])]⟩]⟩,
   ⟨⟨false, [110], [(true, [88])]⟩, [⟨false, [118], [(true, [88])]⟩, ⟨true, [116], [(false, [97]), (true, [88])]⟩]⟩]
def Yz:List aA:=[(kb [101],[kb [97],kb [98]]),(kb [101],[kb [98],kb [99]]),(kb [118],[kb [97]]),(kb [118],[kb [99]])]
def ZU:List aA:=[(kb [101],[kb [97],kb [98]]),(kb [101],[kb [98],kb [99]]),(kb [110],[kb [97]]),(kb [116],[kb [97],kb [98]]),(kb [116],[kb [97],kb [99]]),(kb [116],[kb [98],kb [99]]),(kb [118],[kb [97]]),(kb [118],[kb [99]])]
def ZV:Bs:=[116,40,88,44,89,41,32,58,45,32,101,40,88,44,89,41,46,32,116,40,88,44,90,41,32,58,45,32,116,40,88,44,89,41,44,32,101,40,89,44,90,41,46,32,110,40,88,41,32,58,45,32,118,40,88,41,44,32,33,116,40,97,44,88,41,46]
end Go.Proofs.YtaallngooaaonaaGreatDoor
