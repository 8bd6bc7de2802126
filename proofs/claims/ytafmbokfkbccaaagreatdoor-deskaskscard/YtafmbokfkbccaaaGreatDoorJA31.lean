/- Texts of this claim, one behind the other. -/
import Derived.Test.YtafmbokfkbccaaaGreatDoorJA27
import Derived.Test.YtafmbokfkbccaaaGreatDoorJA6
import Derived.Test.YtafmbokfkbccaaaGreatDoorJA23
import Derived.Test.YtafmbokfkbccaaaGreatDoorJA29
import Derived.Test.YtafmbokfkbccaaaGreatDoorJA30
import Derived.Test.YtafmbokfkbccaaaGreatDoorJA26
import Derived.Laws.StructEq
namespace Go.Proofs.YtafmbokfkbccaaaGreatDoor
theorem playGo_len (φ:Prover):∀(l:List DoD) (d:DeskD),(playGo φ d l).2.length=l.length
  |[],_=>rfl
  |x::l,d=>by simp[playGo,playGo_len φ l]
theorem playGo_append (φ:Prover):∀(l m:List DoD) (d:DeskD),playGo φ d (l++m)=((playGo φ (playGo φ d l).1 m).1,(playGo φ d l).2++(playGo φ (playGo φ d l).1 m).2)
  |[],m,d=>by simp[playGo]
  |x::l,m,d=>by
    have h:=playGo_append φ l m (doP φ d x).1
    simp only[List.cons_append,playGo,h]
theorem play_ask (φ:Prover) {l:List DoD} (h:l.length<60) (n:Int) (f:FactB) (s:ByteArray):
    playP φ (l++[⟨5,n,f,s⟩])=((playP φ l).1,(playP φ l).2.1++[askD (playP φ l).1 s],0)∧(playP φ l).2.2=0∧(playP φ l).2.1.length=l.length:=by
  have h1:¬60<l.length:=by omega
  have h2:¬60<(l++[(⟨5,n,f,s⟩:DoD)]).length:=by simp;omega
  have e:∀d,doP φ d ⟨5,n,f,s⟩=(d,askD d s):=fun d=>rfl
  refine⟨?_,by unfold playP;rw[if_neg h1],by unfold playP;rw[if_neg h1];exact playGo_len φ l noDesk⟩
  unfold playP
  rw[if_neg h1,if_neg h2,playGo_append]
  simp[playGo,e]
def goodP:List DoD→List AnsD→List DoD
  |x::l,a::as'=>if a.err=0∧x.kind≠5∧x.kind≠6 then x::goodP l as' else goodP l as'
  |_,_=>[]
end Go.Proofs.YtafmbokfkbccaaaGreatDoor
namespace Go.Proofs.YtafmbokfkbccaaaGreatDoor
open Go.RowKit Go.Sort
end Go.Proofs.YtafmbokfkbccaaaGreatDoor
namespace Go.Proofs.YtafmbokfkbccaaaGreatDoor
open Go.RowKit Go.Sort Go.Maps
def ruls6:List RuleD:=
  [⟨⟨false,[116],[(true,[88]),(true,[89])]⟩,[⟨false,[101],[(true,[88]),(true,[89])]⟩]⟩,
   ⟨⟨false,[116],[(true,[88]),(true,[90])]⟩,[⟨false,[116],[(true,[88]),(true,[89])]⟩,⟨false,[101],[(true,[89]),(true,[90])]⟩]⟩]
def told6:List FactB:=[(kb [101],[kb [97],kb [98]])]
def all6:List FactB:=[(kb [101],[kb [97],kb [98]]),(kb [116],[kb [97],kb [98]])]
def txt6:Bs:=[116,40,88,44,89,41,32,58,45,32,101,40,88,44,89,41,46,32,116,40,88,44,90,41,32,58,45,32,116,40,88,44,89,41,44,32,101,40,89,44,90,41,46]
def run6:RunD:=⟨all6,all6,1,2,true⟩
end Go.Proofs.YtafmbokfkbccaaaGreatDoor
namespace Go.Proofs.YtafmbokfkbccaaaGreatDoor
open Go.RowKit Go.Sort
end Go.Proofs.YtafmbokfkbccaaaGreatDoor
