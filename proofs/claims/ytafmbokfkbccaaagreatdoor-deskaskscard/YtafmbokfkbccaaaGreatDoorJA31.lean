import Derived.Test.YtafmbokfkbccaaaGreatDoorJA27
import Derived.Test.YtafmbokfkbccaaaGreatDoorJA6
import Derived.Test.YtafmbokfkbccaaaGreatDoorJA23
import Derived.Test.YtafmbokfkbccaaaGreatDoorJA29
import Derived.Test.YtafmbokfkbccaaaGreatDoorJA30
import Derived.Test.YtafmbokfkbccaaaGreatDoorJA26
import Derived.Laws.StructEq
namespace Go.Proofs.YtafmbokfkbccaaaGreatDoor
theorem wV (φ:Prover):∀(l:List DoD) (d:dH),(eG φ d l).2.length=l.length
 |[],_=>rfl
 |x::l,d=>by simp[eG,wV φ l]
theorem pU (φ:Prover):∀(l m:List DoD) (d:dH),eG φ d (l++m)=((eG φ (eG φ d l).1 m).1,(eG φ d l).2++(eG φ (eG φ d l).1 m).2)
 |[],m,d=>by simp[eG]
 |x::l,m,d=>by
  have h:=pU φ l m (doP φ d x).1;simp only[List.cons_append,eG,h]
theorem Kc (φ:Prover) {l:List DoD} (h:l.length<60) (n:Int) (f:au) (s:ByteArray):
  ku φ (l++[⟨5,n,f,s⟩])=((ku φ l).1,(ku φ l).2.1++[vo (ku φ l).1 s],0)∧(ku φ l).2.2=0∧(ku φ l).2.1.length=l.length:=by
 have h1:¬60<l.length:=by omega
 have h2:¬60<(l++[(⟨5,n,f,s⟩:DoD)]).length:=by simp;omega
 have e:∀d,doP φ d ⟨5,n,f,s⟩=(d,vo d s):=fun d=>rfl;refine⟨?_,by unfold ku;rw[if_neg h1],by unfold ku;rw[if_neg h1];exact wV φ l j3⟩;unfold ku;rw[if_neg h1,if_neg h2,pU];simp[eG,e]
def Py:List DoD→List rH→List DoD
 |x::l,a::as'=>if a.err=0∧x.kind≠5∧x.kind≠6 then x::Py l as' else Py l as'
 |_,_=>[]
end Go.Proofs.YtafmbokfkbccaaaGreatDoor
namespace Go.Proofs.YtafmbokfkbccaaaGreatDoor
open Go.RowKit Go.Sort
end Go.Proofs.YtafmbokfkbccaaaGreatDoor
namespace Go.Proofs.YtafmbokfkbccaaaGreatDoor
open Go.RowKit Go.Sort Go.Maps
def V4 : List aA :=
  [⟨⟨false, [116], [(true, [88]), (true, [89])]⟩, [⟨false, [101], [(true, [88]), (true, [89])]⟩]⟩,
   ⟨⟨false, [116], [(true, [88]), (true, [90])]⟩, [⟨false, [116], [(true, [88]), (true, [89])]⟩, ⟨false, [101], [(true, [89]), (true, [90])]⟩]⟩]
def V5:List au:=[(kb [101],[kb [97],kb [98]])]
def Ug:List au:=[(kb [101],[kb [97],kb [98]]),(kb [116],[kb [97],kb [98]])]
def Xk:Bs:=[116,40,88,44,89,41,32,58,45,32,101,40,88,44,89,41,46,32,116,40,88,44,90,41,32,58,45,32,116,40,88,44,89,41,44,32,101,40,89,44,90,41,46]
def Xl:gK:=⟨Ug,Ug,1,2,true⟩
end Go.Proofs.YtafmbokfkbccaaaGreatDoor
namespace Go.Proofs.YtafmbokfkbccaaaGreatDoor
open Go.RowKit Go.Sort
end Go.Proofs.YtafmbokfkbccaaaGreatDoor
