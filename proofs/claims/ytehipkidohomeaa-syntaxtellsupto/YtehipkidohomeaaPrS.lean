/- Rules as texts: plain. Nothing of the program. -/
import Derived.Test.YtehipkidohomeaaSyn
import Derived.Lib.Join
namespace Go.Proofs.Ytehipkidohomeaa

def printAtom (a : AtomD) : Bs := (if a.no then [33] else []) ++ a.name ++ (if a.terms = [] then [] else [40] ++ Lib.join (a.terms.map (·.2)) [44] ++ [41])
def printRest (sep : Bs) : List AtomD → Bs
  | [] => []
  | a :: r => sep ++ printAtom a ++ printRest [44, 32] r
def printRule (r : RuleD) : Bs := printAtom r.head ++ printRest [32, 58, 45, 32] r.body ++ [46, 10]
def printAll : List RuleD → Bs
  | [] => []
  | r :: p => printRule r ++ printAll p

end Go.Proofs.Ytehipkidohomeaa
