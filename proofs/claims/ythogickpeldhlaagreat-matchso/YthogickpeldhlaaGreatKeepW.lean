/- The walk of fact.keep, whatever the closure that is asked, and whatever it keeps to itself. -/
import Derived.Test.YthogickpeldhlaaGreatOwn
import Derived.Shelf.Abstract
namespace Go.Proofs.YthogickpeldhlaaGreat
open Go.RowKit Go.Sort

/-- The first k facts, those of them that p takes. -/
def pick (p : Nat → Bool) (l : List FactD) : Nat → List FactD
  | 0 => []
  | k + 1 => if p k then pick p l k ++ [l.getD k noFact] else pick p l k

theorem pick_le (p : Nat → Bool) (l : List FactD) : ∀ k, (pick p l k).length ≤ k
  | 0 => Nat.le_refl _
  | k + 1 => by
    have := pick_le p l k
    unfold pick
    split <;> simp <;> omega

/-- What is asked of a closure: in every round it tells p k; it turns nothing but its own blocks (from lo up to hi), and its own state goes on. -/
structure Asked (g : Nat) (cb : Array Value) (lo hi : Nat) (w0 : World) (l : List FactD) (p : Nat → Bool) (S : Nat → World → Prop) : Prop where
  ask : ∀ k w' v, k < l.length → Later w0 w' → hi ≤ w'.heap.size → S k w' → FactV w0 v (l.getD k noFact) →
    Calls Tryz.prog g (#[v] ++ cb) w' fun e w'' => e = .returned (.bool (p k)) ∧ Only lo hi w' w'' ∧ S (k + 1) w''
  kept : ∀ k w' w'', S k w' → (∀ j, j < hi → w''.heap[j]? = w'.heap[j]?) → w'.heap.size ≤ w''.heap.size → S k w''

end Go.Proofs.YthogickpeldhlaaGreat
