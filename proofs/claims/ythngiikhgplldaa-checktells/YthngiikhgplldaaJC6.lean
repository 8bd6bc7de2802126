/- Texts of this claim, one behind the other. -/
import Derived.Test.YthngiikhgplldaaJC5
import Derived.Test.YthngiikhgplldaaJC2
import Derived.Shelf.SlSortCmp.QuietGrown
/- The walks of slices.BinarySearchFunc at facts, fact.among and its closure, fact.In. -/
namespace Go.Proofs.Ythngiikhgplldaa
open Go.RowKit Go.Sort

/-- A fact of a slice, in every later world. -/
theorem Facts.grown {w : World} {b off n cap : Nat} {l : List FactD} (h : Facts w (.slice (some ⟨b, off, none⟩) n cap) l) {k : Nat} (hk : k < l.length) :
    ∃ a len c, (∀ q os, (grow (w.drewN q) os).cell? ⟨b, off + k * 2, none⟩ = some (.string (l.getD k noFact).1)) ∧ (∀ q os, (grow (w.drewN q) os).cell? ⟨b, off + k * 2 + 1, none⟩ = some (.slice a len c)) ∧ FactV w (.agg #[.string (l.getD k noFact).1, .slice a len c]) (l.getD k noFact) := by
  obtain ⟨hb, a, len, c, g1, g2, hf⟩ := h.at hk
  exact ⟨a, len, c, fun q os => by rw [Later.cell ⟨q, os, rfl⟩ (p := ⟨b, off + k * 2, none⟩) hb]; exact g1, fun q os => by rw [Later.cell ⟨q, os, rfl⟩ (p := ⟨b, off + k * 2 + 1, none⟩) hb]; exact g2, hf⟩

end Go.Proofs.Ythngiikhgplldaa

/- The document's answer: the walk of ref.Same, where the two lists hold the same. -/
namespace Go.Proofs.Ythngiikhgplldaa
open Go.RowKit Go.Sort

end Go.Proofs.Ythngiikhgplldaa

/- The walks of fact.Own, fact.unlikeLast and its closure. -/
namespace Go.Proofs.Ythngiikhgplldaa
open Go.RowKit Go.Sort

end Go.Proofs.Ythngiikhgplldaa

/- The walk of fact.Set. -/
namespace Go.Proofs.Ythngiikhgplldaa
open Go.RowKit Go.Sort

/-- The first fault from fact k on: what, and at which. -/
def faultFrom (l : List FactD) : Nat → Nat → Int × Int
  | 0, _ => (0, 0)
  | n + 1, k => if wrongF (l.getD k noFact) ≠ 0 then (wrongF (l.getD k noFact), k) else if 0 < k ∧ 0 ≤ cmpF (l.getD (k - 1) noFact) (l.getD k noFact) then (2, k) else faultFrom l n (k + 1)

def setFault (l : List FactD) : Int × Int := if 200 < l.length then (5, 0) else faultFrom l l.length 0

end Go.Proofs.Ythngiikhgplldaa
