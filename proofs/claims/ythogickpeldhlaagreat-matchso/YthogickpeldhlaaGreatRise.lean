/- The walks of fact.Own, fact.unlikeLast and its closure. -/
import Derived.Test.YthogickpeldhlaaGreatSets
namespace Go.Proofs.YthogickpeldhlaaGreat
open Go.RowKit Go.Sort

theorem pick_all (l : List FactD) : ∀ k, k ≤ l.length → pick (fun _ => true) l k = l.take k
  | 0, _ => by simp [pick]
  | k + 1, h => by
    simp only [pick, if_true]
    rw [pick_all l k (by omega), List.take_succ_eq_append_getElem (by omega), List.getD_eq_getElem?_getD, List.getElem?_eq_getElem (by omega)]; rfl

/-- The blocks that fact.unlikeLast's closure keeps. -/
def lastAt (w : World) (lo : Nat) (n : ByteArray) (s : Value) (b : Bool) : Prop :=
  w.heap[lo]? = some (.cells #[.string n, s] 41 (0, 0)) ∧ w.heap[lo + 1]? = some (.cells #[.bool b] 4 (0, 0))

theorem heap_setCell_at {w : World} {g j : Nat} {cs : Array Value} {t : TypeId} {fr : Nat × Nat} (h : w.heap[g]? = some (.cells cs t fr)) (u : Value) : (w.setCell ⟨g, j, none⟩ u).heap[g]? = some (.cells (cs.setIfInBounds j u) t fr) := by
  simp [World.setCell, Array.getElem?_modify, h]

theorem frozen_of_row {w : World} {g : Nat} (j : Nat) {cs : Array Value} {t : TypeId} (h : w.heap[g]? = some (.cells cs t (0, 0))) : w.frozen? ⟨g, j, none⟩ = false := by
  simp [World.frozen?, h]

/-- Behind the closure's stores. -/
theorem last_stored {w w2 : World} {lo : Nat} {n n' : ByteArray} {s s' : Value} {b : Bool} (hl : lastAt w lo n s b) (hL : Later w w2) :
    Only lo (lo + 2) w (((w2.setCell ⟨lo, 0, none⟩ (.string n')).setCell ⟨lo, 1, none⟩ s').setCell ⟨lo + 1, 0, none⟩ (.bool true)) ∧ lastAt (((w2.setCell ⟨lo, 0, none⟩ (.string n')).setCell ⟨lo, 1, none⟩ s').setCell ⟨lo + 1, 0, none⟩ (.bool true)) lo n' s' true := by
  have hb1 : lo < w.heap.size := (Array.getElem?_eq_some_iff.1 hl.1).1
  have hb2 : lo + 1 < w.heap.size := (Array.getElem?_eq_some_iff.1 hl.2).1
  have h1 : w2.heap[lo]? = some (.cells #[.string n, s] 41 (0, 0)) := by rw [hL.block hb1]; exact hl.1
  have h2 : w2.heap[lo + 1]? = some (.cells #[.bool b] 4 (0, 0)) := by rw [hL.block hb2]; exact hl.2
  refine ⟨⟨hL.below.os, hL.below.tape, hL.below.output, hL.drawn, by simpa [World.setCell] using hL.size, fun k hk ho => ?_⟩, ?_, ?_⟩
  · rw [Below.heap_setCell _ _ _ _ (by show k ≠ lo + 1; omega), Below.heap_setCell _ _ _ _ (by show k ≠ lo; omega), Below.heap_setCell _ _ _ _ (by show k ≠ lo; omega)]
    exact hL.block hk
  · rw [Below.heap_setCell _ _ _ _ (by show lo ≠ lo + 1; omega)]
    rw [heap_setCell_at (heap_setCell_at h1 _)]
    rfl
  · rw [heap_setCell_at (by rw [Below.heap_setCell _ _ _ _ (by show lo + 1 ≠ lo; omega), Below.heap_setCell _ _ _ _ (by show lo + 1 ≠ lo; omega)]; exact h2)]
    rfl

/-- What fact.unlikeLast's closure keeps, ahead of round k. -/
def LastK (w0 : World) (lo : Nat) (l : List FactD) (k : Nat) (w : World) : Prop :=
  ∃ n a m c, lastAt w lo n (.slice a m c) (decide (0 < k)) ∧ (0 < k → FactV w0 (.agg #[.string n, .slice a m c]) (l.getD (k - 1) noFact))

end Go.Proofs.YthogickpeldhlaaGreat
