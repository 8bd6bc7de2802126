/- Rows of atoms that a call owns, their terms from before it. Nothing of the program but types' numbers. -/
import Derived.Test.YthogickpeldhlaaCells
namespace Go.Proofs.Ythogickpeldhlaa
open Go.RowKit Go.Sort

theorem infoAtom4 : ∃ i, Try.prog.info? 54 = some i ∧ i.zero = some (.agg #[.bool false, .string ByteArray.empty, .slice none 0 0]) ∧ i.size = 3 ∧ i.bytes = 48 := ⟨Try.t54, by kernel_rfl, by kernel_rfl, by kernel_rfl, by kernel_rfl⟩

/-- A row of atoms of a call's own; their terms were there in w0. -/
def RowA (w0 : World) (lo : Nat) (w : World) (v : Value) (l : List AtomD) : Prop :=
  ∃ xs, w.ownsRow lo 54 3 v l.length xs ∧ ∀ i a, l[i]? = some a → ∃ c, atomK.is Anyw w0 c a ∧ ∀ j u, c[j]? = some u → xs[i * 3 + j]? = some u

theorem RowA.nil (w0 : World) (lo : Nat) (w : World) : RowA w0 lo w (.slice none 0 0) [] := ⟨[], World.ownsRow_nil w _ _ _, fun i a h => by simp at h⟩

theorem RowA.slice {w0 w : World} {lo : Nat} {v : Value} {l : List AtomD} (h : RowA w0 lo w v l) : ∃ a cap, v = .slice a l.length cap := by
  obtain ⟨xs, ho, _⟩ := h
  rcases ho.2 with ⟨rfl, e⟩ | ⟨g, cap, cur, rfl, _⟩
  · exact ⟨none, 0, by rw [e]⟩
  · exact ⟨_, cap, rfl⟩

theorem RowA.lo {w0 w : World} {lo : Nat} {v : Value} {l : List AtomD} (h : RowA w0 lo w v l) : ∀ k, v.ownBlock = some k → lo ≤ k ∧ k < w.heap.size := fun k e => by
  obtain ⟨xs, ho, _⟩ := h; exact ho.lt k e

/-- One atom more. -/
theorem RowA.more {w0 w : World} {lo : Nat} {v : Value} {l : List AtomD} (h : RowA w0 lo w v l) (hs : lo ≤ w.heap.size) {c : List Value} {a : AtomD} (hc : atomK.is Anyw w0 c a) (hl : (l.length + 1) * 48 ≤ 140737488355328) :
    ∃ v' w', (Builtin.append_ #[48, 48] 48 #[v, .slice (some ⟨w.heap.size, 0, none⟩) 1 1]).run Try.prog (w.alloc (.cells c.toArray 54)) = .ok v' w' ∧ RowA w0 lo w' v' (l ++ [a]) ∧ (w.alloc (.cells c.toArray 54)).grownBy w' v.ownBlock ∧ w.drawn ≤ w'.drawn := by
  obtain ⟨i, i1, i2, i3, i4⟩ := infoAtom4
  obtain ⟨xs, ho, hx⟩ := h
  have hcl : c.length = 3 := atomK.len hc
  have hnews : ∀ j u, c[j]? = some u → (w.alloc (.cells c.toArray 54)).cell? ((⟨w.heap.size, 0, none⟩ : Addr).add j) = some u := by
    intro j u hu
    rw [Addr.add_lit, Nat.zero_add, cell_of_row _ w.heap.size j c.toArray 54 (0, 0) (heap_alloc_new w _)]
    simpa using hu
  obtain ⟨v', w', hrun, r1, r2, r3, _⟩ := append_own (P := Try.prog) (w.alloc (.cells c.toArray 54)) lo 48 48 54 i _ 3 48 Try.underlying48 i1 i2 i3 i4 rfl (by omega) v l.length xs (ho.alloc _) ⟨w.heap.size, 0, none⟩ 1 1 c (by rw [hcl]) hnews
    (atomK.one hc) (by simp only [maxLen]; omega) hl (by simp; omega)
  refine ⟨v', w', hrun, ⟨xs ++ c, by simpa using r1, fun j y hj => ?_⟩, r2, r3⟩
  have hxl : xs.length = l.length * 3 := ho.1
  by_cases hjl : j < l.length
  · rw [List.getElem?_append_left hjl] at hj
    obtain ⟨d, d1, d2⟩ := hx j y hj
    refine ⟨d, d1, fun q u hu => ?_⟩
    have := d2 q u hu
    rw [List.getElem?_append_left (List.getElem?_eq_some_iff.1 this).1]; exact this
  · rw [List.getElem?_append_right (by omega)] at hj
    have hj' : j = l.length := by
      have := (List.getElem?_eq_some_iff.1 hj).1
      simp at this; omega
    subst hj'
    simp at hj
    subst hj
    refine ⟨c, hc, fun q u hu => ?_⟩
    rw [List.getElem?_append_right (by omega), hxl, Nat.add_sub_cancel_left]; exact hu

theorem RowA.sl {w0 w : World} {lo : Nat} {v : Value} {l : List AtomD} (h : RowA w0 lo w v l) (hb : Below w0.heap.size w0 w) (hl : l.length ≤ 8796093022208) : atomK.sl Anyw w v l := by
  obtain ⟨xs, ho, hx⟩ := h
  rcases ho.2 with ⟨rfl, e⟩ | ⟨g, cap, cur, rfl, hbg, hg, hnc, _⟩
  · have : l = [] := List.eq_nil_of_length_eq_zero e
    subst this
    exact atomK.sl_nil _ _ _ _
  · refine ⟨⟨hl, hnc⟩, _, cap, rfl, fun _ => ⟨g, 0, rfl, trivial, (Array.getElem?_eq_some_iff.1 hg).1, fun i x hi => ?_⟩⟩
    obtain ⟨c, c1, c2⟩ := hx i x hi
    refine ⟨c, atomK.kept c1 hb.size fun k hk _ => hb.block k hk, fun j u hu => ?_⟩
    have := ho.cells (g := g) rfl _ u (c2 j u hu)
    rw [Addr.add_lit] at this
    rw [Nat.add_assoc]; exact this

theorem RowA.one {w0 w : World} {lo : Nat} {c : List Value} {a : AtomD} (hc : atomK.is Anyw w0 c a) (hs : lo ≤ w.heap.size) : RowA w0 lo (w.alloc (.cells c.toArray 54)) (.slice (some ⟨w.heap.size, 0, none⟩) 1 1) [a] := by
  have hcl : c.length = 3 := atomK.len hc
  refine ⟨c, ⟨by rw [hcl]; rfl, Or.inr ⟨w.heap.size, 1, c.toArray, rfl, hs, heap_alloc_new _ _, by simp, by simp [maxLen], by simp [hcl], by show c.take 3 = c; rw [← hcl]; simp⟩⟩, fun i x hi => ?_⟩
  cases i with
  | zero =>
    simp at hi
    subst hi
    exact ⟨c, hc, fun j u hu => by rw [Nat.zero_mul, Nat.zero_add]; exact hu⟩
  | succ i => simp at hi

/-- Apart from block b, that lies behind what was there and ahead of the row. -/
theorem RowA.slB {w0 w : World} {lo b : Nat} {v : Value} {l : List AtomD} (h : RowA w0 lo w v l) (hb : Below w0.heap.size w0 w) (hl : l.length ≤ 8796093022208) (h1 : w0.heap.size ≤ b) (h2 : b < lo) : atomK.sl (fun k => k ≠ b) w v l := by
  obtain ⟨xs, ho, hx⟩ := h
  rcases ho.2 with ⟨rfl, e⟩ | ⟨g, cap, cur, rfl, hbg, hg, hnc, _⟩
  · have : l = [] := List.eq_nil_of_length_eq_zero e
    subst this
    exact atomK.sl_nil _ _ _ _
  · refine ⟨⟨hl, hnc⟩, _, cap, rfl, fun _ => ⟨g, 0, rfl, by show g ≠ b; omega, (Array.getElem?_eq_some_iff.1 hg).1, fun i x hi => ?_⟩⟩
    obtain ⟨c, c1, c2⟩ := hx i x hi
    refine ⟨c, atomK.kept (atomK.mono c1 fun k hk _ => (by omega : k ≠ b)) hb.size fun k hk _ => hb.block k hk, fun j u hu => ?_⟩
    have := ho.cells (g := g) rfl _ u (c2 j u hu)
    rw [Addr.add_lit] at this
    rw [Nat.add_assoc]; exact this

end Go.Proofs.Ythogickpeldhlaa
