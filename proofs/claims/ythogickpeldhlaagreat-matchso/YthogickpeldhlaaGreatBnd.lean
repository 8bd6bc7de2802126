/- How binds lie in cells, lists of such, and rows of lists that a call owns, each in a block of its own. Nothing of the program but two types' numbers. -/
import Derived.Test.YthogickpeldhlaaGreatCells
import Derived.Test.YthogickpeldhlaaGreatMatR
namespace Go.Proofs.YthogickpeldhlaaGreat
open Go.RowKit Go.Sort

/-- A bind lies in two cells. -/
def bindK : Kind BindD where
  size := 2
  is := fun _ _ c b => c = [.string b.1, .string b.2]
  len := fun h => by subst h; rfl
  one := fun h u hu => by subst h; simp at hu; rcases hu with rfl | rfl <;> rfl
  kept := fun h _ _ => h
  mono := fun h _ => h

/-- A slice of such elements lies in one cell. -/
def slK {α : Type} (K : Kind α) : Kind (List α) where
  size := 1
  is := fun B w c l => ∃ v, c = [v] ∧ K.sl B w v l
  len := fun ⟨v, h, _⟩ => by subst h; rfl
  one := fun ⟨v, h, hs⟩ u hu => by
    subst h
    obtain ⟨a, cap, rfl⟩ := Kind.slice hs
    simp at hu; subst hu; rfl
  kept := fun ⟨v, h, hs⟩ h1 h2 => ⟨v, h, Kind.sl_kept hs h1 h2⟩
  mono := fun ⟨v, h, hs⟩ h1 => ⟨v, h, Kind.sl_mono hs h1⟩

/-- Lists of binds. -/
abbrev listK : Kind (List BindD) := slK bindK

/-- Rows of a call's own in worlds that turn only other blocks. -/
theorem Kind.own_kept {α : Type} {K : Kind α} {ty : TypeId} {lo : Nat} {w w' : World} {v : Value} {l : List α} (h : K.own ty lo w v l) (hs : w.heap.size ≤ w'.heap.size) (hk : ∀ k, k < w.heap.size → lo ≤ k → w'.heap[k]? = w.heap[k]?) : K.own ty lo w' v l := by
  obtain ⟨xs, ho, hx⟩ := h
  refine ⟨xs, ⟨ho.1, ?_⟩, fun i x hi => ?_⟩
  · rcases ho.2 with e | ⟨g, cap, cur, rfl, hbg, hg, r⟩
    · exact Or.inl e
    · exact Or.inr ⟨g, cap, cur, rfl, hbg, by rw [hk g (Array.getElem?_eq_some_iff.1 hg).1 hbg]; exact hg, r⟩
  · obtain ⟨c, c1, c2⟩ := hx i x hi
    exact ⟨c, K.kept c1 hs fun j hj hB => hk j hj hB.1, c2⟩

/-- A row of binds hangs on its one block alone. -/
theorem own_block {ty : TypeId} {lo : Nat} {w w' : World} {v : Value} {l : List BindD} (h : bindK.own ty lo w v l) (hk : ∀ k, v.ownBlock = some k → w'.heap[k]? = w.heap[k]?) : bindK.own ty lo w' v l := by
  obtain ⟨xs, ho, hx⟩ := h
  refine ⟨xs, ⟨ho.1, ?_⟩, hx⟩
  rcases ho.2 with e | ⟨g, cap, cur, rfl, hbg, hg, r⟩
  · exact Or.inl e
  · exact Or.inr ⟨g, cap, cur, rfl, hbg, by rw [hk g rfl]; exact hg, r⟩

theorem own_base {ty : TypeId} {lo lo' : Nat} {w : World} {v : Value} {l : List BindD} (h : bindK.own ty lo w v l) (hl : lo' ≤ lo) : bindK.own ty lo' w v l := by
  obtain ⟨xs, ho, hx⟩ := h
  refine ⟨xs, ⟨ho.1, ?_⟩, hx⟩
  rcases ho.2 with e | ⟨g, cap, cur, rfl, hbg, r⟩
  · exact Or.inl e
  · exact Or.inr ⟨g, cap, cur, rfl, by omega, r⟩

/-- A list's block, if there is one. -/
abbrev ofBlock (v : Value) : Nat → Prop := fun k => v.ownBlock = some k

theorem own_in {ty : TypeId} {lo : Nat} {w : World} {v : Value} {l : List BindD} (h : bindK.own ty lo w v l) (hl : l.length ≤ 8796093022208) : bindK.sl (ofBlock v) w v l := by
  obtain ⟨xs, ho, hx⟩ := h
  rcases ho.2 with ⟨rfl, e⟩ | ⟨g, cap, cur, rfl, hbg, hg, hnc, _⟩
  · have : l = [] := List.eq_nil_of_length_eq_zero e
    subst this
    exact bindK.sl_nil _ _ _ _
  · refine ⟨⟨hl, hnc⟩, _, cap, rfl, fun _ => ⟨g, 0, rfl, rfl, (Array.getElem?_eq_some_iff.1 hg).1, fun i x hi => ?_⟩⟩
    obtain ⟨c, c1, c2⟩ := hx i x hi
    refine ⟨c, c1, fun j u hu => ?_⟩
    have := ho.cells (g := g) rfl _ u (c2 j u hu)
    rw [Addr.add_lit] at this
    rw [Nat.add_assoc]; exact this

/-- Two lists lie apart. -/
def apart (u u' : Value) : Prop := ∀ k, u.ownBlock = some k → u'.ownBlock ≠ some k

theorem apart.symm {u u' : Value} (h : apart u u') : apart u' u := fun k h1 h2 => h k h2 h1

/-- A row of lists that a call owns, each in a block of its own; what each is, and where it lies. -/
def Lists (tyS ty : TypeId) (lo : Nat) (w : World) (v : Value) (ps : List (Value × List BindD)) : Prop :=
  w.ownsRow lo tyS 1 v ps.length (ps.map (·.1)) ∧ (∀ p ∈ ps, bindK.own ty lo w p.1 p.2 ∧ apart p.1 v) ∧ ps.Pairwise fun p q => apart p.1 q.1

theorem Lists.nil (tyS ty : TypeId) (lo : Nat) (w : World) : Lists tyS ty lo w (.slice none 0 0) [] := ⟨World.ownsRow_nil w lo tyS 1, fun p hp => by simp at hp, List.Pairwise.nil⟩

theorem Lists.kept {tyS ty : TypeId} {lo : Nat} {w w' : World} {v : Value} {ps : List (Value × List BindD)} (h : Lists tyS ty lo w v ps) (hk : ∀ k, k < w.heap.size → lo ≤ k → w'.heap[k]? = w.heap[k]?) : Lists tyS ty lo w' v ps := by
  obtain ⟨ho, hp, ha⟩ := h
  refine ⟨⟨ho.1, ?_⟩, fun p h1 => ⟨own_block (hp p h1).1 fun k e => ?_, (hp p h1).2⟩, ha⟩
  · rcases ho.2 with e | ⟨g, cap, cur, rfl, hbg, hg, r⟩
    · exact Or.inl e
    · exact Or.inr ⟨g, cap, cur, rfl, hbg, by rw [hk g (Array.getElem?_eq_some_iff.1 hg).1 hbg]; exact hg, r⟩
  · have := Kind.own_lt (hp p h1).1 e
    exact hk k this.2 this.1

theorem Lists.later {tyS ty : TypeId} {lo : Nat} {w w' : World} {v : Value} {ps : List (Value × List BindD)} (h : Lists tyS ty lo w v ps) (k : Later w w') : Lists tyS ty lo w' v ps := h.kept fun _ hi _ => k.block hi

theorem Lists.slice {tyS ty : TypeId} {lo : Nat} {w : World} {v : Value} {ps : List (Value × List BindD)} (h : Lists tyS ty lo w v ps) : ∃ a cap, v = .slice a ps.length cap := by
  rcases h.1.2 with ⟨rfl, e⟩ | ⟨g, cap, cur, rfl, _⟩
  · exact ⟨none, 0, by rw [e]⟩
  · exact ⟨_, cap, rfl⟩

/-- Read. -/
theorem Lists.sl {tyS ty : TypeId} {lo : Nat} {w : World} {v : Value} {ps : List (Value × List BindD)} (h : Lists tyS ty lo w v ps) (hl : ps.length ≤ 8796093022208) (hs : ∀ p ∈ ps, p.2.length ≤ 8796093022208) : listK.sl (From lo) w v (ps.map (·.2)) := by
  obtain ⟨ho, hp, _⟩ := h
  rcases ho.2 with ⟨rfl, e⟩ | ⟨g, cap, cur, rfl, hbg, hg, hnc, _⟩
  · have : ps = [] := List.eq_nil_of_length_eq_zero e
    subst this
    exact listK.sl_nil _ _ _ _
  · refine ⟨⟨by simpa using hl, hnc⟩, _, cap, by simp, fun _ => ⟨g, 0, rfl, hbg, (Array.getElem?_eq_some_iff.1 hg).1, fun i x hi => ?_⟩⟩
    rw [List.getElem?_map] at hi
    cases e : ps[i]? with
    | none => rw [e] at hi; cases hi
    | some p =>
      rw [e] at hi
      cases hi
      have hpm := List.mem_of_getElem? e
      refine ⟨[p.1], ⟨p.1, rfl, Kind.own_sl (hp p hpm).1 (hs p hpm)⟩, fun j u hu => ?_⟩
      cases j with
      | succ j => simp at hu
      | zero =>
        simp at hu
        subst hu
        have := ho.cells (g := g) rfl i p.1 (by rw [List.getElem?_map, e]; rfl)
        rw [Addr.add_lit] at this
        show w.cell? ⟨g, 0 + i * 1 + 0, none⟩ = _
        rw [Nat.mul_one, Nat.add_zero]; exact this

end Go.Proofs.YthogickpeldhlaaGreat
