/- Sets of facts, in plain Lean: lists that rise, each fact once. -/
import Derived.Test.YthogickpeldhlaaKeepW
namespace Go.Proofs.Ythogickpeldhlaa
open Go.RowKit Go.Sort

/-- Rising, each once. -/
def Rises (s : List FactD) : Prop := s.Pairwise fun a b => cmpF a b < 0

theorem le_lt {a b c : FactD} (h : cmpF a b ≤ 0) (k : cmpF b c < 0) : cmpF a c < 0 := by
  by_cases e : cmpF a b = 0
  · rw [three_cmpF.zero _ _ e]; exact k
  · exact three_cmpF.trans a b c (by omega) k

theorem lt_irrefl {a : FactD} (h : cmpF a a < 0) : False := by rw [three_cmpF.refl] at h; omega

theorem lt_asym {a b : FactD} (h : cmpF a b < 0) (k : cmpF b a < 0) : False := lt_irrefl (three_cmpF.trans a b a h k)

/-- A set is told by what is in it. -/
theorem Rises.ext : ∀ {s t : List FactD}, Rises s → Rises t → (∀ f, f ∈ s ↔ f ∈ t) → s = t
  | [], [], _, _, _ => rfl
  | [], b :: t, _, _, h => by have := (h b).2 (List.mem_cons_self ..); cases this
  | a :: s, [], _, _, h => by have := (h a).1 (List.mem_cons_self ..); cases this
  | a :: s, b :: t, hs, ht, h => by
    have hs' := List.pairwise_cons.1 hs
    have ht' := List.pairwise_cons.1 ht
    have e : a = b := by
      rcases List.mem_cons.1 ((h a).1 (List.mem_cons_self ..)) with e | e
      · exact e
      · rcases List.mem_cons.1 ((h b).2 (List.mem_cons_self ..)) with e' | e'
        · exact e'.symm
        · exact absurd (ht'.1 a e) fun k => lt_asym k (hs'.1 b e')
    subst e
    rw [Rises.ext hs'.2 ht'.2 fun f => ⟨fun hf => ?_, fun hf => ?_⟩]
    · rcases List.mem_cons.1 ((h f).1 (List.mem_cons_of_mem _ hf)) with e | e
      · subst e; exact absurd (hs'.1 f hf) lt_irrefl
      · exact e
    · rcases List.mem_cons.1 ((h f).2 (List.mem_cons_of_mem _ hf)) with e | e
      · subst e; exact absurd (ht'.1 f hf) lt_irrefl
      · exact e

/-- s is the set of l's facts. -/
def SetOf (s l : List FactD) : Prop := Rises s ∧ (∀ f, f ∈ s ↔ f ∈ l) ∧ s.length ≤ l.length

theorem getD_mem_take {l : List FactD} {i k : Nat} (hi : i < k) (hk : k ≤ l.length) : l.getD i noFact ∈ l.take k := by
  rw [List.getD_eq_getElem?_getD, List.getElem?_eq_getElem (by omega)]
  exact List.mem_take_iff_getElem.2 ⟨i, by omega, rfl⟩

theorem mem_take_getD {l : List FactD} {k : Nat} {f : FactD} (h : f ∈ l.take k) : ∃ i, i < k ∧ i < l.length ∧ f = l.getD i noFact := by
  obtain ⟨i, hi, rfl⟩ := List.mem_take_iff_getElem.1 h
  exact ⟨i, by omega, by omega, by rw [List.getD_eq_getElem?_getD, List.getElem?_eq_getElem (by omega)]; rfl⟩

theorem take_succ {l : List FactD} {k : Nat} (h : k < l.length) : l.take (k + 1) = l.take k ++ [l.getD k noFact] := by
  rw [List.take_succ_eq_append_getElem h, List.getD_eq_getElem?_getD, List.getElem?_eq_getElem h]; rfl

theorem sorted_getD {l : List FactD} (h : l.Pairwise fun a b => cmpF a b ≤ 0) {i j : Nat} (hij : i ≤ j) (hj : j < l.length) : cmpF (l.getD i noFact) (l.getD j noFact) ≤ 0 := by
  by_cases e : i = j
  · subst e; rw [three_cmpF.refl]; exact Int.le_refl _
  · have := List.pairwise_iff_getElem.1 h i j (by omega) hj (by omega)
    rw [List.getD_eq_getElem?_getD, List.getD_eq_getElem?_getD, List.getElem?_eq_getElem (by omega), List.getElem?_eq_getElem hj]
    exact this

/-- Is a fact another one than the one ahead? -/
def newP (l : List FactD) (k : Nat) : Bool := decide (k = 0) || !decide (cmpF (l.getD (k - 1) noFact) (l.getD k noFact) = 0)

/-- Of facts that do not fall: each one once. -/
theorem pick_new {l : List FactD} (h : l.Pairwise fun a b => cmpF a b ≤ 0) : ∀ k, k ≤ l.length → SetOf (pick (newP l) l k) (l.take k)
  | 0, _ => ⟨List.Pairwise.nil, fun f => by simp [pick], by simp [pick]⟩
  | k + 1, hk => by
    obtain ⟨i1, i2, _⟩ := pick_new h k (by omega)
    have hlen : (pick (newP l) l (k + 1)).length ≤ (l.take (k + 1)).length := by
      have := pick_le (newP l) l (k + 1)
      rw [List.length_take]; omega
    rw [take_succ (by omega)] at hlen
    rw [take_succ (by omega)]
    cases hp : newP l k with
    | true =>
      have e : pick (newP l) l (k + 1) = pick (newP l) l k ++ [l.getD k noFact] := by simp [pick, hp]
      rw [e]
      refine ⟨?_, fun f => by rw [List.mem_append, List.mem_append, i2 f], by rw [← e]; exact hlen⟩
      unfold Rises
      rw [List.pairwise_append]
      refine ⟨i1, List.pairwise_singleton _ _, fun a ha b hb => ?_⟩
      rw [List.mem_singleton] at hb
      subst hb
      obtain ⟨i, hi, hil, rfl⟩ := mem_take_getD ((i2 a).1 ha)
      refine le_lt (sorted_getD h (i := i) (j := k - 1) (by omega) (by omega)) ?_
      have h1 := sorted_getD h (i := k - 1) (j := k) (by omega) (by omega)
      have h2 : cmpF (l.getD (k - 1) noFact) (l.getD k noFact) ≠ 0 := by
        intro e
        unfold newP at hp
        rw [decide_eq_true e, decide_eq_false (by omega)] at hp
        cases hp
      omega
    | false =>
      have e : pick (newP l) l (k + 1) = pick (newP l) l k := by simp [pick, hp]
      rw [e]
      refine ⟨i1, fun f => ?_, by rw [← e]; exact hlen⟩
      rw [i2 f, List.mem_append, List.mem_singleton]
      refine ⟨Or.inl, fun hf => hf.elim id fun hf => ?_⟩
      unfold newP at hp
      rw [Bool.or_eq_false_iff, decide_eq_false_iff_not, Bool.not_eq_false', decide_eq_true_eq] at hp
      have := three_cmpF.zero _ _ hp.2
      rw [hf, ← this]
      exact getD_mem_take (by omega) (by omega)

/-- Those that p takes. -/
theorem pick_filter (q : FactD → Bool) (l : List FactD) : ∀ k, k ≤ l.length → pick (fun i => q (l.getD i noFact)) l k = (l.take k).filter q
  | 0, _ => by simp [pick]
  | k + 1, hk => by
    have e : pick (fun i => q (l.getD i noFact)) l (k + 1) = if q (l.getD k noFact) then pick (fun i => q (l.getD i noFact)) l k ++ [l.getD k noFact] else pick (fun i => q (l.getD i noFact)) l k := rfl
    rw [e, take_succ (by omega), List.filter_append, ← pick_filter q l k (by omega)]
    generalize l.getD k noFact = x
    cases hq : q x <;> simp [hq]

/-- Two lists with the same facts have one set. -/
theorem SetOf.same {s t l m : List FactD} (h : SetOf s l) (k : SetOf t m) (e : ∀ f, f ∈ l ↔ f ∈ m) : s = t :=
  h.1.ext k.1 fun f => (h.2.1 f).trans ((e f).trans (k.2.1 f).symm)

/-- A set's set is itself. -/
theorem SetOf.eq {s t l : List FactD} (h : SetOf s l) (k : Rises t) (e : ∀ f, f ∈ l ↔ f ∈ t) : s = t :=
  h.1.ext k fun f => (h.2.1 f).trans (e f)

end Go.Proofs.Ythogickpeldhlaa
