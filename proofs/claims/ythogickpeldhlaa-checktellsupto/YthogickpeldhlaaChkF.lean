/- Where no circle holds a step over what must not be so, there are numbers that hold. Plain. Nothing of the program. -/
import Derived.Test.YthogickpeldhlaaChk
namespace Go.Proofs.Ythogickpeldhlaa

/-- A head hangs on another, by an atom whose step is s. -/
def Edge (p : List RuleD) (a b : Bs) (s : Nat) : Prop := ∃ r ∈ p, ∃ x ∈ r.body, r.head.name = a ∧ x.name = b ∧ isHead p b ∧ step x = s

/-- A trail: from a on through these, over n steps in all. -/
inductive Trail (p : List RuleD) : Bs → List Bs → Nat → Prop
  | nil (a : Bs) : Trail p a [] 0
  | cons {a b : Bs} {s n : Nat} {l : List Bs} : Edge p a b s → Trail p b l n → Trail p a (b :: l) (s + n)

theorem Edge.le {p : List RuleD} {a b : Bs} {s : Nat} (h : Edge p a b s) : s ≤ 1 := by
  obtain ⟨r, _, x, _, _, _, _, rfl⟩ := h
  unfold step; split <;> omega

theorem Trail.split {p : List RuleD} : ∀ (l1 : List Bs) {a b : Bs} {l2 : List Bs} {n : Nat}, Trail p a (l1 ++ b :: l2) n → ∃ n1 n2, n = n1 + n2 ∧ Trail p a (l1 ++ [b]) n1 ∧ Trail p b l2 n2
  | [], a, b, l2, n, h => by
    cases h with
    | cons e t => exact ⟨_, _, rfl, by have := Trail.cons e (Trail.nil b); simpa using this, t⟩
  | c :: l1, a, b, l2, n, h => by
    cases h with
    | cons e t =>
      obtain ⟨n1, n2, rfl, t1, t2⟩ := Trail.split l1 t
      exact ⟨_, n2, (Nat.add_assoc _ _ _).symm, Trail.cons e t1, t2⟩

theorem Trail.heads {p : List RuleD} {a : Bs} {l : List Bs} {n : Nat} (h : Trail p a l n) : ∀ x ∈ l, isHead p x := by
  induction h with
  | nil => intro x hx; cases hx
  | cons e _ ih =>
    intro x hx
    obtain ⟨_, _, _, _, _, _, hh, _⟩ := e
    rcases List.mem_cons.1 hx with rfl | hx
    · exact hh
    · exact ih x hx
theorem Trail.le {p : List RuleD} {a : Bs} {l : List Bs} {n : Nat} (h : Trail p a l n) : n ≤ l.length := by
  induction h with
  | nil => exact Nat.le_refl _
  | cons e _ ih => have := e.le; simp; omega

theorem nodup_heads : ∀ (p : List RuleD) (l : List Bs), l.Nodup → (∀ x ∈ l, ∃ r ∈ p, r.head.name = x) → l.length ≤ p.length
  | [], l, _, h => by
    cases l with
    | nil => simp
    | cons x l => obtain ⟨r, hr, _⟩ := h x (by simp); cases hr
  | r :: p, l, hn, h => by
    have h1 := nodup_heads p (l.erase r.head.name) (hn.erase _) (fun x hx => by
      rw [hn.mem_erase_iff] at hx
      obtain ⟨q, hq, e⟩ := h x hx.2
      rcases List.mem_cons.1 hq with rfl | hq
      · exact absurd e.symm hx.1
      · exact ⟨q, hq, e⟩)
    by_cases hm : r.head.name ∈ l
    · rw [List.length_erase_of_mem hm] at h1; simp; omega
    · rw [List.erase_of_not_mem hm] at h1; simp; omega

theorem max_of {P : Nat → Prop} (N : Nat) (h0 : P 0) (hb : ∀ n, P n → n ≤ N) : ∃ m, P m ∧ ∀ n, P n → n ≤ m := by
  have : ∀ k, (∃ n, P n ∧ N ≤ n + k) → ∃ m, P m ∧ ∀ n, P n → n ≤ m := by
    intro k
    induction k with
    | zero => rintro ⟨n, hn, hk⟩; exact ⟨n, hn, fun m hm => by have := hb m hm; omega⟩
    | succ k ih =>
      rintro ⟨n, hn, hk⟩
      by_cases hx : ∃ m, P m ∧ n < m
      · obtain ⟨m, hm, hlt⟩ := hx
        exact ih ⟨m, hm, by omega⟩
      · exact ⟨n, hn, fun m hm => Nat.le_of_not_lt fun hlt => hx ⟨m, hm, hlt⟩⟩
  exact this N ⟨0, h0, by omega⟩

/-- Of trails that meet nothing twice, the most steps. -/
def Far (p : List RuleD) (a : Bs) (n : Nat) : Prop := ∃ l, l.Nodup ∧ a ∉ l ∧ Trail p a l n
theorem far_max (p : List RuleD) (a : Bs) : ∃ m, Far p a m ∧ ∀ n, Far p a n → n ≤ m :=
  max_of p.length ⟨[], by simp, by simp, Trail.nil a⟩ fun n ⟨l, hn, _, ht⟩ => Nat.le_trans ht.le (nodup_heads p l hn fun x hx => ht.heads x hx)

/-- No circle that meets nothing twice holds a step. -/
def NoRound (p : List RuleD) : Prop := ∀ a mid n, mid.Nodup → Trail p a (mid ++ [a]) n → n = 0

theorem sol_of_noRound {p : List RuleD} (h : NoRound p) : ∃ σ, Sol p σ := by
  refine ⟨fun a => Classical.choose (far_max p a), fun r hr x hx hh => ?_⟩
  have hE : Edge p r.head.name x.name (step x) := ⟨r, hr, x, hx, rfl, rfl, hh, rfl⟩
  obtain ⟨⟨l, hn, hnot, ht⟩, _⟩ := Classical.choose_spec (far_max p x.name)
  have hmax := (Classical.choose_spec (far_max p r.head.name)).2
  show Classical.choose (far_max p x.name) + step x ≤ Classical.choose (far_max p r.head.name)
  generalize Classical.choose (far_max p x.name) = n at *
  generalize Classical.choose (far_max p r.head.name) = m at *
  generalize step x = s at *
  generalize r.head.name = a at *
  generalize x.name = b at *
  by_cases hab : a = b
  · subst hab
    have h1 := h a [] s (by simp) (by have := Trail.cons hE (Trail.nil a); simpa using this)
    have h2 := hmax n ⟨l, hn, hnot, ht⟩
    omega
  · by_cases hal : a ∈ l
    · obtain ⟨l1, l2, rfl⟩ := List.append_of_mem hal
      obtain ⟨n1, n2, rfl, t1, t2⟩ := Trail.split l1 ht
      have hn' := hn
      rw [List.nodup_append] at hn'
      obtain ⟨hd1, hd2, hd3⟩ := hn'
      have hd2' := List.nodup_cons.1 hd2
      have h1 := h a (b :: l1) (s + n1) (List.nodup_cons.2 ⟨fun hb => hnot (by simp [hb]), hd1⟩) (Trail.cons hE t1)
      have h2 := hmax n2 ⟨l2, hd2'.2, hd2'.1, t2⟩
      omega
    · have h2 := hmax (s + n) ⟨b :: l, List.nodup_cons.2 ⟨hnot, hn⟩, by simp [hab, hal], Trail.cons hE ht⟩
      omega

end Go.Proofs.Ythogickpeldhlaa
