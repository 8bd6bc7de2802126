/- Sorting by a three-way comparison, plain; lists of binds in their order. Nothing of the program. -/
import Derived.Test.YthogickpeldhlaaGreatMat
namespace Go.Proofs.YthogickpeldhlaaGreat

variable {α : Type} {c : α → α → Int}

theorem Three.le_trans (h : Three c) {a b d : α} (h1 : c a b ≤ 0) (h2 : c b d ≤ 0) : c a d ≤ 0 := by
  by_cases e1 : c a b = 0
  · rw [h.zero _ _ e1]; exact h2
  · by_cases e2 : c b d = 0
    · rw [← h.zero _ _ e2]; exact h1
    · have := h.trans a b d (by omega) (by omega)
      omega

theorem Three.anti (h : Three c) {a b : α} (h1 : c a b ≤ 0) (h2 : c b a ≤ 0) : a = b := h.zero a b (by have := h.swap a b; omega)

theorem rise_ext (h : Three c) : ∀ {s t : List α}, s.Pairwise (fun a b => c a b < 0) → t.Pairwise (fun a b => c a b < 0) → (∀ x, x ∈ s ↔ x ∈ t) → s = t
  | [], [], _, _, _ => rfl
  | [], b :: t, _, _, e => absurd ((e b).2 List.mem_cons_self) (by simp)
  | a :: s, [], _, _, e => absurd ((e a).1 List.mem_cons_self) (by simp)
  | a :: s, b :: t, hs, ht, e => by
    have hs' := List.pairwise_cons.1 hs
    have ht' := List.pairwise_cons.1 ht
    have hab : a = b := by
      rcases List.mem_cons.1 ((e a).1 List.mem_cons_self) with h1 | h1
      · exact h1
      · rcases List.mem_cons.1 ((e b).2 List.mem_cons_self) with h2 | h2
        · exact h2.symm
        · have x1 := ht'.1 a h1
          have x2 := hs'.1 b h2
          have := h.swap a b
          omega
    subst hab
    have irr : c a a = 0 := h.refl a
    rw [rise_ext h hs'.2 ht'.2 fun x => ⟨fun hx => ?_, fun hx => ?_⟩]
    · rcases List.mem_cons.1 ((e x).1 (List.mem_cons_of_mem _ hx)) with h1 | h1
      · subst h1; have := hs'.1 x hx; omega
      · exact h1
    · rcases List.mem_cons.1 ((e x).2 (List.mem_cons_of_mem _ hx)) with h1 | h1
      · subst h1; have := ht'.1 x hx; omega
      · exact h1

theorem sorted_unique (h : Three c) : ∀ {l m : List α}, l.Perm m → l.Pairwise (fun a b => c a b ≤ 0) → m.Pairwise (fun a b => c a b ≤ 0) → l = m
  | [], m, hp, _, _ => hp.nil_eq
  | a :: l, [], hp, _, _ => by simpa using hp.length_eq
  | a :: l, b :: m, hp, hl, hm => by
    have hl' := List.pairwise_cons.1 hl
    have hm' := List.pairwise_cons.1 hm
    have hab : a = b := by
      rcases List.mem_cons.1 (hp.mem_iff.1 List.mem_cons_self) with h1 | h1
      · exact h1
      · rcases List.mem_cons.1 (hp.mem_iff.2 (List.mem_cons_self (a := b) (l := m))) with h2 | h2
        · exact h2.symm
        · exact h.anti (hl'.1 b h2) (hm'.1 a h1)
    subst hab
    rw [sorted_unique h (List.Perm.cons_inv hp) hl'.2 hm'.2]

/-- Sorted. -/
def sortBy (c : α → α → Int) (l : List α) : List α := l.mergeSort fun a b => decide (c a b ≤ 0)

theorem sortBy_perm (l : List α) : (sortBy c l).Perm l := List.mergeSort_perm _ _
theorem sortBy_sorted (h : Three c) (l : List α) : (sortBy c l).Pairwise fun a b => c a b ≤ 0 := by
  have := List.pairwise_mergeSort (le := fun a b => decide (c a b ≤ 0)) (fun a b d h1 h2 => by
    simp only [decide_eq_true_eq] at *
    exact h.le_trans h1 h2) (fun a b => by
    simp only [Bool.or_eq_true, decide_eq_true_eq]
    have := h.swap a b
    omega) l
  exact this.imp fun h => by simpa using h

theorem sortBy_of (h : Three c) {l m : List α} (hp : m.Perm l) (hs : m.Pairwise fun a b => c a b ≤ 0) : m = sortBy c l :=
  sorted_unique h (hp.trans (sortBy_perm l).symm) hs (sortBy_sorted h l)

theorem sortBy_congr (h : Three c) {l m : List α} (hp : l.Perm m) : sortBy c l = sortBy c m := sortBy_of h ((sortBy_perm l).trans hp) (sortBy_sorted h l)

theorem strict_of (h : Three c) {l : List α} (hs : l.Pairwise fun a b => c a b ≤ 0) (hn : l.Nodup) : l.Pairwise fun a b => c a b < 0 :=
  (hs.and hn).imp fun {a b} ⟨h1, h2⟩ => by
    rcases Int.lt_or_eq_of_le h1 with h3 | h3
    · exact h3
    · exact absurd (h.zero _ _ h3) h2

theorem strict_nodup (h : Three c) {l : List α} (hs : l.Pairwise fun a b => c a b < 0) : l.Nodup := hs.imp fun {a b} h1 e => by
  subst e
  rw [h.refl] at h1
  omega

/-- One list against another, element by element; who ends first comes first. -/
def cmpX (c : α → α → Int) : List α → List α → Int
  | [], [] => 0
  | [], _ :: _ => -1
  | _ :: _, [] => 1
  | a :: x, b :: y => if c a b ≠ 0 then c a b else cmpX c x y

theorem cmpX_swap (h : Three c) : ∀ x y, cmpX c y x = - cmpX c x y
  | [], [] => rfl
  | [], _ :: _ => rfl
  | _ :: _, [] => rfl
  | a :: x, b :: y => by
    have := h.swap a b
    simp only [cmpX]
    by_cases e : c a b = 0
    · rw [if_neg (by omega), if_neg (by omega)]; exact cmpX_swap h x y
    · rw [if_pos (by omega), if_pos e]; omega

theorem cmpX_zero (h : Three c) : ∀ x y, cmpX c x y = 0 → x = y
  | [], [], _ => rfl
  | [], _ :: _, e => by simp [cmpX] at e
  | _ :: _, [], e => by simp [cmpX] at e
  | a :: x, b :: y, e => by
    simp only [cmpX] at e
    by_cases e' : c a b = 0
    · rw [if_neg (by omega)] at e
      rw [h.zero _ _ e', cmpX_zero h x y e]
    · rw [if_pos e'] at e; exact absurd e e'

theorem cmpX_trans (h : Three c) : ∀ x y z, cmpX c x y < 0 → cmpX c y z < 0 → cmpX c x z < 0
  | [], [], z, h1, _ => by simp [cmpX] at h1
  | [], _ :: _, [], _, h2 => by simp [cmpX] at h2
  | [], _ :: _, _ :: _, _, _ => by simp [cmpX]
  | _ :: _, [], _, h1, _ => by simp [cmpX] at h1
  | _ :: _, _ :: _, [], _, h2 => by simp [cmpX] at h2
  | a :: x, b :: y, d :: z, h1, h2 => by
    simp only [cmpX] at h1 h2 ⊢
    by_cases e1 : c a b = 0
    · rw [if_neg (by omega)] at h1
      have := h.zero _ _ e1
      subst this
      by_cases e2 : c a d = 0
      · rw [if_neg (by omega)] at h2 ⊢; exact cmpX_trans h x y z h1 h2
      · rw [if_pos e2] at h2 ⊢; exact h2
    · rw [if_pos e1] at h1
      by_cases e2 : c b d = 0
      · have := h.zero _ _ e2
        subst this
        rw [if_pos e1]; exact h1
      · rw [if_pos e2] at h2
        have := h.trans a b d h1 h2
        rw [if_pos (by omega)]; exact this

theorem three_cmpX (h : Three c) : Three (cmpX c) := ⟨fun a b => cmpX_swap h a b, cmpX_zero h, cmpX_trans h⟩

/-- Binds, by what varies, then by what it stands for. -/
def cmpB (a b : BindD) : Int := if cmpS a.1 b.1 ≠ 0 then cmpS a.1 b.1 else cmpS a.2 b.2

theorem three_cmpB : Three cmpB where
  swap a b := by
    have h1 := three_cmpS.swap a.1 b.1
    have h2 := three_cmpS.swap a.2 b.2
    unfold cmpB
    by_cases e : cmpS a.1 b.1 = 0
    · rw [if_neg (by omega), if_neg (by omega)]; exact h2
    · rw [if_pos (by omega), if_pos e]; exact h1
  zero a b h := by
    unfold cmpB at h
    by_cases e : cmpS a.1 b.1 = 0
    · rw [if_neg (by omega)] at h
      have := three_cmpS.zero _ _ e
      have := three_cmpS.zero _ _ h
      obtain ⟨a1, a2⟩ := a
      obtain ⟨b1, b2⟩ := b
      simp_all
    · rw [if_pos e] at h; exact absurd h e
  trans a b d h k := by
    unfold cmpB at *
    by_cases e1 : cmpS a.1 b.1 = 0
    · rw [if_neg (by omega)] at h
      rw [three_cmpS.zero _ _ e1]
      by_cases e2 : cmpS b.1 d.1 = 0
      · rw [if_neg (by omega)] at k ⊢; exact three_cmpS.trans _ _ _ h k
      · rw [if_pos e2] at k ⊢; exact k
    · rw [if_pos e1] at h
      by_cases e2 : cmpS b.1 d.1 = 0
      · rw [← three_cmpS.zero _ _ e2, if_pos e1]; exact h
      · rw [if_pos e2] at k
        have := three_cmpS.trans _ _ _ h k
        rw [if_pos (by omega)]; exact this

abbrev cmpBs : List BindD → List BindD → Int := cmpX cmpB
theorem three_cmpBs : Three cmpBs := three_cmpX three_cmpB
abbrev sortB (l : List BindD) : List BindD := sortBy cmpB l

/-- A body's lists: none, if they are too many on the way. -/
def allB (pick : Nat → List FactB) (body : List AtomD) : Option (List (List BindD)) := match metGo pick 0 body [[]] with
  | none => none
  | some ms => some (sortBy cmpBs ((ms.filter fun l => !barredB pick 0 body l).map sortB))

/-- The variables of those that are not Not. -/
def posVars (K : List Bs) (as : List AtomD) : List Bs := as.foldl (fun K a => if a.no then K else varsGo K a.terms) K

theorem posVars_cons (K : List Bs) (a : AtomD) (as : List AtomD) : posVars K (a :: as) = posVars (if a.no then K else varsGo K a.terms) as := rfl

theorem posVars_pre : ∀ (as : List AtomD) (K : List Bs), ∃ r, posVars K as = K ++ r
  | [], K => ⟨[], by simp [posVars]⟩
  | a :: as, K => by
    rw [posVars_cons]
    split
    · exact posVars_pre as K
    · obtain ⟨r1, h1⟩ := varsGo_pre a.terms K
      obtain ⟨r2, h2⟩ := posVars_pre as (varsGo K a.terms)
      exact ⟨r1 ++ r2, by rw [h2, h1, List.append_assoc]⟩

theorem posVars_nodup : ∀ (as : List AtomD) {K : List Bs}, K.Nodup → (posVars K as).Nodup
  | [], _, h => h
  | a :: as, K, h => by
    rw [posVars_cons]
    split
    · exact posVars_nodup as h
    · exact posVars_nodup as (varsGo_nodup _ h)

theorem mem_posVars : ∀ (as : List AtomD) {K : List Bs} {v : Bs}, v ∈ posVars K as ↔ v ∈ K ∨ ∃ a ∈ as, a.no = false ∧ ∃ t ∈ a.terms, t.1 = true ∧ t.2 = v
  | [], K, v => by simp [posVars]
  | a :: as, K, v => by
    rw [posVars_cons, mem_posVars as]
    cases ha : a.no
    · simp only [Bool.false_eq_true, if_false, mem_varsGo, List.mem_cons, exists_eq_or_imp, ha, true_and, or_assoc]
    · simp [ha]

theorem mem_meetAllB {a : AtomD} {fs : List FactB} {ls : List (List BindD)} {m : List BindD} : m ∈ meetAllB a fs ls ↔ ∃ l ∈ ls, ∃ f ∈ fs, meetB a f l = some m := by
  simp [meetAllB, List.mem_flatMap, List.mem_filterMap]

theorem keys_take {m : List BindD} {K r : List Bs} (h : keysB m = (K ++ r).map bs) : keysB (m.take K.length) = K.map bs := by
  unfold keysB at *
  rw [List.map_take, h, List.map_append, List.take_append_of_le_length (by simp), List.take_of_length_le (by simp)]

theorem met_mem (pick : Nat → List FactB) : ∀ (as : List AtomD) (n : Nat) (ls ms : List (List BindD)) (K : List Bs), (∀ l ∈ ls, keysB l = K.map bs) → metGo pick n as ls = some ms →
    ∀ m, m ∈ ms ↔ (∃ l ∈ ls, ∃ r, m = l ++ r) ∧ keysB m = (posVars K as).map bs ∧ ∀ i a, as[i]? = some a → a.no = false → ∃ f ∈ pick (n + i), fillB a m = some f
  | [], n, ls, ms, K, hK, h, m => by
    cases h
    constructor
    · intro hm
      exact ⟨⟨m, hm, [], by simp⟩, hK m hm, fun i a h => by simp at h⟩
    · rintro ⟨⟨l, hl, r, e⟩, hk, _⟩
      have h1 := hK l hl
      have : r = [] := by
        have h2 : (keysB m).length = (keysB l).length := by rw [hk, h1]; simp [posVars]
        rw [e] at h2
        simp [keysB] at h2
        exact h2
      rw [e, this]
      simpa using hl
  | a :: as, n, ls, ms, K, hK, h, m => by
    simp only [metGo] at h
    rw [posVars_cons]
    have shift : (∀ i b, (a :: as)[i]? = some b → b.no = false → ∃ f ∈ pick (n + i), fillB b m = some f) ↔ ((a.no = false → ∃ f ∈ pick n, fillB a m = some f) ∧ ∀ i b, as[i]? = some b → b.no = false → ∃ f ∈ pick (n + 1 + i), fillB b m = some f) := by
      constructor
      · intro H
        refine ⟨H 0 a rfl, fun i b hb => ?_⟩
        have := H (i + 1) b (by simpa using hb)
        rwa [show n + (i + 1) = n + 1 + i by omega] at this
      · rintro ⟨H0, H1⟩ i b hb
        cases i with
        | zero => simp at hb; subst hb; exact H0
        | succ i => have := H1 i b (by simpa using hb); rwa [show n + 1 + i = n + (i + 1) by omega] at this
    rw [shift]
    cases ha : a.no
    · rw [ha] at h
      simp only [Bool.false_eq_true, if_false, true_imp_iff] at h ⊢
      split at h
      · cases h
      · have hK' : ∀ l ∈ meetAllB a (pick n) ls, keysB l = (varsGo K a.terms).map bs := fun l hl => by
          obtain ⟨l0, hl0, f, _, hm⟩ := mem_meetAllB.1 hl
          exact (meetB_ok (hK l0 hl0) hm).2.1
        rw [met_mem pick as (n + 1) _ ms _ hK' h m]
        constructor
        · rintro ⟨⟨l', hl', r, e⟩, hk, hr⟩
          obtain ⟨l, hl, f, hf, hm⟩ := mem_meetAllB.1 hl'
          obtain ⟨⟨r0, e0⟩, _, hfill⟩ := meetB_ok (hK l hl) hm
          exact ⟨⟨l, hl, r0 ++ r, by rw [e, e0, List.append_assoc]⟩, hk, ⟨f, hf, by rw [e]; exact fillB_append hfill⟩, hr⟩
        · rintro ⟨⟨l, hl, r, e⟩, hk, ⟨f, hf, hfill⟩, hr⟩
          obtain ⟨q, hq⟩ := posVars_pre as (varsGo K a.terms)
          rw [hq] at hk
          have hk1 := keys_take hk
          obtain ⟨m1, hm1⟩ : ∃ m1, m1 = m.take (varsGo K a.terms).length := ⟨_, rfl⟩
          rw [← hm1] at hk1
          have hsplit : m = m1 ++ m.drop (varsGo K a.terms).length := by rw [hm1]; exact (List.take_append_drop _ _).symm
          obtain ⟨r0, hr0⟩ := varsGo_pre a.terms K
          have hll : l.length = K.length := by
            have := congrArg List.length (hK l hl)
            simpa [keysB] using this
          have hpre : m1 = l ++ r.take (r0.length) := by
            rw [hm1, e, hr0, List.length_append, ← hll, List.take_length_add_append]
          have hf1 : fillB a m1 = some f := by
            rw [← hfill]
            refine fillB_congr fun t ht htv => ?_
            have hmem : bs t.2 ∈ keysB m1 := by
              rw [hk1]
              exact mem_map_bs.2 ((mem_varsGo _).2 (Or.inr ⟨t, ht, htv, rfl⟩))
            obtain ⟨s, hs⟩ := getB_isSome hmem
            rw [hsplit, getB_append, hs]
          refine ⟨⟨m1, mem_meetAllB.2 ⟨l, hl, f, hf, meetB_of (hK l hl) hpre hk1 hf1⟩, _, hsplit⟩, by rw [hq]; exact hk, hr⟩
    · rw [ha] at h
      simp only [if_true, Bool.true_eq_false, false_imp_iff, true_and] at h ⊢
      exact met_mem pick as (n + 1) ls ms K hK h m

theorem met_nodup (pick : Nat → List FactB) (hp : ∀ i, (pick i).Nodup) : ∀ (as : List AtomD) (n : Nat) (ls ms : List (List BindD)) (K : List Bs), (∀ l ∈ ls, keysB l = K.map bs) → ls.Nodup → metGo pick n as ls = some ms → ms.Nodup
  | [], _, _, _, _, _, hn, h => by cases h; exact hn
  | a :: as, n, ls, ms, K, hK, hn, h => by
    simp only [metGo] at h
    split at h
    · exact met_nodup pick hp as (n + 1) ls ms K hK hn h
    · split at h
      · cases h
      · refine met_nodup pick hp as (n + 1) _ ms (varsGo K a.terms) (fun l hl => ?_) ?_ h
        · obtain ⟨l0, hl0, f, _, hm⟩ := mem_meetAllB.1 hl
          exact (meetB_ok (hK l0 hl0) hm).2.1
        · unfold meetAllB
          rw [List.Nodup, List.pairwise_flatMap]
          refine ⟨fun l hl => ?_, ?_⟩
          · rw [List.pairwise_filterMap]
            refine (hp n).imp fun {f g} hfg x hx y hy e => ?_
            subst e
            have h1 := (meetB_ok (hK l hl) hx).2.2
            rw [(meetB_ok (hK l hl) hy).2.2] at h1
            exact hfg (Option.some.inj h1).symm
          · refine (List.Pairwise.and_mem.1 hn).imp fun {l l'} h3 x hx y hy e => ?_
            obtain ⟨hl, hl', hne⟩ := h3
            subst e
            obtain ⟨f, _, hx⟩ := List.mem_filterMap.1 hx
            obtain ⟨g, _, hy⟩ := List.mem_filterMap.1 hy
            obtain ⟨⟨r, e1⟩, _⟩ := meetB_ok (hK l hl) hx
            obtain ⟨⟨r', e2⟩, _⟩ := meetB_ok (hK l' hl') hy
            have hlen : l.length = l'.length := by
              have := congrArg List.length ((hK l hl).trans (hK l' hl').symm)
              simpa [keysB] using this
            exact hne (List.append_inj (e1.symm.trans e2) hlen).1

end Go.Proofs.YthogickpeldhlaaGreat
