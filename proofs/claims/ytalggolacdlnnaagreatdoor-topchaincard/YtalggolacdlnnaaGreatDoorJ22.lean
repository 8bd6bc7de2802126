/- Texts of this claim, one behind the other. -/
import Derived.Test.YtalggolacdlnnaaGreatDoorJ3
import Derived.Test.YtalggolacdlnnaaGreatDoorJ15
import Derived.Test.YtalggolacdlnnaaGreatDoorJ21
import Derived.Test.YtalggolacdlnnaaGreatDoorJ13
import Derived.Test.YtalggolacdlnnaaGreatDoorJ16
import Derived.BigQuiet
/- What is new of what was new: the document's answer of chapter 6, plain, and what its laws want of it. Nothing of the program. -/
namespace Go.Proofs.YtalggolacdlnnaaGreatDoor

/-- A run. -/
structure RunD where
  known : List FactB
  fresh : List FactB
  level : Int
  rounds : Int
  done : Bool

def noRun : RunD := ⟨[], [], 0, 0, false⟩

/-- What a rule makes, atom by atom that is not Not, behind what was made. -/
def atGo (K N : List FactB) (r : RuleD) : Nat → List AtomD → List FactB → Option (List FactB)
  | _, [], acc => some acc
  | k, a :: l, acc => if a.no then atGo K N r (k + 1) l acc else
    match allB (pickB K k N) r.body with
    | none => none
    | some R => atGo K N r (k + 1) l (acc ++ R.filterMap fun e => fillB r.head e)

def askP (K N : List FactB) (r : RuleD) (acc : List FactB) : Option (List FactB) := if r.body.all (·.no) then
    match headsP r K with
    | none => none
    | some x => some (acc ++ x)
  else atGo K N r 0 r.body acc

def makesGo (K N : List FactB) (st : Int) : List RuleD → List Nat → List FactB → Option (List FactB)
  | [], _, acc => some acc
  | _ :: _, [], acc => some acc
  | r :: p, s :: ss, acc => if (s : Int) = st then
      match askP K N r acc with
      | none => none
      | some acc' => makesGo K N st p ss acc'
    else makesGo K N st p ss acc

/-- What is made, and is not known. -/
def newOf (K acc : List FactB) : List FactB := setF (acc.filter fun f => !inB K f)

/-- One round. -/
def nextP (p : List RuleD) (ss : List Nat) (r : RunD) : Int × RunD := if r.rounds = 1000 then (5, noRun) else
  match makesGo r.known r.fresh r.level p ss [] with
  | none => (4, noRun)
  | some acc => if 200 < (setF (r.known ++ acc)).length then (5, noRun) else
    if newOf r.known acc = [] then (0, ⟨setF (r.known ++ acc), setF (r.known ++ acc), r.level + 1, r.rounds + 1, decide (r.level + 1 = countP ss)⟩)
    else (0, ⟨setF (r.known ++ acc), newOf r.known acc, r.level, r.rounds + 1, false⟩)

/-- So many rounds, or until it is done. -/
def stepsP (p : List RuleD) (ss : List Nat) : Nat → RunD → Int × RunD
  | 0, r => (0, r)
  | n + 1, r => if r.done then (0, r) else if (nextP p ss r).1 ≠ 0 then ((nextP p ss r).1, noRun) else stepsP p ss n (nextP p ss r).2

theorem mem_newOf {K acc : List FactB} {f : FactB} : f ∈ newOf K acc ↔ f ∈ acc ∧ f ∉ K := by
  unfold newOf
  rw [mem_setF, List.mem_filter]
  constructor
  · rintro ⟨h1, h2⟩
    exact ⟨h1, fun h => by rw [inB_iff.2 h] at h2; cases h2⟩
  · rintro ⟨h1, h2⟩
    refine ⟨h1, ?_⟩
    cases h : inB K f
    · rfl
    · exact absurd (inB_iff.1 h) h2

/-- What a rule makes in a round. -/
def Makes (K N : List FactB) (r : RuleD) (f : FactB) : Prop := (r.body.all (·.no) = true ∧ ∃ env, FitsB (fun _ => K) r.body env ∧ fillB r.head env = some f) ∨
  (¬ r.body.all (·.no) = true ∧ ∃ i a env, r.body[i]? = some a ∧ a.no = false ∧ FitsB (pickB K (i : Nat) N) r.body env ∧ fillB r.head env = some f)

theorem at_mem {K N : List FactB} {r : RuleD} : ∀ {l : List AtomD} {k : Nat} {acc S : List FactB}, atGo K N r k l acc = some S → ∀ f, f ∈ S ↔ f ∈ acc ∨ ∃ i a, l[i]? = some a ∧ a.no = false ∧ ∃ R, allB (pickB K ((k + i : Nat) : Int) N) r.body = some R ∧ ∃ e ∈ R, fillB r.head e = some f
  | [], k, acc, S, h, f => by
    simp only [atGo, Option.some.injEq] at h
    subst h
    refine ⟨Or.inl, fun h => h.elim id ?_⟩
    rintro ⟨i, a, h, _⟩
    simp at h
  | a :: l, k, acc, S, h, f => by
    unfold atGo at h
    split at h
    · rename_i hn
      rw [at_mem h f]
      constructor
      · rintro (h | ⟨i, b, h1, h2, h3⟩)
        · exact Or.inl h
        · exact Or.inr ⟨i + 1, b, by simpa using h1, h2, by rw [show k + (i + 1) = k + 1 + i by omega]; exact h3⟩
      · rintro (h | ⟨i, b, h1, h2, h3⟩)
        · exact Or.inl h
        · cases i with
          | zero => simp at h1; subst h1; rw [hn] at h2; cases h2
          | succ i => exact Or.inr ⟨i, b, by simpa using h1, h2, by rw [show k + 1 + i = k + (i + 1) by omega]; exact h3⟩
    · rename_i hn
      split at h
      · cases h
      · rename_i R hR
        rw [at_mem h f, List.mem_append]
        constructor
        · rintro ((h | h) | ⟨i, b, h1, h2, h3⟩)
          · exact Or.inl h
          · obtain ⟨e, he, hf⟩ := List.mem_filterMap.1 h
            exact Or.inr ⟨0, a, rfl, by simpa using hn, R, hR, e, he, hf⟩
          · exact Or.inr ⟨i + 1, b, by simpa using h1, h2, by rw [show k + (i + 1) = k + 1 + i by omega]; exact h3⟩
        · rintro (h | ⟨i, b, h1, h2, h3⟩)
          · exact Or.inl (Or.inl h)
          · cases i with
            | zero =>
              obtain ⟨R', hR', e, he, hf⟩ := h3
              have : R = R' := Option.some.inj (hR.symm.trans hR')
              subst this
              exact Or.inl (Or.inr (List.mem_filterMap.2 ⟨e, he, hf⟩))
            | succ i => exact Or.inr ⟨i, b, by simpa using h1, h2, by rw [show k + 1 + i = k + (i + 1) by omega]; exact h3⟩

theorem at_some {K N : List FactB} {r : RuleD} : ∀ {l : List AtomD} {k : Nat} {acc S : List FactB}, atGo K N r k l acc = some S → ∀ i a, l[i]? = some a → a.no = false → ∃ R, allB (pickB K ((k + i : Nat) : Int) N) r.body = some R
  | [], k, acc, S, h, i, a, hi, _ => by simp at hi
  | a :: l, k, acc, S, h, i, b, hi, hb => by
    unfold atGo at h
    split at h
    · rename_i hn
      cases i with
      | zero => simp at hi; subst hi; rw [hn] at hb; cases hb
      | succ i => rw [show k + (i + 1) = k + 1 + i by omega]; exact at_some h i b (by simpa using hi) hb
    · split at h
      · cases h
      · rename_i R hR
        cases i with
        | zero => exact ⟨R, hR⟩
        | succ i => rw [show k + (i + 1) = k + 1 + i by omega]; exact at_some h i b (by simpa using hi) hb

theorem ask_mem {K N : List FactB} {r : RuleD} (hr : RightR r) {acc S : List FactB} (h : askP K N r acc = some S) (f : FactB) : f ∈ S ↔ f ∈ acc ∨ Makes K N r f := by
  have hc := covers_right hr
  unfold askP at h
  split at h
  · rename_i hno
    split at h
    · cases h
    · rename_i x hx
      simp only [Option.some.injEq] at h
      subst h
      rw [List.mem_append, heads_mem hc hx]
      constructor
      · rintro (h | h)
        · exact Or.inl h
        · exact Or.inr (Or.inl ⟨hno, h⟩)
      · rintro (h | ⟨_, h⟩ | ⟨h, _⟩)
        · exact Or.inl h
        · exact Or.inr h
        · exact absurd hno h
  · rename_i hno
    rw [at_mem h f]
    constructor
    · rintro (h1 | ⟨i, a, h1, h2, R, h3, e, h4, h5⟩)
      · exact Or.inl h1
      · rw [Nat.zero_add] at h3
        exact Or.inr (Or.inr ⟨hno, i, a, e, h1, h2, (all_mem hc h3 e).1 h4, h5⟩)
    · rintro (h1 | ⟨h1, _⟩ | ⟨_, i, a, e, h1, h2, h3, h4⟩)
      · exact Or.inl h1
      · exact absurd h1 hno
      · obtain ⟨R, hR⟩ := at_some h i a h1 h2
        refine Or.inr ⟨i, a, h1, h2, R, hR, e, (all_mem hc hR e).2 ?_, h4⟩
        rw [Nat.zero_add]; exact h3

theorem makes_mem {K N : List FactB} {st : Int} (σ : RuleD → Nat) : ∀ {p : List RuleD} {acc S : List FactB}, (∀ r ∈ p, RightR r) → makesGo K N st p (p.map σ) acc = some S → ∀ f, f ∈ S ↔ f ∈ acc ∨ ∃ r ∈ p, (σ r : Int) = st ∧ Makes K N r f
  | [], acc, S, _, h, f => by
    simp only [makesGo, Option.some.injEq] at h
    subst h
    simp
  | r :: p, acc, S, hp, h, f => by
    simp only [makesGo, List.map_cons] at h
    split at h
    · rename_i hs
      split at h
      · cases h
      · rename_i acc' ha
        rw [makes_mem σ (fun q hq => hp q (by simp [hq])) h f, ask_mem (hp r (by simp)) ha]
        simp only [List.mem_cons, exists_eq_or_imp]
        constructor
        · rintro ((h | h) | h)
          · exact Or.inl h
          · exact Or.inr (Or.inl ⟨hs, h⟩)
          · exact Or.inr (Or.inr h)
        · rintro (h | ⟨_, h⟩ | h)
          · exact Or.inl (Or.inl h)
          · exact Or.inl (Or.inr h)
          · exact Or.inr h
    · rename_i hs
      rw [makes_mem σ (fun q hq => hp q (by simp [hq])) h f]
      simp only [List.mem_cons, exists_eq_or_imp]
      constructor
      · rintro (h | h)
        · exact Or.inl h
        · exact Or.inr (Or.inr h)
      · rintro (h | ⟨h, _⟩ | h)
        · exact Or.inl h
        · exact absurd h hs
        · exact Or.inr h

theorem fits_wide {K N : List FactB} {body : List AtomD} {env : List BindD} (hs : ∀ f ∈ N, f ∈ K) {i : Nat} {a : AtomD} (hi : body[i]? = some a) (ha : a.no = false) (h : FitsB (pickB K (i : Nat) N) body env) : FitsB (fun _ => K) body env := by
  refine ⟨h.1, h.2.1, h.2.2.1, fun j b hj => ?_⟩
  obtain ⟨f, hf, hb⟩ := h.2.2.2 j b hj
  refine ⟨f, hf, ?_⟩
  unfold pickB at hb
  split at hb
  · rename_i e
    have e : j = i := by omega
    subst e
    rw [hi] at hj
    cases hj
    rw [ha] at hb ⊢
    exact inB_iff.2 (hs f (inB_iff.1 hb))
  · exact hb

theorem fits_new {K N : List FactB} {body : List AtomD} {env : List BindD} {i : Nat} {a : AtomD} (hi : body[i]? = some a) (ha : a.no = false) (h : FitsB (fun _ => K) body env) {g : FactB} (hg : fillB a env = some g) (hN : g ∈ N) : FitsB (pickB K (i : Nat) N) body env := by
  refine ⟨h.1, h.2.1, h.2.2.1, fun j b hj => ?_⟩
  obtain ⟨f, hf, hb⟩ := h.2.2.2 j b hj
  refine ⟨f, hf, ?_⟩
  unfold pickB
  split
  · rename_i e
    have e : j = i := by omega
    subst e
    rw [hi] at hj
    cases hj
    rw [hg] at hf
    cases hf
    rw [ha, inB_iff.2 hN]; rfl
  · exact hb

theorem makes_fits {K N : List FactB} {r : RuleD} {f : FactB} (hs : ∀ f ∈ N, f ∈ K) (h : Makes K N r f) : ∃ env, FitsB (fun _ => K) r.body env ∧ fillB r.head env = some f := by
  rcases h with ⟨_, h⟩ | ⟨_, i, a, env, h1, h2, h3, h4⟩
  · exact h
  · exact ⟨env, fits_wide hs h1 h2 h3, h4⟩

/-- All that a rule makes of what is known is known, or is made of what is new. -/
def Semi (K N : List FactB) (r : RuleD) : Prop := ∀ env f, FitsB (fun _ => K) r.body env → fillB r.head env = some f → f ∈ K ∨ Makes K N r f

/-- Where a body has a fact that is new, its head is made. -/
theorem makes_new {K N : List FactB} {r : RuleD} {env : List BindD} {f : FactB} (hf : FitsB (fun _ => K) r.body env) (hh : fillB r.head env = some f) (h : ∃ a ∈ r.body, a.no = false ∧ ∃ g, fillB a env = some g ∧ g ∈ N) : Makes K N r f := by
  obtain ⟨a, ha, hn, g, hg, hN⟩ := h
  obtain ⟨i, hi⟩ := List.getElem?_of_mem ha
  refine Or.inr ⟨fun hall => ?_, i, a, env, hi, hn, fits_new hi hn hf hg hN, hh⟩
  have := List.all_eq_true.1 hall a ha
  rw [hn] at this
  cases this

theorem semi_all (K : List FactB) (r : RuleD) : Semi K K r := fun env f hf hh => by
  by_cases h : r.body.all (·.no) = true
  · exact Or.inr (Or.inl ⟨h, env, hf, hh⟩)
  · refine Or.inr ?_
    obtain ⟨a, ha, hn⟩ : ∃ a ∈ r.body, a.no = false := by
      refine Classical.byContradiction fun hx => h (List.all_eq_true.2 fun a ha => ?_)
      cases e : a.no
      · exact absurd ⟨a, ha, e⟩ hx
      · rfl
    obtain ⟨i, hi⟩ := List.getElem?_of_mem ha
    obtain ⟨g, hg, hb⟩ := hf.2.2.2 i a hi
    rw [hn] at hb
    exact makes_new hf hh ⟨a, ha, hn, g, hg, inB_iff.1 hb⟩

/-- What is new of what was new. -/
theorem semi_next {K N K' : List FactB} {r : RuleD} (hK : ∀ f ∈ K, f ∈ K') (hs : Semi K N r) (hm : ∀ f, Makes K N r f → f ∈ K') {N' : List FactB} (hN : ∀ f ∈ K', f ∉ K → f ∈ N') : Semi K' N' r := fun env f hf hh => by
  by_cases h : ∃ a ∈ r.body, a.no = false ∧ ∃ g, fillB a env = some g ∧ g ∈ N'
  · exact Or.inr (makes_new hf hh h)
  · have hfK : FitsB (fun _ => K) r.body env := by
      refine ⟨hf.1, hf.2.1, hf.2.2.1, fun j b hj => ?_⟩
      obtain ⟨g, hg, hb⟩ := hf.2.2.2 j b hj
      refine ⟨g, hg, ?_⟩
      have hbm := getElem_mem' hj
      cases hn : b.no
      · rw [hn] at hb
        have hgK' := inB_iff.1 hb
        by_cases hgK : g ∈ K
        · rw [inB_iff.2 hgK]; rfl
        · exact absurd ⟨b, hbm, hn, g, hg, hN g hgK' hgK⟩ h
      · rw [hn] at hb
        cases hi : inB K g
        · rfl
        · have := inB_iff.2 (hK g (inB_iff.1 hi))
          rw [this] at hb
          cases hb
    rcases hs env f hfK hh with h1 | h1
    · exact Or.inl (hK f h1)
    · exact Or.inl (hm f h1)

/-- A run with which nothing is wrong. -/
structure RightN (p : List RuleD) (c : Nat) (r : RunD) : Prop where
  good : GoodS p r.known
  up : Up r.fresh
  sub : ∀ f ∈ r.fresh, f ∈ r.known
  lev : 0 ≤ r.level ∧ r.level ≤ c
  rnd : 0 ≤ r.rounds ∧ r.rounds ≤ 1000
  done : r.done = decide (r.level = c)

theorem right_begin {p : List RuleD} {c : Nat} {l : List FactB} (h : GoodS p l) : RightN p c ⟨l, l, 0, 0, decide (c = 0)⟩ :=
  ⟨h, h.up, fun _ h => h, ⟨Int.le_refl _, by simp⟩, ⟨Int.le_refl _, by simp⟩, by
    simp only [decide_eq_decide]
    omega⟩

/-- What a round makes is right. -/
theorem makes_good {p : List RuleD} (hp : RightP p) (σ : RuleD → Nat) {K N : List FactB} {st : Int} (hK : GoodS p K) (hN : ∀ f ∈ N, f ∈ K) {M : List FactB} (h : makesGo K N st p (p.map σ) [] = some M) : ∀ f ∈ M, RightF f ∧ fitF p f = true := fun f hf => by
  rcases (makes_mem σ hp.rules h f).1 hf with h1 | ⟨r, hr, _, hm⟩
  · cases h1
  · obtain ⟨env, he, hh⟩ := makes_fits hN hm
    obtain ⟨a, b, c⟩ := head_right (hp.rules r hr) hK.right he hh
    exact ⟨a, head_fit hp hr b c⟩

theorem known_good {p : List RuleD} {K M : List FactB} (hK : GoodS p K) (hM : ∀ f ∈ M, RightF f ∧ fitF p f = true) (hl : (setF (K ++ M)).length ≤ 200) : GoodS p (setF (K ++ M)) := by
  have key : ∀ f ∈ setF (K ++ M), RightF f ∧ fitF p f = true := fun f hf => by
    rcases List.mem_append.1 (mem_setF.1 hf) with h | h
    · exact ⟨hK.right f h, hK.fit f h⟩
    · exact hM f h
  exact ⟨setF_up _, fun f hf => (key f hf).1, hl, fun f hf => (key f hf).2⟩

theorem new_nil {K M : List FactB} (hK : Up K) : newOf K M = [] ↔ setF (K ++ M) = K := by
  constructor
  · intro h
    refine (setF_of hK fun f => ?_).symm
    rw [List.mem_append]
    refine ⟨Or.inl, fun h1 => h1.elim id fun h1 => Classical.byContradiction fun hn => ?_⟩
    have := mem_newOf.2 ⟨h1, hn⟩
    rw [h] at this
    cases this
  · intro h
    refine List.eq_nil_iff_forall_not_mem.2 fun f hf => ?_
    obtain ⟨h1, h2⟩ := mem_newOf.1 hf
    exact h2 (h ▸ mem_setF.2 (List.mem_append.2 (Or.inr h1)))

/-- How a round ends. -/
theorem next_ok {p : List RuleD} {ss : List Nat} {r x : RunD} (h : nextP p ss r = (0, x)) : r.rounds ≠ 1000 ∧ ∃ M, makesGo r.known r.fresh r.level p ss [] = some M ∧ (setF (r.known ++ M)).length ≤ 200 ∧
    ((newOf r.known M = [] ∧ x = ⟨setF (r.known ++ M), setF (r.known ++ M), r.level + 1, r.rounds + 1, decide (r.level + 1 = countP ss)⟩) ∨ (newOf r.known M ≠ [] ∧ x = ⟨setF (r.known ++ M), newOf r.known M, r.level, r.rounds + 1, false⟩)) := by
  unfold nextP at h
  split at h
  · simp at h
  · rename_i hr
    split at h
    · simp at h
    · rename_i M hM
      split at h
      · simp at h
      · rename_i hl
        split at h
        · rename_i hn
          simp only [Prod.mk.injEq, true_and] at h
          exact ⟨hr, M, hM, by omega, Or.inl ⟨hn, h.symm⟩⟩
        · rename_i hn
          simp only [Prod.mk.injEq, true_and] at h
          exact ⟨hr, M, hM, by omega, Or.inr ⟨hn, h.symm⟩⟩

theorem next_err {p : List RuleD} {ss : List Nat} {r : RunD} : (nextP p ss r).1 = 0 ∨ nextP p ss r = (4, noRun) ∨ nextP p ss r = (5, noRun) := by
  unfold nextP
  split
  · exact Or.inr (Or.inr rfl)
  · split
    · exact Or.inr (Or.inl rfl)
    · split
      · exact Or.inr (Or.inr rfl)
      · split <;> exact Or.inl rfl

theorem next_right {p : List RuleD} (hp : RightP p) (σ : RuleD → Nat) {r x : RunD} (hr : RightN p (countP (p.map σ)) r) (hd : r.done = false) (h : nextP p (p.map σ) r = (0, x)) :
    RightN p (countP (p.map σ)) x ∧ (∀ f ∈ r.known, f ∈ x.known) ∧ x.rounds = r.rounds + 1 ∧ ((x.level = r.level ∧ r.known.length < x.known.length) ∨ (x.level = r.level + 1 ∧ x.known = r.known)) := by
  obtain ⟨h0, M, hM, hl, hx⟩ := next_ok h
  have hg := known_good hr.good (makes_good hp σ hr.good hr.sub hM) hl
  have hsub : ∀ f ∈ r.known, f ∈ setF (r.known ++ M) := fun f hf => mem_setF.2 (List.mem_append.2 (Or.inl hf))
  have hdn := hr.done
  rw [hd] at hdn
  have hdn : r.level ≠ countP (p.map σ) := by simpa using hdn.symm
  have hlev := hr.lev
  have hrnd := hr.rnd
  rcases hx with ⟨hn, rfl⟩ | ⟨hn, rfl⟩
  · refine ⟨⟨hg, setF_up _, fun _ h => h, ⟨?_, ?_⟩, ⟨?_, ?_⟩, rfl⟩, hsub, rfl, Or.inr ⟨rfl, (new_nil hr.good.up).1 hn⟩⟩ <;> dsimp only <;> omega
  · refine ⟨⟨hg, setF_up _, fun f hf => mem_setF.2 (List.mem_append.2 (Or.inr (mem_newOf.1 hf).1)), ⟨?_, ?_⟩, ⟨?_, ?_⟩, ?_⟩, hsub, rfl, Or.inl ⟨rfl, ?_⟩⟩
    · dsimp only; omega
    · dsimp only; omega
    · dsimp only; omega
    · dsimp only; omega
    · simp [hdn]
    · have h1 := up_le hr.good.up hsub
      refine Classical.byContradiction fun h2 => hn ((new_nil hr.good.up).2 (up_same hr.good.up (setF_up _) hsub (by dsimp only at h2; omega)).symm)

/-! ### stopped, and gone on with -/

theorem steps_done {p : List RuleD} {ss : List Nat} {r : RunD} (h : r.done = true) : ∀ n, stepsP p ss n r = (0, r)
  | 0 => rfl
  | n + 1 => by unfold stepsP; rw [if_pos h]

theorem steps_next {p : List RuleD} {ss : List Nat} {r : RunD} (h : r.done = false) (n : Nat) : stepsP p ss (n + 1) r = if (nextP p ss r).1 ≠ 0 then ((nextP p ss r).1, noRun) else stepsP p ss n (nextP p ss r).2 := by
  rw [stepsP, if_neg (by simp [h])]

theorem steps_add {p : List RuleD} {ss : List Nat} : ∀ (n m : Nat) (r : RunD), (stepsP p ss n r).1 = 0 → stepsP p ss (n + m) r = stepsP p ss m (stepsP p ss n r).2
  | 0, m, r, _ => by rw [Nat.zero_add]; rfl
  | n + 1, m, r, h => by
    rw [show n + 1 + m = n + m + 1 by omega]
    by_cases hd : r.done = true
    · rw [steps_done hd, steps_done hd, steps_done hd]
    · have hd : r.done = false := by simpa using hd
      rw [steps_next hd] at h ⊢
      rw [steps_next hd]
      split
      · rename_i he
        rw [if_pos he] at h
        exact absurd h he
      · rename_i he
        rw [if_neg he] at h
        exact steps_add n m _ h

theorem steps_right {p : List RuleD} (hp : RightP p) (σ : RuleD → Nat) : ∀ (n : Nat) {r x : RunD}, RightN p (countP (p.map σ)) r → stepsP p (p.map σ) n r = (0, x) → RightN p (countP (p.map σ)) x
  | 0, r, x, hr, h => by simp [stepsP] at h; subst h; exact hr
  | n + 1, r, x, hr, h => by
    unfold stepsP at h
    split at h
    · simp at h; subst h; exact hr
    · rename_i hd
      split at h
      · rename_i he; simp at h; exact absurd h.1 he
      · rename_i he
        have hn : nextP p (p.map σ) r = (0, (nextP p (p.map σ) r).2) := by rw [← Classical.byContradiction fun h : ¬ (nextP p (p.map σ) r).1 = 0 => he h]
        exact steps_right hp σ n (next_right hp σ hr (by simpa using hd) hn).1 h

theorem steps_err {p : List RuleD} {ss : List Nat} : ∀ (n : Nat) (r : RunD), (stepsP p ss n r).1 = 0 ∨ stepsP p ss n r = (4, noRun) ∨ stepsP p ss n r = (5, noRun)
  | 0, r => Or.inl rfl
  | n + 1, r => by
    unfold stepsP
    split
    · exact Or.inl rfl
    · split
      · rename_i he
        rcases next_err (p := p) (ss := ss) (r := r) with h | h | h
        · exact absurd h he
        · rw [h]; exact Or.inr (Or.inl rfl)
        · rw [h]; exact Or.inr (Or.inr rfl)
      · exact steps_err n _

/-- Each run ends. -/
theorem steps_end {p : List RuleD} (hp : RightP p) (σ : RuleD → Nat) : ∀ (n : Nat) {r x : RunD}, RightN p (countP (p.map σ)) r → (200 : Int) - r.known.length + (countP (p.map σ) - r.level) ≤ n → stepsP p (p.map σ) n r = (0, x) → x.done = true
  | 0, r, x, hr, hn, h => by
    simp [stepsP] at h
    subst h
    have := hr.good.few
    have := hr.lev
    rw [hr.done]
    simp only [decide_eq_true_eq]
    omega
  | n + 1, r, x, hr, hn, h => by
    unfold stepsP at h
    split at h
    · rename_i hd; simp at h; subst h; exact hd
    · rename_i hd
      split at h
      · rename_i he; simp at h; exact absurd h.1 he
      · rename_i he
        have hn' : nextP p (p.map σ) r = (0, (nextP p (p.map σ) r).2) := by rw [← Classical.byContradiction fun h : ¬ (nextP p (p.map σ) r).1 = 0 => he h]
        obtain ⟨h1, h2, h3, h4⟩ := next_right hp σ hr (by simpa using hd) hn'
        refine steps_end hp σ n h1 ?_ h
        rcases h4 with ⟨h4, h5⟩ | ⟨h4, h5⟩
        · omega
        · rw [h5]; omega

end Go.Proofs.YtalggolacdlnnaaGreatDoor

/- The walks of round's filled, making.add and the closure of making.ask. -/
namespace Go.Proofs.YtalggolacdlnnaaGreatDoor
open Go.RowKit Go.Sort Go.Maps

theorem OwnF.stay {base : Nat} {w w' : World} {v : Value} {l : List FactD} (h : OwnF w base v l) (hs : w.heap.size ≤ w'.heap.size) (hk : ∀ k, k < w.heap.size → base ≤ k → w'.heap[k]? = w.heap[k]?) : OwnF w' base v l := by
  obtain ⟨xs, ho, hx⟩ := h
  refine ⟨xs, ⟨ho.1, ?_⟩, fun i hi' => ?_⟩
  · rcases ho.2 with e | ⟨g, cap, cur, rfl, hbg, hg, r⟩
    · exact Or.inl e
    · exact Or.inr ⟨g, cap, cur, rfl, hbg, by rw [hk g (Array.getElem?_eq_some_iff.1 hg).1 hbg]; exact hg, r⟩
  · obtain ⟨c1, s, c2, c3, c4⟩ := hx i hi'
    exact ⟨c1, s, c2, c3.kept' hs fun j hj e => hk j hj (c4 j e).1, fun j e => ⟨(c4 j e).1, Nat.lt_of_lt_of_le (c4 j e).2.1 hs, (c4 j e).2.2⟩⟩

theorem OwnF.lt {base : Nat} {w : World} {v : Value} {l : List FactD} (h : OwnF w base v l) {k : Nat} (hk : v.ownBlock = some k) : base ≤ k ∧ k < w.heap.size := by
  obtain ⟨xs, ho, _⟩ := h; exact ho.lt k hk

theorem OwnF.slice {base : Nat} {w : World} {v : Value} {l : List FactD} (h : OwnF w base v l) : ∃ a cap, v = .slice a l.length cap := by
  obtain ⟨xs, ho, _⟩ := h
  rcases ho.2 with ⟨rfl, e⟩ | ⟨g, cap, cur, rfl, _⟩
  · exact ⟨none, 0, by rw [e]⟩
  · exact ⟨_, cap, rfl⟩

set_option maxHeartbeats 400000 in
theorem ask1 (a : AtomD) (ta : Option Addr) (tn tc : Nat) (w : World) :
    Calls Tryz.prog 96 #[.agg #[.bool a.no, .string (bs a.name), .slice ta tn tc]] w fun e w' => e = .returned (.bool (!a.no)) ∧ Later w w' := by
  obtain ⟨no, n, x⟩ := a
  dsimp only
  generalize bs n = s at *
  go_enter Tryz.func96, Tryz.ntmps96
  go_wp2
  go_ret
  exact ⟨rfl, (Later.refl _).alloc _⟩

set_option maxHeartbeats 1000000 in
/-- slices.IndexFunc at atoms: at or above 0 just where one is not Not. -/
theorem indexAtom (v : Value) (l : List AtomD) (w : World) (hv : atomK.sl Anyw w v l) :
    Calls Tryz.prog 126 #[v, .func (.func 96) #[] #[]] w fun e w' => ∃ n : Int, e = .returned (.int .i64 n) ∧ decide (0 ≤ n) = l.any (fun a => !a.no) ∧ Later w w' := by
  obtain ⟨a, cap, rfl⟩ := Kind.slice hv
  have HV := hide hv
  have hl := hv.1.1
  clear hv
  go_enter Tryz.func126, Tryz.ntmps126
  go_wp2
  go_loopg [8] l.length (fun k i wr => ∃ j : Nat, j + k = l.length ∧ i = .int .i64 j ∧ Hid (Later w wr) ∧ Hid (l.any (fun a => !a.no) = (l.drop j).any (fun a => !a.no)))
  case atStart => exact ⟨0, by omega, rfl, Later.refl _, (rfl : _ = _)⟩
  case round =>
    obtain ⟨j, hj, rfl, HL, HF⟩ := hrel
    by_cases hlt : j < l.length
    · obtain ⟨x, hx⟩ : ∃ x, l[j]? = some x := ⟨_, List.getElem?_eq_getElem hlt⟩
      obtain ⟨b1, o1, _, rfl, hb1, ⟨tv, rfl, htv⟩, hc⟩ := Kind.sl_at HV.out hx
      obtain ⟨ta, tc, rfl⟩ := Kind.slice htv
      have d0 : wr.cell? ⟨b1, o1 + j * 3, none⟩ = some (.bool x.no) := by rw [HL.out.cell hb1]; exact hc 0 _ rfl
      have d1 : wr.cell? ⟨b1, o1 + j * 3 + 1, none⟩ = some (.string (bs x.name)) := by rw [HL.out.cell hb1]; exact hc 1 _ rfl
      have d2 : wr.cell? ⟨b1, o1 + j * 3 + 2, none⟩ = some (.slice ta x.terms.length tc) := by rw [HL.out.cell hb1]; exact hc 2 _ rfl
      have HC := hide (ask1 x ta x.terms.length tc wr)
      have hd := any_step hx (fun a => !a.no)
      clear hc hx htv
      cases hf : x.no
      · have F : Hid (l.any (fun a => !a.no) = true) := by show _ = _; rw [HF.out, hd, hf]; rfl
        rw [hf] at HC d0
        clear hd HF hf
        generalize bs x.name = nm at *
        go_wp2_with (go_at_call 96; refine HC.out.mono ?_; rintro e w' ⟨rfl, hL⟩; replace hL := hide hL)
        go_ret
        exact ⟨_, rfl, by rw [F.out]; simp, HL.out.trans (unhide hL)⟩
      · have F : Hid (l.any (fun a => !a.no) = (l.drop (j + 1)).any (fun a => !a.no)) := by show _ = _; rw [HF.out, hd, hf]; rfl
        rw [hf] at HC d0
        clear hd HF hf
        generalize bs x.name = nm at *
        go_wp2_with (go_at_call 96; refine HC.out.mono ?_; rintro e w' ⟨rfl, hL⟩; replace hL := hide hL)
        go_roundg (l.length - (j + 1))
        case measure => omega
        case rel => exact ⟨j + 1, by omega, by go_num, HL.out.trans (unhide hL), F⟩
    · have F : Hid (l.any (fun a => !a.no) = false) := by show _ = _; rw [HF.out, List.drop_eq_nil_of_le (by omega)]; rfl
      go_wp2
      go_ret
      exact ⟨_, rfl, by rw [F.out]; simp, HL.out⟩

set_option maxHeartbeats 400000 in
theorem containsAtom (v : Value) (l : List AtomD) (w : World) (hv : atomK.sl Anyw w v l) :
    Calls Tryz.prog 95 #[v, .func (.func 96) #[] #[]] w fun e w' => e = .returned (.bool (l.any fun a => !a.no)) ∧ Later w w' := by
  have HI := hide (indexAtom v l w hv)
  obtain ⟨a, cap, rfl⟩ := Kind.slice hv
  clear hv
  go_enter Tryz.func95, Tryz.ntmps95
  go_wp2_with (go_at_call 126; refine HI.out.mono ?_; rintro e w' ⟨n, rfl, hn, hL⟩; replace hn := hide hn; replace hL := hide hL)
  go_ret
  exact ⟨ret_bool (unhide hn), unhide hL⟩

set_option maxRecDepth 100000 in
set_option maxHeartbeats 2000000 in
theorem filledC (head : AtomD) (tv rv : Value) (R : List (List BindD)) (w : World) (ht : termK.sl Anyw w tv head.terms) (hr : listK.sl Anyw w rv R) (hn : R.length ≤ 20000) :
    Calls Tryz.prog 99 #[.agg #[.bool head.no, .string (bs head.name), tv], rv] w fun e w' => ∃ v', e = .returned v' ∧ OwnF w' w.heap.size v' (R.filterMap fun l => fillB head l) ∧ Later w w' := by
  obtain ⟨ta, tc, rfl⟩ := Kind.slice ht
  obtain ⟨ra, rc, rfl⟩ := Kind.slice hr
  have HT := hide ht
  have HRL := hide hr
  clear ht hr
  have HL0 : Hid (Later w (w.alloc (.cells #[.bool head.no, .string (bs head.name), .slice ta head.terms.length tc] 50))) := (Later.refl w).alloc _
  have HB0 : Hid ((w.alloc (.cells #[.bool head.no, .string (bs head.name), .slice ta head.terms.length tc] 50)).heap[w.heap.size]? = some (.cells #[.bool head.no, .string (bs head.name), .slice ta head.terms.length tc] 50 (0, 0))) := heap_alloc_new w _
  go_enter Tryz.func99, Tryz.ntmps99
  go_wp2
  go_loopg [5, 12] R.length (fun g v i wr => ∃ j : Nat, j + g = R.length ∧ i = .int .i64 j ∧ ∃ D, Hid (D = (R.take j).filterMap fun l => fillB head l) ∧ Hid (OwnF wr (w.heap.size + 1) v D) ∧ Hid (D.length ≤ j) ∧ Hid (Later w wr) ∧ w.heap.size < wr.heap.size ∧
    Hid (wr.heap[w.heap.size]? = some (.cells #[.bool head.no, .string (bs head.name), .slice ta head.terms.length tc] 50 (0, 0))))
  case atStart => exact ⟨0, by omega, rfl, [], (rfl : _ = _), OwnF.nil _ _, (Nat.le_refl _ : _ ≤ _), HL0, by simp, HB0⟩
  case round =>
    clear HL0 HB0
    obtain ⟨j, hj, rfl, D, HD, HO, HDl, HL, hsz, HB⟩ := hrel
    obtain ⟨va, vc, rfl⟩ := HO.out.slice
    by_cases hlt : j < R.length
    · obtain ⟨l, hx⟩ : ∃ x, R[j]? = some x := ⟨_, List.getElem?_eq_getElem hlt⟩
      obtain ⟨b1, o1, _, rfl, hb1, ⟨lv, rfl, hlv⟩, hc⟩ := Kind.sl_at HRL.out hx
      have d0 : wr.cell? ⟨b1, o1 + j, none⟩ = some lv := by rw [HL.out.cell (p := ⟨b1, o1 + j, none⟩) hb1]; simpa [slK] using hc 0 _ rfl
      have HLV := hide hlv
      obtain ⟨la, lc, rfl⟩ := Kind.slice hlv
      have hrr := HB.out
      have r0 : wr.cell? ⟨w.heap.size, 0, none⟩ = some (.bool head.no) := by rw [cell_of_row _ _ _ _ _ _ hrr]; rfl
      have r1 : wr.cell? ⟨w.heap.size, 0 + 1, none⟩ = some (.string (bs head.name)) := by rw [cell_of_row _ _ _ _ _ _ hrr]; rfl
      have r2 : wr.cell? ⟨w.heap.size, 0 + 2, none⟩ = some (.slice ta head.terms.length tc) := by rw [cell_of_row _ _ _ _ _ _ hrr]; rfl
      have HFc := hide (fillL head _ (.slice la l.length lc) l wr (Kind.sl_later HT.out HL.out) (Kind.sl_later HLV.out HL.out))
      have htk : R.take (j + 1) = R.take j ++ [l] := by rw [List.take_add_one, hx]; rfl
      unfold filled at HFc
      clear hc hx hlv hrr
      cases hfl : fillB head l with
      | none =>
        rw [hfl] at HFc
        have HD' : Hid (D = (R.take (j + 1)).filterMap fun l => fillB head l) := by
          show _ = _
          rw [htk, List.filterMap_append, HD.out]
          simp only [List.filterMap_cons, hfl, List.filterMap_nil, List.append_nil]
        clear hfl htk
        generalize bs head.name = nm at *
        generalize head.no = no at *
        go_wp2_with fail
        refine HFc.out.mono ?_
        rintro e w3 ⟨f3, rfl, hfv, hL3, _⟩
        obtain ⟨s, rfl, hs⟩ := hfv
        obtain ⟨sA', sC', rfl⟩ := sliceStr hs
        simp only [Option.isSome_none]
        have HL3 : Hid (Later wr w3) := hL3
        clear hs hL3
        go_wp2
        go_roundg (R.length - (j + 1))
        case measure => omega
        case rel => exact ⟨j + 1, by omega, by go_num, D, HD', HO.out.later (HL3.out.alloc _), (Nat.le_succ_of_le HDl.out : _ ≤ _), HL.out.trans (HL3.out.alloc _), by have := (HL3.out.alloc (.cells #[.string ByteArray.empty, .slice sA' 0 sC'] 26)).size; have := HL3.out.size; simp; omega, by show _ = _; rw [(HL3.out.alloc _).block hsz]; exact HB.out⟩
      | some f =>
        rw [hfl] at HFc
        have HD' : Hid (D ++ [f] = (R.take (j + 1)).filterMap fun l => fillB head l) := by
          show _ = _
          rw [htk, List.filterMap_append, HD.out]
          simp only [List.filterMap_cons, hfl, List.filterMap_nil]
        clear hfl htk
        generalize bs head.name = nm at *
        generalize head.no = no at *
        go_wp2_with fail
        refine HFc.out.mono ?_
        rintro e w3 ⟨f3, rfl, hfv, hL3, hfar⟩
        simp only [Option.isSome_some, Option.getD_some] at hfv ⊢
        obtain ⟨s, rfl, hs⟩ := hfv
        obtain ⟨_, s', es, hfar⟩ := hfar
        simp only [Value.agg.injEq, Array.mk.injEq, List.cons.injEq, and_true] at es
        obtain ⟨rfl, rfl⟩ := es
        obtain ⟨sA', sC', rfl⟩ := sliceStr hs
        obtain ⟨fn, fargs⟩ := f
        dsimp only at *
        obtain ⟨w4, hw4⟩ : ∃ w4, w4 = w3.alloc (.cells #[.string fn, .slice sA' fargs.length sC'] 26) := ⟨_, rfl⟩
        have hL4 : Later w3 w4 := by rw [hw4]; exact (Later.refl _).alloc _
        have hr4 : w4.heap[w3.heap.size]? = some (.cells #[.string fn, .slice sA' fargs.length sC'] 26 (0, 0)) := by rw [hw4]; exact heap_alloc_new _ _
        have hz4 : w4.heap.size = w3.heap.size + 1 := by rw [hw4]; simp
        have hL04 : Later w w4 := HL.out.trans (hL3.trans hL4)
        have hO4 : OwnF w4 (w.heap.size + 1) (.slice va D.length vc) D := HO.out.later (hL3.trans hL4)
        obtain ⟨v5, w5, hrun, hO5, hg5, hd5⟩ := hO4.append (fn, fargs) (.slice sA' fargs.length sC') (hs.later hL4) (fun k e => by
          have h1 := hfar k e
          refine ⟨by omega, by omega, fun e' => ?_⟩
          have h2 := (HO.out.lt e').2
          omega) (by have := HDl.out; omega) (by have := hL3.size; omega) rfl
        have HL5 : Hid (Later w w5) := hL04.more hg5 hd5 fun k e => by have := (HO.out.lt e).1; omega
        have HO5 := hide hO5
        have hz3 := hL3.size
        have hz5 : w.heap.size < w5.heap.size := by have := hg5.size; rw [World.size_alloc] at this; omega
        have HB5 : Hid (w5.heap[w.heap.size]? = some (.cells #[.bool no, .string nm, .slice ta head.terms.length tc] 50 (0, 0))) := by
          show _ = _
          rw [hg5.block _ (by rw [World.size_alloc]; omega) (fun e => by have := (HO.out.lt e.symm).1; omega), Below.heap_alloc _ _ _ (by omega), hL4.block (by omega), hL3.block hsz]
          exact HB.out
        rw [hz4, hw4] at hrun
        have HR5 := hide hrun
        obtain ⟨a5, c5, rfl⟩ := hO5.slice
        rw [List.length_append] at HO5
        clear hL3 hfar hs hw4 hL4 hr4 hz4 hL04 hO4 hO5 hrun hg5 hd5 HFc
        go_wp2_with (at_builtin; refine wpList_append_run rfl (.tmp 23) (.tmp 25) 23 rfl _ _ _ _ rfl rfl HR5.out ?_)
        go_roundg (R.length - (j + 1))
        case measure => omega
        case rel => exact ⟨j + 1, by omega, by go_num, D ++ [(fn, fargs)], HD', HO5, (by have := HDl.out; simp; omega : (D ++ [(fn, fargs)]).length ≤ j + 1), HL5, hz5, HB5⟩
    · have hj' : j = R.length := by omega
      subst hj'
      rw [List.take_length] at HD
      go_wp2
      go_ret
      exact ⟨_, rfl, HD.out ▸ HO.out.base (Nat.le_succ _), HL.out⟩

/-! ### what is being made -/

/-- The box of what is being made, at block mb: what is known, what is new, and what was made: of the call's own. -/
def MkB (mb : Nat) (kv nv : Value) (D : List FactB) (w : World) : Prop := ∃ dv, w.heap[mb]? = some (.cells #[kv, nv, dv] 110 (0, 0)) ∧ OwnF w (mb + 1) dv D

theorem MkB.below {mb : Nat} {kv nv : Value} {D : List FactB} {w w' : World} (h : MkB mb kv nv D w) (k : Below w.heap.size w w') : MkB mb kv nv D w' := by
  obtain ⟨dv, h1, h2⟩ := h
  exact ⟨dv, (k.block _ (Array.getElem?_eq_some_iff.1 h1).1).trans h1, h2.stay k.size fun j hj _ => k.block j hj⟩

theorem MkB.drewN {mb : Nat} {kv nv : Value} {D : List FactB} {w : World} (h : MkB mb kv nv D w) (q : Nat) : MkB mb kv nv D (w.drewN q) := h.below ⟨rfl, rfl, rfl, Nat.le_refl _, fun _ _ => rfl⟩

theorem belowN {n : Nat} {a b : World} (h : Below n a b) (q : Nat) : Below n a (b.drewN q) := ⟨h.os, h.tape, h.output, h.size, h.block⟩

theorem MkB.lt {mb : Nat} {kv nv : Value} {D : List FactB} {w : World} (h : MkB mb kv nv D w) : mb < w.heap.size := by
  obtain ⟨dv, h1, _⟩ := h; exact (Array.getElem?_eq_some_iff.1 h1).1

/-- What is made is put to it, where there are not too many. -/
def addD (K D L : List FactB) : List FactB := if K.length + D.length ≤ 200 then setF (D ++ L.filter fun f => !inB K f) else D

/-- What has been made so far, of all that might. -/
structure Mades (K D acc : List FactB) : Prop where
  up : Up D
  of : ∀ f ∈ D, f ∈ acc ∧ f ∉ K
  all : K.length + D.length ≤ 200 → ∀ f ∈ acc, f ∉ K → f ∈ D
  few : D.length ≤ 20400

theorem Mades.nil (K : List FactB) : Mades K [] [] := ⟨List.Pairwise.nil, fun _ h => (by cases h), fun _ _ h => (by cases h), by simp⟩

theorem Mades.add {K D acc : List FactB} (h : Mades K D acc) (L : List FactB) (hL : L.length ≤ 20000) : Mades K (addD K D L) (acc ++ L) := by
  unfold addD
  split
  · rename_i hc
    have hm : ∀ f, f ∈ setF (D ++ L.filter fun f => !inB K f) ↔ f ∈ D ∨ (f ∈ L ∧ f ∉ K) := fun f => by
      rw [mem_setF, List.mem_append, List.mem_filter]
      refine or_congr Iff.rfl (and_congr Iff.rfl ?_)
      rw [Bool.not_eq_true', ← Bool.not_eq_true, inB_iff]
    refine ⟨setF_up _, fun f hf => ?_, fun _ f hf hn => ?_, ?_⟩
    · rcases (hm f).1 hf with h1 | ⟨h1, h2⟩
      · exact ⟨List.mem_append.2 (Or.inl (h.of f h1).1), (h.of f h1).2⟩
      · exact ⟨List.mem_append.2 (Or.inr h1), h2⟩
    · rcases List.mem_append.1 hf with h1 | h1
      · exact (hm f).2 (Or.inl (h.all hc f h1 hn))
      · exact (hm f).2 (Or.inr ⟨h1, hn⟩)
    · have h1 := setF_len (D ++ L.filter fun f => !inB K f)
      have h2 := List.length_filter_le (fun f => !inB K f) L
      rw [List.length_append] at h1
      omega
  · rename_i hc
    exact ⟨h.up, fun f hf => ⟨List.mem_append.2 (Or.inl (h.of f hf).1), (h.of f hf).2⟩, fun h' => absurd h' hc, h.few⟩

theorem filter_in (K L : List FactB) : (L.filter fun f => !inFrom K f 0) = L.filter fun f => !inB K f := by
  congr 1
  funext f
  congr 1
  rw [Bool.eq_iff_iff, inFrom_iff, inB_iff]

set_option maxRecDepth 100000 in
set_option maxHeartbeats 2000000 in
theorem roundAdd (mb : Nat) (K D L : List FactB) (kv nv lv : Value) (w : World) (hm : MkB mb kv nv D w) (hk : Facts w kv K) (hu : Up K) (hl : Facts w lv L) (hK : K.length ≤ 200) (hL : L.length ≤ 20000) (hD : D.length ≤ 20400) :
    Calls Tryz.prog 97 #[.pointer (some ⟨mb, 0, none⟩), lv] w fun e w' => (∃ u, e = .returned u) ∧ MkB mb kv nv (addD K D L) w' ∧ Tn mb w w' := by
  have HMk := hide hm
  obtain ⟨dv, hrow, hO⟩ := hm
  obtain ⟨ka, kc, rfl⟩ := sliceFacts hk
  obtain ⟨la, lc, rfl⟩ := sliceFacts hl
  obtain ⟨da, dc, rfl⟩ := hO.slice
  have hmb : mb < w.heap.size := (Array.getElem?_eq_some_iff.1 hrow).1
  have c0 : w.cell? ⟨mb, 0, none⟩ = some (.slice ka K.length kc) := by rw [cell_of_row _ _ _ _ _ _ hrow]; rfl
  have c2 : w.cell? ⟨mb, 2, none⟩ = some (.slice da D.length dc) := by rw [cell_of_row _ _ _ _ _ _ hrow]; rfl
  have HRow := hide hrow
  have HO := hide hO
  have HK := hide hk
  have HLv := hide hl
  have HUp := hide hu
  clear hrow hO hk hl hu
  unfold addD
  by_cases hc : K.length + D.length ≤ 200
  · rw [if_pos hc]
    have hcz : (K.length : Int) + (D.length : Int) ≤ 200 := by omega
    have HLs : Hid (∀ w1, Below w.heap.size w w1 → Calls Tryz.prog 40 #[.slice la L.length lc, .slice ka K.length kc] w1 fun e w' => ∃ v', e = .returned v' ∧ Facts w' v' (L.filter fun f => !inB K f) ∧ Below w.heap.size w w') := fun w1 h1 =>
      (lessC (.slice la L.length lc) (.slice ka K.length kc) L K w1 (HLv.out.below h1) (HK.out.below h1) HUp.out).mono fun e w' ⟨v', he, hO', hL'⟩ => ⟨v', he, by
        rw [filter_in] at hO'
        exact hO'.facts (by have := List.length_filter_le (fun f => !inB K f) L; omega), below_trans h1 hL'.below h1.size⟩
    have HJn : Hid (∀ w1 v1 L1, L1.length ≤ 20000 → Facts w1 v1 L1 → Below w.heap.size w w1 → Calls Tryz.prog 42 #[.slice da D.length dc, v1] w1 fun e w' => ∃ v', e = .returned v' ∧ OwnF w' w.heap.size v' (setF (D ++ L1)) ∧ Below w.heap.size w w') := fun w1 v1 L1 hl1 hf1 h1 =>
      (joinC (.slice da D.length dc) v1 D L1 w1 ((HO.out.facts (by omega)).below h1) hf1 (by omega)).mono fun e w' ⟨v', s, he, hS, hO', hL'⟩ => ⟨v', he, by
        have e : s = setF (D ++ L1) := setF_of hS.1 hS.2.1
        rw [← e]
        exact hO'.base h1.size, below_trans h1 hL'.below h1.size⟩
    have HC2 : Hid (∀ w1, Below w.heap.size w w1 → w1.cell? ⟨mb, 2, none⟩ = some (.slice da D.length dc) ∧ w1.cell? ⟨mb, 0, none⟩ = some (.slice ka K.length kc)) := fun w1 h1 =>
      ⟨by rw [h1.cell (p := ⟨mb, 2, none⟩) hmb]; exact c2, by rw [h1.cell (p := ⟨mb, 0, none⟩) hmb]; exact c0⟩
    have HFin : Hid (∀ w2 v2, OwnF w2 w.heap.size v2 (setF (D ++ L.filter fun f => !inB K f)) → Below w.heap.size w w2 → MkB mb (.slice ka K.length kc) nv (setF (D ++ L.filter fun f => !inB K f)) (w2.setCell ⟨mb, 2, none⟩ v2) ∧ Tn mb w (w2.setCell ⟨mb, 2, none⟩ v2)) := fun w2 v2 h1 h2 => by
      have hr2 : w2.heap[mb]? = some (.cells #[.slice ka K.length kc, nv, .slice da D.length dc] 110 (0, 0)) := (h2.block _ hmb).trans HRow.out
      refine ⟨⟨v2, by rw [set_at hr2]; rfl, ?_⟩, Tn.setCell (p := mb) (Tn.of_below h2) (x := ⟨mb, 2, none⟩) (Or.inl rfl) _⟩
      exact (h1.stay (by rw [size_setCell]; exact Nat.le_refl _) fun k _ hk => heap_setCell_other _ _ _ (by show k ≠ mb; omega)).base (by omega)
    have HFz : Hid (∀ w2, Below w.heap.size w w2 → w2.frozen? ⟨mb, 2, none⟩ = false) := fun w2 h2 => by
      have hr2 : w2.heap[mb]? = some (.cells #[.slice ka K.length kc, nv, .slice da D.length dc] 110 (0, 0)) := (h2.block _ hmb).trans HRow.out
      simp [World.frozen?, hr2]
    have hLf := List.length_filter_le (fun f => !inB K f) L
    clear HK HLv HUp HO HRow
    go_enter Tryz.func97, Tryz.ntmps97
    go_wp2
    go_quiet (fail)
    go_wp2
    have hBe : Below w.heap.size w (w.drewN nq).drew := (belowN (Below.refl _ w) nq).drew
    refine wp_region_held_drew (S := fun w' => Tn mb w w' ∧ w'.cell? ⟨mb, 0, none⟩ = some (.slice ka K.length kc)) (by kernel_rfl) ⟨Tn.of_below hBe, c0⟩ (fun hHeld => ?_)
    refine take_at (i := 0) (d := some 16) (v := ?_) rfl rfl (by kernel_rfl) (by kernel_rfl) (by kernel_rfl) (fun _ _ _ h => h) (Or.inl ⟨by rfl, ?_⟩) hHeld ?_
    rotate_left
    · intro w hSw; (try dsimp only at hSw);  go_simp; try with_reducible rfl
    simp only [Act.put, List.setIfInBounds_toArray, List.set_cons_zero, List.set_cons_succ]
    refine take_at (i := 1) (d := some 17) (v := ?_) rfl rfl (by kernel_rfl) (by kernel_rfl) (by kernel_rfl) (fun _ _ _ h => h) (Or.inl ⟨by rfl, ?_⟩) hHeld ?_
    rotate_left
    · intro w hSw; (try dsimp only at hSw);  go_simp; try with_reducible rfl
    simp only [Act.put, List.setIfInBounds_toArray, List.set_cons_zero, List.set_cons_succ]
    refine take_at (i := 2) (d := some 18) (v := ?_) rfl rfl (by kernel_rfl) (by kernel_rfl) (by kernel_rfl) (fun _ _ _ h => h) (Or.inl ⟨by rfl, ?_⟩) hHeld ?_
    rotate_left
    · intro w hSw; (try dsimp only at hSw);  go_simp; try with_reducible rfl
    simp only [Act.put, List.setIfInBounds_toArray, List.set_cons_zero, List.set_cons_succ]
    refine take_at (i := 3) (d := some 19) (v := ?_) rfl rfl (by kernel_rfl) (by kernel_rfl) (by kernel_rfl) (fun _ _ _ h => h) (Or.inl ⟨by rfl, ?_⟩) hHeld ?_
    rotate_left
    · intro w hSw; (try dsimp only at hSw);  go_simp; try with_reducible rfl
    simp only [Act.put, List.setIfInBounds_toArray, List.set_cons_zero, List.set_cons_succ]
    refine take_at (i := 5) (d := some 21) (v := ?_) rfl rfl (by kernel_rfl) (by kernel_rfl) (by kernel_rfl) (fun _ _ _ h => h) (Or.inl ⟨by rfl, ?_⟩) hHeld ?_
    rotate_left
    · intro w hSw; (try dsimp only at hSw);  go_simp; try with_reducible rfl
    simp only [Act.put, List.setIfInBounds_toArray, List.set_cons_zero, List.set_cons_succ]
    refine take_at (i := 6) (d := some 22) (v := ?_) rfl rfl (by kernel_rfl) (by kernel_rfl) (by kernel_rfl) (fun _ _ _ h => h) (Or.inl ⟨by rfl, ?_⟩) hHeld ?_
    rotate_left
    · intro w hSw; (try dsimp only at hSw);  go_simp; try with_reducible rfl
    simp only [Act.put, List.setIfInBounds_toArray, List.set_cons_zero, List.set_cons_succ]
    refine take_at (i := 7) (d := some 23) (v := ?_) rfl rfl (by kernel_rfl) (by kernel_rfl) (by kernel_rfl) (fun _ _ _ h => h) (Or.inl ⟨by rfl, ?_⟩) hHeld ?_
    rotate_left
    · intro w hSw; (try dsimp only at hSw);  go_simp; try with_reducible rfl
    simp only [Act.put, List.setIfInBounds_toArray, List.set_cons_zero, List.set_cons_succ]
    refine take_at (i := 8) (d := some 24) (v := ?_) rfl rfl (by kernel_rfl) (by kernel_rfl) (by kernel_rfl) (fun _ _ _ h => h) (Or.inl ⟨by rfl, ?_⟩) hHeld ?_
    rotate_left
    · intro w hSw; (try dsimp only at hSw);  go_simp; try with_reducible rfl
    simp only [Act.put, List.setIfInBounds_toArray, List.set_cons_zero, List.set_cons_succ]
    refine take_at (i := 9) (d := some 25) (v := ?_) rfl rfl (by kernel_rfl) (by kernel_rfl) (by kernel_rfl) (fun _ _ _ h => h) (Or.inl ⟨by rfl, ?_⟩) hHeld ?_
    rotate_left
    · intro w hSw; (try dsimp only at hSw); have q0 := hSw.2; go_simp; try with_reducible rfl
    simp only [Act.put, List.setIfInBounds_toArray, List.set_cons_zero, List.set_cons_succ]
    refine wpAnyH_ready (rs := [4, 10]) (by kernel_rfl) (by simp) ?_
    refine AllReadyH.cons rfl (fun K hK => ?_) (AllReadyH.cons rfl (fun K hK => ?_) AllReadyH.nil)
    · have q2 := (HC2.out _ hBe).1
      go_simp
      refine hK.out _ _ hHeld (fun hHeld => ?_)
      clear hK K q2
      refine wpAnyH_ready (rs := [10]) (by kernel_rfl) (by simp) ?_
      refine AllReadyH.cons rfl (fun K hK => ?_) AllReadyH.nil
      go_simp
      refine (HLs.out _ hBe).mono ?_
      rintro e w1 ⟨v1, rfl, hF1, hB1⟩
      refine hK.out _ _ ⟨Tn.of_below hB1, (HC2.out _ hB1).2⟩ (fun hHeld => ?_)
      clear hK K
      refine wpAnyH_ready (rs := [11]) (by kernel_rfl) (by simp) ?_
      refine AllReadyH.cons rfl (fun K hK => ?_) AllReadyH.nil
      go_simp
      refine (HJn.out _ v1 _ (Nat.le_trans hLf hL) hF1 hB1).mono ?_
      rintro e w2 ⟨v2, rfl, hO2, hB2⟩
      obtain ⟨a2, n2, d2, rfl⟩ : ∃ a n c, v2 = .slice a n c := by obtain ⟨a, c, e⟩ := hO2.slice; exact ⟨a, _, c, e⟩
      refine hK.out _ _ ⟨Tn.of_below hB2, (HC2.out _ hB2).2⟩ (fun hHeld => ?_)
      clear hK K
      refine take_at (i := 12) (d := some 28) (v := ?_) rfl rfl (by kernel_rfl) (by kernel_rfl) (by kernel_rfl) (fun _ _ _ h => h) (Or.inl ⟨by rfl, ?_⟩) hHeld ?_
      rotate_left
      · intro w hSw; (try dsimp only at hSw);  go_simp; try with_reducible rfl
      simp only [Act.put, List.setIfInBounds_toArray, List.set_cons_zero, List.set_cons_succ]
      refine take_at (i := 13) (d := some 29) (v := ?_) rfl rfl (by kernel_rfl) (by kernel_rfl) (by kernel_rfl) (fun _ _ _ h => h) (Or.inl ⟨by rfl, ?_⟩) hHeld ?_
      rotate_left
      · intro w hSw; (try dsimp only at hSw);  go_simp; try with_reducible rfl
      simp only [Act.put, List.setIfInBounds_toArray, List.set_cons_zero, List.set_cons_succ]
      refine wpAnyH_ready (rs := [14]) (by kernel_rfl) (by simp) ?_
      refine AllReadyH.cons rfl (fun K hK => ?_) AllReadyH.nil
      have q2 := (HC2.out _ hB2).1
      have fz := HFz.out _ hB2
      go_simp
      refine hK.out _ _ ⟨(HFin.out _ _ hO2 hB2).2, by rw [World.cell?_setCell_other _ _ _ _ (by simp)]; exact (HC2.out _ hB2).2⟩ (fun hHeld => ?_)
      clear hK K
      refine wpAnyH_done (by kernel_rfl) ?_ _
      have HF2 := hide (HFin.out _ _ hO2 hB2)
      clear q2 fz hO2 hB2 hF1 hB1 hHeld
      go_wp2
      go_end0
      exact ⟨⟨_, rfl⟩, HF2.out⟩
    · go_simp
      refine (HLs.out _ hBe).mono ?_
      rintro e w1 ⟨v1, rfl, hF1, hB1⟩
      refine hK.out _ _ ⟨Tn.of_below hB1, (HC2.out _ hB1).2⟩ (fun hHeld => ?_)
      clear hK K
      refine wpAnyH_ready (rs := [4]) (by kernel_rfl) (by simp) ?_
      refine AllReadyH.cons rfl (fun K hK => ?_) AllReadyH.nil
      have q2 := (HC2.out _ hB1).1
      go_simp
      refine hK.out _ _ hHeld (fun hHeld => ?_)
      clear hK K q2
      refine wpAnyH_ready (rs := [11]) (by kernel_rfl) (by simp) ?_
      refine AllReadyH.cons rfl (fun K hK => ?_) AllReadyH.nil
      go_simp
      refine (HJn.out _ v1 _ (Nat.le_trans hLf hL) hF1 hB1).mono ?_
      rintro e w2 ⟨v2, rfl, hO2, hB2⟩
      obtain ⟨a2, n2, d2, rfl⟩ : ∃ a n c, v2 = .slice a n c := by obtain ⟨a, c, e⟩ := hO2.slice; exact ⟨a, _, c, e⟩
      refine hK.out _ _ ⟨Tn.of_below hB2, (HC2.out _ hB2).2⟩ (fun hHeld => ?_)
      clear hK K
      refine take_at (i := 12) (d := some 28) (v := ?_) rfl rfl (by kernel_rfl) (by kernel_rfl) (by kernel_rfl) (fun _ _ _ h => h) (Or.inl ⟨by rfl, ?_⟩) hHeld ?_
      rotate_left
      · intro w hSw; (try dsimp only at hSw);  go_simp; try with_reducible rfl
      simp only [Act.put, List.setIfInBounds_toArray, List.set_cons_zero, List.set_cons_succ]
      refine take_at (i := 13) (d := some 29) (v := ?_) rfl rfl (by kernel_rfl) (by kernel_rfl) (by kernel_rfl) (fun _ _ _ h => h) (Or.inl ⟨by rfl, ?_⟩) hHeld ?_
      rotate_left
      · intro w hSw; (try dsimp only at hSw);  go_simp; try with_reducible rfl
      simp only [Act.put, List.setIfInBounds_toArray, List.set_cons_zero, List.set_cons_succ]
      refine wpAnyH_ready (rs := [14]) (by kernel_rfl) (by simp) ?_
      refine AllReadyH.cons rfl (fun K hK => ?_) AllReadyH.nil
      have q2 := (HC2.out _ hB2).1
      have fz := HFz.out _ hB2
      go_simp
      refine hK.out _ _ ⟨(HFin.out _ _ hO2 hB2).2, by rw [World.cell?_setCell_other _ _ _ _ (by simp)]; exact (HC2.out _ hB2).2⟩ (fun hHeld => ?_)
      clear hK K
      refine wpAnyH_done (by kernel_rfl) ?_ _
      have HF2 := hide (HFin.out _ _ hO2 hB2)
      clear q2 fz hO2 hB2 hF1 hB1 hHeld
      go_wp2
      go_end0
      exact ⟨⟨_, rfl⟩, HF2.out⟩
  · rw [if_neg hc]
    have hcz : ¬ ((K.length : Int) + (D.length : Int) ≤ 200) := by omega
    go_enter Tryz.func97, Tryz.ntmps97
    go_wp2
    go_quiet (fail)
    go_wp2
    go_end0
    exact ⟨⟨_, rfl⟩, HMk.out.drewN _, (Tn.refl _ _).drewN _⟩

end Go.Proofs.YtalggolacdlnnaaGreatDoor

/- The walk of round's making.ask. -/
namespace Go.Proofs.YtalggolacdlnnaaGreatDoor
open Go.RowKit Go.Sort Go.Maps

theorem errW_rightN {p : List RuleD} (hp : RightP p) {K N : List FactB} (hK : GoodS p K) (hN : Up N) (hs : ∀ f ∈ N, f ∈ K) : ∀ r ∈ p, errW r.body K N = 0 := fun r hr => by
  unfold errW
  rw [if_neg (by simp [(hp.rules r hr).body]), if_neg (by rw [fault_right hK.up hK.right hK.few]; simp), fault_right hN (fun f hf => hK.right f (hs f hf)) (Nat.le_trans (up_le hN hs) hK.few)]

/-- What ask tells. -/
def AskT (K N : List FactB) (r : RuleD) (acc : List FactB) (mb : Nat) (kv nv : Value) (er : Int) (w : World) : Prop := match askP K N r acc with
  | none => er = 4
  | some acc' => er = 0 ∧ ∃ D', MkB mb kv nv D' w ∧ Mades K D' acc'

theorem any_all (l : List AtomD) : (l.any fun a => !a.no) = !(l.all fun a => a.no) := by
  induction l with
  | nil => rfl
  | cons a l ih => rw [List.any_cons, List.all_cons, ih]; cases a.no <;> rfl

set_option maxRecDepth 100000 in
set_option maxHeartbeats 4000000 in
theorem roundAsk (p : List RuleD) (hp : RightP p) (r : RuleD) (hr : r ∈ p) (K N D acc : List FactB) (hK : GoodS p K) (hN : Up N) (hs : ∀ f ∈ N, f ∈ K) (mb : Nat) (kv nv tv bv : Value) (w0 w : World) (hk : Facts w0 kv K) (hn : Facts w0 nv N)
    (ht : termK.sl Anyw w0 tv r.head.terms) (hb : atomK.sl Anyw w0 bv r.body) (h0 : w0.heap.size ≤ mb) (hB : Below w0.heap.size w0 w) (hm : MkB mb kv nv D w) (hM : Mades K D acc) :
    Calls Tryz.prog 65 #[.pointer (some ⟨mb, 0, none⟩), .agg #[.bool r.head.no, .string (bs r.head.name), tv, bv]] w fun e w' => ∃ er, e = .returned (.int .i64 er) ∧ AskT K N r acc mb kv nv er w' ∧ Tn mb w w' := by
  have hKf := hK.few
  have hNf := Nat.le_trans (up_le hN hs) hK.few
  have HE0 := hide (errW_right hp hK r hr)
  have HEN := hide (errW_rightN hp hK hN hs r hr)
  have HSh := hide (short_right hp hK r hr)
  have HU := hide hK.up
  have hmb := hm.lt
  have h5 := (body_right (hp.rules r hr).body).1
  obtain ⟨ta, tc, rfl⟩ := Kind.slice ht
  obtain ⟨ba, bc, rfl⟩ := Kind.slice hb
  obtain ⟨ka, kc, rfl⟩ := sliceFacts hk
  obtain ⟨na, nc, rfl⟩ := sliceFacts hn
  have HK := hide hk
  have HN := hide hn
  have HT := hide ht
  have HBd := hide hb
  have HB := hide hB
  have HMk := hide hm
  have HM := hide hM
  obtain ⟨wb, hwb⟩ : ∃ wb, wb = w.alloc (.cells #[.bool r.head.no, .string (bs r.head.name), .slice ta r.head.terms.length tc, .slice ba r.body.length bc] 53) := ⟨_, rfl⟩
  have hLb : Later w wb := by rw [hwb]; exact (Later.refl w).alloc _
  have hrb : wb.heap[w.heap.size]? = some (.cells #[.bool r.head.no, .string (bs r.head.name), .slice ta r.head.terms.length tc, .slice ba r.body.length bc] 53 (0, 0)) := by rw [hwb]; exact heap_alloc_new w _
  have hBb : Below w0.heap.size w0 wb := below_trans hB hLb.below hB.size
  have HCn := hide (containsAtom (.slice ba r.body.length bc) r.body wb (Kind.sl_below hb hBb))
  have c3 : wb.cell? ⟨w.heap.size, 3, none⟩ = some (.slice ba r.body.length bc) := by rw [cell_of_row _ _ _ _ _ _ hrb]; rfl
  have HLb := hide hLb
  have HRb := hide hrb
  have HWB := hide hwb
  rw [any_all] at HCn
  clear hp hr hK hN hs hk hn ht hb hB hm hM hLb hrb hBb
  generalize hal : (r.body.all fun a => a.no) = al at *
  have HAl := hide hal
  clear hal
  go_enter Tryz.func65, Tryz.ntmps65
  rw [hwb] at c3
  clear hwb
  go_wp2_with fail
  rw [← HWB.out]
  clear c3
  refine HCn.out.mono ?_
  rintro e w1 ⟨rfl, hL1⟩
  clear HCn HWB
  have hwlt : w.heap.size < wb.heap.size := (Array.getElem?_eq_some_iff.1 HRb.out).1
  have hL01 : Later w w1 := HLb.out.trans hL1
  have HR1 : Hid (w1.heap[w.heap.size]? = some (.cells #[.bool r.head.no, .string (bs r.head.name), .slice ta r.head.terms.length tc, .slice ba r.body.length bc] 53 (0, 0))) := by
    show _ = _; rw [hL1.block hwlt]; exact HRb.out
  have HB1 : Hid (Below w0.heap.size w0 w1) := below_trans HB.out hL01.below HB.out.size
  have HMk1 : Hid (MkB mb (.slice ka K.length kc) (.slice na N.length nc) D w1) := HMk.out.below hL01.below
  have HTn1 : Hid (Tn mb w w1) := Tn.of_below hL01.below
  have hw1 : w.heap.size < w1.heap.size := by have := hL1.size; omega
  clear hL1 hL01 HLb HRb HMk HB hwlt wb
  cases al with
  | true =>
    obtain ⟨dv, hrow, _⟩ := HMk1.out
    have HS : Hid (∀ w', Below w1.heap.size w1 w' → w'.cell? ⟨w.heap.size, 0, none⟩ = some (.bool r.head.no) ∧ w'.cell? ⟨w.heap.size, 0 + 1, none⟩ = some (.string (bs r.head.name)) ∧ w'.cell? ⟨w.heap.size, 0 + 2, none⟩ = some (.slice ta r.head.terms.length tc) ∧ w'.cell? ⟨w.heap.size, 0 + 3, none⟩ = some (.slice ba r.body.length bc) ∧ w'.cell? ⟨mb, 0, none⟩ = some (.slice ka K.length kc)) := fun w' h => by
      have hr' := (h.block _ hw1).trans HR1.out
      have hm' := (h.block _ (Array.getElem?_eq_some_iff.1 hrow).1).trans hrow
      exact ⟨by rw [cell_of_row _ _ _ _ _ _ hr']; rfl, by rw [cell_of_row _ _ _ _ _ _ hr']; rfl, by rw [cell_of_row _ _ _ _ _ _ hr']; rfl, by rw [cell_of_row _ _ _ _ _ _ hr']; rfl, by rw [cell_of_row _ _ _ _ _ _ hm']; rfl⟩
    have HH : Hid (∀ w', Below w1.heap.size w1 w' → Calls Tryz.prog 71 #[.agg #[.bool r.head.no, .string (bs r.head.name), .slice ta r.head.terms.length tc, .slice ba r.body.length bc], .slice ka K.length kc] w' fun e w'' => ∃ v' er, e = .returned (.tuple #[v', .int .i64 er]) ∧ HeadsT w'' v' er r K ∧ Below w1.heap.size w1 w'') := fun w' h => by
      have h' := below_trans HB1.out h HB1.out.size
      exact (headsC r _ _ _ K w' (Kind.sl_below HT.out h') (Kind.sl_below HBd.out h') (HK.out.below h') HSh.out).mono fun e w'' ⟨v', er, he, hT, hB'⟩ => ⟨v', er, he, hT, below_trans h hB' h.size⟩
    have HX : Hid (askP K N r acc = match headsP r K with | none => none | some x => some (acc ++ x)) := by show _ = _; unfold askP; rw [if_pos HAl.out]; all_goals rfl
    clear HR1 HT HBd HSh HEN hrow
    generalize bs r.head.name = nm at *
    generalize r.head.no = no at *
    go_wp2
    refine wp_region_held_drew (S := fun w' => Below w1.heap.size w1 w') (by kernel_rfl) (Below.refl _ _).drew (fun hHeld => ?_)
    refine take_at (i := 0) (d := some 16) (v := ?_) rfl rfl (by kernel_rfl) (by kernel_rfl) (by kernel_rfl) (fun _ _ _ h => h) (Or.inl ⟨by rfl, ?_⟩) hHeld ?_
    rotate_left
    · intro w hSw; (try dsimp only at hSw); obtain ⟨q0, q1, q2, q3, q4⟩ := HS.out _ hSw; go_simp; try with_reducible rfl
    simp only [Act.put, List.setIfInBounds_toArray, List.set_cons_zero, List.set_cons_succ]
    refine take_at (i := 1) (d := some 17) (v := ?_) rfl rfl (by kernel_rfl) (by kernel_rfl) (by kernel_rfl) (fun _ _ _ h => h) (Or.inl ⟨by rfl, ?_⟩) hHeld ?_
    rotate_left
    · intro w hSw; (try dsimp only at hSw);  go_simp; try with_reducible rfl
    simp only [Act.put, List.setIfInBounds_toArray, List.set_cons_zero, List.set_cons_succ]
    refine take_at (i := 2) (d := some 18) (v := ?_) rfl rfl (by kernel_rfl) (by kernel_rfl) (by kernel_rfl) (fun _ _ _ h => h) (Or.inl ⟨by rfl, ?_⟩) hHeld ?_
    rotate_left
    · intro w hSw; (try dsimp only at hSw);  go_simp; try with_reducible rfl
    simp only [Act.put, List.setIfInBounds_toArray, List.set_cons_zero, List.set_cons_succ]
    refine take_at (i := 3) (d := some 19) (v := ?_) rfl rfl (by kernel_rfl) (by kernel_rfl) (by kernel_rfl) (fun _ _ _ h => h) (Or.inl ⟨by rfl, ?_⟩) hHeld ?_
    rotate_left
    · intro w hSw; (try dsimp only at hSw);  go_simp; try with_reducible rfl
    simp only [Act.put, List.setIfInBounds_toArray, List.set_cons_zero, List.set_cons_succ]
    refine take_at (i := 4) (d := some 20) (v := ?_) rfl rfl (by kernel_rfl) (by kernel_rfl) (by kernel_rfl) (fun _ _ _ h => h) (Or.inl ⟨by rfl, ?_⟩) hHeld ?_
    rotate_left
    · intro w hSw; (try dsimp only at hSw); obtain ⟨q0, q1, q2, q3, q4⟩ := HS.out _ hSw; go_simp; try with_reducible rfl
    simp only [Act.put, List.setIfInBounds_toArray, List.set_cons_zero, List.set_cons_succ]
    refine wpAnyH_ready (rs := [5]) (by kernel_rfl) (by simp) ?_
    refine AllReadyH.cons rfl (fun K hK => ?_) AllReadyH.nil
    go_simp
    refine (HH.out _ hHeld).mono ?_
    rintro e w2 ⟨v2, er, rfl, hT2, hB2⟩
    refine hK.out _ _ hB2 (fun hHeld => ?_)
    clear hK K
    refine take_at (i := 6) (d := some 15) (v := ?_) rfl rfl (by kernel_rfl) (by kernel_rfl) (by kernel_rfl) (fun _ _ _ h => h) (Or.inl ⟨by rfl, ?_⟩) hHeld ?_
    rotate_left
    · intro w hSw; (try dsimp only at hSw);  go_simp; try with_reducible rfl
    simp only [Act.put, List.setIfInBounds_toArray, List.set_cons_zero, List.set_cons_succ]
    refine take_at (i := 7) (d := some 22) (v := ?_) rfl rfl (by kernel_rfl) (by kernel_rfl) (by kernel_rfl) (fun _ _ _ h => h) (Or.inl ⟨by rfl, ?_⟩) hHeld ?_
    rotate_left
    · intro w hSw; (try dsimp only at hSw);  go_simp; try with_reducible rfl
    simp only [Act.put, List.setIfInBounds_toArray, List.set_cons_zero, List.set_cons_succ]
    refine take_at (i := 8) (d := some 23) (v := ?_) rfl rfl (by kernel_rfl) (by kernel_rfl) (by kernel_rfl) (fun _ _ _ h => h) (Or.inl ⟨by rfl, ?_⟩) hHeld ?_
    rotate_left
    · intro w hSw; (try dsimp only at hSw);  go_simp; try with_reducible rfl
    simp only [Act.put, List.setIfInBounds_toArray, List.set_cons_zero, List.set_cons_succ]
    refine take_at (i := 9) (d := some 5) (v := ?_) rfl rfl (by kernel_rfl) (by kernel_rfl) (by kernel_rfl) (fun _ _ _ h => h) (Or.inl ⟨by rfl, ?_⟩) hHeld ?_
    rotate_left
    · intro w hSw; (try dsimp only at hSw);  go_simp; try with_reducible rfl
    simp only [Act.put, List.setIfInBounds_toArray, List.set_cons_zero, List.set_cons_succ]
    refine take_at (i := 10) (d := some 6) (v := ?_) rfl rfl (by kernel_rfl) (by kernel_rfl) (by kernel_rfl) (fun _ _ _ h => h) (Or.inl ⟨by rfl, ?_⟩) hHeld ?_
    rotate_left
    · intro w hSw; (try dsimp only at hSw);  go_simp; try with_reducible rfl
    simp only [Act.put, List.setIfInBounds_toArray, List.set_cons_zero, List.set_cons_succ]
    refine wpAnyH_done (by kernel_rfl) ?_ _
    unfold HeadsT at hT2
    rw [if_neg (by rw [HE0.out]; simp)] at hT2
    have HB2 := hide hB2
    have HMk2 : Hid (MkB mb (.slice ka K.length kc) (.slice na N.length nc) D w2) := HMk1.out.below hB2
    have HK2 : Hid (Facts w2 (.slice ka K.length kc) K) := HK.out.below (below_trans HB1.out hB2 HB1.out.size)
    have HTn2 : Hid (Tn mb w w2) := HTn1.out.trans (Tn.of_below hB2)
    clear hB2 hHeld HS HH HE0
    cases hh : headsP r K with
    | none =>
      rw [hh] at hT2
      obtain ⟨rfl, rfl⟩ := hT2
      have HA := hide (roundAdd mb K D [] (.slice ka K.length kc) (.slice na N.length nc) (.slice none 0 0) w2 HMk2.out HK2.out HU.out (facts_nil w2) hKf (by simp) HM.out.few)
      have HTo : Hid (∀ w', AskT K N r acc mb (.slice ka K.length kc) (.slice na N.length nc) 4 w') := fun w' => by unfold AskT; rw [HX.out, hh]
      clear hh
      go_wp2_with fail
      refine HA.out.mono ?_
      rintro e w3 ⟨⟨u3, rfl⟩, _, hTn3⟩
      have HTn3 := hide (HTn2.out.trans hTn3)
      clear hTn3
      go_wp2
      go_ret
      exact ⟨4, rfl, HTo.out _, HTn3.out⟩
    | some x =>
      rw [hh] at hT2
      obtain ⟨rfl, hF2⟩ := hT2
      have hxl : x.length ≤ 20000 := by
        unfold headsP at hh
        split at hh
        · cases hh
        · rename_i R hR
          cases hh
          have h1 := setF_len (R.filterMap fun l => fillB r.head l)
          have h2 := List.length_filterMap_le (fun l => fillB r.head l) R
          have h3 := allB_small hR
          omega
      obtain ⟨xa, xc, rfl⟩ := sliceFacts hF2
      have HA := hide (roundAdd mb K D x (.slice ka K.length kc) (.slice na N.length nc) (.slice xa x.length xc) w2 HMk2.out HK2.out HU.out hF2 hKf hxl HM.out.few)
      have HTo : Hid (∀ w', MkB mb (.slice ka K.length kc) (.slice na N.length nc) (addD K D x) w' → AskT K N r acc mb (.slice ka K.length kc) (.slice na N.length nc) 0 w') := fun w' h => by unfold AskT; rw [HX.out, hh]; exact ⟨rfl, _, h, HM.out.add x hxl⟩
      clear hh hF2 hxl
      go_wp2_with fail
      refine HA.out.mono ?_
      rintro e w3 ⟨⟨u3, rfl⟩, hMk3, hTn3⟩
      have HTn3 := hide (HTn2.out.trans hTn3)
      have HMk3 := hide hMk3
      clear hTn3 hMk3
      go_wp2
      go_ret
      exact ⟨0, rfl, HTo.out _ HMk3.out, HTn3.out⟩
  | false =>
    have HX : Hid (askP K N r acc = atGo K N r 0 (r.body.drop 0) acc) := by show _ = _; unfold askP; rw [if_neg (by rw [HAl.out]; simp)]; rfl
    have c3 : w1.cell? ⟨w.heap.size, 3, none⟩ = some (.slice ba r.body.length bc) := by rw [cell_of_row _ _ _ _ _ _ HR1.out]; rfl
    clear HSh HE0
    go_wp2
    go_loopg [31] r.body.length (fun g i wr => ∃ j : Nat, j + g = r.body.length ∧ i = .int .i64 j ∧ ∃ D' acc', Hid (MkB mb (.slice ka K.length kc) (.slice na N.length nc) D' wr) ∧ Hid (Mades K D' acc') ∧ Hid (Below w0.heap.size w0 wr) ∧
      Hid (wr.heap[w.heap.size]? = some (.cells #[.bool r.head.no, .string (bs r.head.name), .slice ta r.head.terms.length tc, .slice ba r.body.length bc] 53 (0, 0))) ∧ w.heap.size < wr.heap.size ∧ Hid (Tn mb w wr) ∧ Hid (askP K N r acc = atGo K N r j (r.body.drop j) acc'))
    case atStart => exact ⟨0, by omega, rfl, D, acc, HMk1, HM, HB1, HR1, hw1, HTn1, HX⟩
    case round =>
      clear HMk1 HM HB1 HR1 hw1 HTn1 HX c3 HAl
      obtain ⟨j, hj, rfl, D1, acc1, HMk, HM, HBr, HR, hwr, HTn, HX⟩ := hrel
      by_cases hlt : j < r.body.length
      · obtain ⟨a, hx⟩ : ∃ x, r.body[j]? = some x := ⟨_, List.getElem?_eq_getElem hlt⟩
        obtain ⟨b1, o1, _, rfl, hb1, ⟨av, rfl, hav⟩, hc⟩ := Kind.sl_at HBd.out hx
        obtain ⟨aa, ac, rfl⟩ := Kind.slice hav
        have d0 : wr.cell? ⟨b1, o1 + j * 3, none⟩ = some (.bool a.no) := by rw [HBr.out.cell (p := ⟨b1, o1 + j * 3, none⟩) hb1]; exact hc 0 _ rfl
        have d1 : wr.cell? ⟨b1, o1 + j * 3 + 1, none⟩ = some (.string (bs a.name)) := by rw [HBr.out.cell (p := ⟨b1, o1 + j * 3 + 1, none⟩) hb1]; exact hc 1 _ rfl
        have d2 : wr.cell? ⟨b1, o1 + j * 3 + 2, none⟩ = some (.slice aa a.terms.length ac) := by rw [HBr.out.cell (p := ⟨b1, o1 + j * 3 + 2, none⟩) hb1]; exact hc 2 _ rfl
        have hX : atGo K N r j (r.body.drop j) acc1 = if a.no then atGo K N r (j + 1) (r.body.drop (j + 1)) acc1 else match allB (pickB K (j : Nat) N) r.body with | none => none | some R => atGo K N r (j + 1) (r.body.drop (j + 1)) (acc1 ++ R.filterMap fun e => fillB r.head e) := by
          obtain ⟨h1, e1⟩ := List.getElem?_eq_some_iff.1 hx
          rw [List.drop_eq_getElem_cons h1, e1, atGo]
          all_goals rfl
        have HX2 := hide (HX.out.trans hX)
        obtain ⟨wb, hwb⟩ : ∃ wb, wb = wr.alloc (.cells #[.bool a.no, .string (bs a.name), .slice aa a.terms.length ac] 50) := ⟨_, rfl⟩
        have hLb : Later wr wb := by rw [hwb]; exact (Later.refl _).alloc _
        have hzb : wr.heap.size < wb.heap.size := by rw [hwb]; simp
        have HMkb : Hid (MkB mb (.slice ka K.length kc) (.slice na N.length nc) D1 wb) := HMk.out.below hLb.below
        have HBb : Hid (Below w0.heap.size w0 wb) := below_trans HBr.out hLb.below HBr.out.size
        have HRb : Hid (wb.heap[w.heap.size]? = some (.cells #[.bool r.head.no, .string (bs r.head.name), .slice ta r.head.terms.length tc, .slice (some ⟨b1, o1, none⟩) r.body.length bc] 53 (0, 0))) := by show _ = _; rw [hLb.block hwr]; exact HR.out
        have HTnb : Hid (Tn mb w wb) := HTn.out.trans (Tn.of_below hLb.below)
        have hwb' : w.heap.size < wb.heap.size := by omega
        have HWb := hide hwb
        clear hc hx hav hX HX hLb hwb HMk HBr HR HTn
        cases hno : a.no with
        | true =>
          rw [hno] at d0 HWb
          have HX3 : Hid (askP K N r acc = atGo K N r (j + 1) (r.body.drop (j + 1)) acc1) := by show _ = _; rw [HX2.out, hno]; rfl
          clear hno HX2
          generalize bs a.name = anm at *
          go_wp2
          rw [← HWb.out]
          go_roundg (r.body.length - (j + 1))
          case measure => omega
          case rel => exact ⟨j + 1, by omega, by go_num, D1, acc1, HMkb, HM, HBb, HRb, hwb', HTnb, HX3⟩
        | false =>
          rw [hno] at d0 HWb
          have hX3 : askP K N r acc = match allB (pickB K (j : Nat) N) r.body with | none => none | some R => atGo K N r (j + 1) (r.body.drop (j + 1)) (acc1 ++ R.filterMap fun e => fillB r.head e) := by rw [HX2.out, hno]; rfl
          have HX3 := hide hX3
          obtain ⟨dv, hrow, _⟩ := HMkb.out
          have HS : Hid (∀ w', Below wb.heap.size wb w' → w'.cell? ⟨w.heap.size, 3, none⟩ = some (.slice (some ⟨b1, o1, none⟩) r.body.length bc) ∧ w'.cell? ⟨mb, 0, none⟩ = some (.slice ka K.length kc) ∧ w'.cell? ⟨mb, 1, none⟩ = some (.slice na N.length nc)) := fun w' h => by
            have hr' := (h.block _ hwb').trans HRb.out
            have hm' := (h.block _ (Array.getElem?_eq_some_iff.1 hrow).1).trans hrow
            exact ⟨by rw [cell_of_row _ _ _ _ _ _ hr']; rfl, by rw [cell_of_row _ _ _ _ _ _ hm']; rfl, by rw [cell_of_row _ _ _ _ _ _ hm']; rfl⟩
          have HWi : Hid (∀ w', Below wb.heap.size wb w' → Calls Tryz.prog 98 #[.slice (some ⟨b1, o1, none⟩) r.body.length bc, .slice ka K.length kc, .int .i64 (j : Nat), .slice na N.length nc] w' fun e w'' => ∃ v' er, e = .returned (.tuple #[v', .int .i64 er]) ∧ WithT w'' v' er r.body K (j : Nat) N ∧ Below wb.heap.size wb w'') := fun w' h => by
            have h' := below_trans HBb.out h HBb.out.size
            exact (withC r.body _ _ _ K N (j : Nat) w' (Kind.sl_below HBd.out h') (HK.out.below h') (HN.out.below h')).mono fun e w'' ⟨v', er, he, hT, hB'⟩ => ⟨v', er, he, hT, below_trans h hB' h.size⟩
          clear hno HX2 hX3 hrow
          generalize bs a.name = anm at *
          go_wp2
          rw [← HWb.out]
          clear HWb d0 d1 d2
          refine wp_region_held_drew (S := fun w' => Below wb.heap.size wb w') (by kernel_rfl) (Below.refl _ _).drew (fun hHeld => ?_)
          refine take_at (i := 0) (d := some 39) (v := ?_) rfl rfl (by kernel_rfl) (by kernel_rfl) (by kernel_rfl) (fun _ _ _ h => h) (Or.inl ⟨by rfl, ?_⟩) hHeld ?_
          rotate_left
          · intro w hSw; (try dsimp only at hSw);  go_simp; try with_reducible rfl
          simp only [Act.put, List.setIfInBounds_toArray, List.set_cons_zero, List.set_cons_succ]
          refine take_at (i := 1) (d := some 40) (v := ?_) rfl rfl (by kernel_rfl) (by kernel_rfl) (by kernel_rfl) (fun _ _ _ h => h) (Or.inl ⟨by rfl, ?_⟩) hHeld ?_
          rotate_left
          · intro w hSw; (try dsimp only at hSw); obtain ⟨q0, q1, q2⟩ := HS.out _ hSw; go_simp; try with_reducible rfl
          simp only [Act.put, List.setIfInBounds_toArray, List.set_cons_zero, List.set_cons_succ]
          refine take_at (i := 2) (d := some 41) (v := ?_) rfl rfl (by kernel_rfl) (by kernel_rfl) (by kernel_rfl) (fun _ _ _ h => h) (Or.inl ⟨by rfl, ?_⟩) hHeld ?_
          rotate_left
          · intro w hSw; (try dsimp only at hSw);  go_simp; try with_reducible rfl
          simp only [Act.put, List.setIfInBounds_toArray, List.set_cons_zero, List.set_cons_succ]
          refine take_at (i := 3) (d := some 42) (v := ?_) rfl rfl (by kernel_rfl) (by kernel_rfl) (by kernel_rfl) (fun _ _ _ h => h) (Or.inl ⟨by rfl, ?_⟩) hHeld ?_
          rotate_left
          · intro w hSw; (try dsimp only at hSw);  go_simp; try with_reducible rfl
          simp only [Act.put, List.setIfInBounds_toArray, List.set_cons_zero, List.set_cons_succ]
          refine take_at (i := 4) (d := some 43) (v := ?_) rfl rfl (by kernel_rfl) (by kernel_rfl) (by kernel_rfl) (fun _ _ _ h => h) (Or.inl ⟨by rfl, ?_⟩) hHeld ?_
          rotate_left
          · intro w hSw; (try dsimp only at hSw);  go_simp; try with_reducible rfl
          simp only [Act.put, List.setIfInBounds_toArray, List.set_cons_zero, List.set_cons_succ]
          refine take_at (i := 5) (d := some 44) (v := ?_) rfl rfl (by kernel_rfl) (by kernel_rfl) (by kernel_rfl) (fun _ _ _ h => h) (Or.inl ⟨by rfl, ?_⟩) hHeld ?_
          rotate_left
          · intro w hSw; (try dsimp only at hSw); obtain ⟨q0, q1, q2⟩ := HS.out _ hSw; go_simp; try with_reducible rfl
          simp only [Act.put, List.setIfInBounds_toArray, List.set_cons_zero, List.set_cons_succ]
          refine take_at (i := 6) (d := some 45) (v := ?_) rfl rfl (by kernel_rfl) (by kernel_rfl) (by kernel_rfl) (fun _ _ _ h => h) (Or.inl ⟨by rfl, ?_⟩) hHeld ?_
          rotate_left
          · intro w hSw; (try dsimp only at hSw);  go_simp; try with_reducible rfl
          simp only [Act.put, List.setIfInBounds_toArray, List.set_cons_zero, List.set_cons_succ]
          refine take_at (i := 7) (d := some 46) (v := ?_) rfl rfl (by kernel_rfl) (by kernel_rfl) (by kernel_rfl) (fun _ _ _ h => h) (Or.inl ⟨by rfl, ?_⟩) hHeld ?_
          rotate_left
          · intro w hSw; (try dsimp only at hSw);  go_simp; try with_reducible rfl
          simp only [Act.put, List.setIfInBounds_toArray, List.set_cons_zero, List.set_cons_succ]
          refine take_at (i := 8) (d := some 47) (v := ?_) rfl rfl (by kernel_rfl) (by kernel_rfl) (by kernel_rfl) (fun _ _ _ h => h) (Or.inl ⟨by rfl, ?_⟩) hHeld ?_
          rotate_left
          · intro w hSw; (try dsimp only at hSw);  go_simp; try with_reducible rfl
          simp only [Act.put, List.setIfInBounds_toArray, List.set_cons_zero, List.set_cons_succ]
          refine take_at (i := 9) (d := some 48) (v := ?_) rfl rfl (by kernel_rfl) (by kernel_rfl) (by kernel_rfl) (fun _ _ _ h => h) (Or.inl ⟨by rfl, ?_⟩) hHeld ?_
          rotate_left
          · intro w hSw; (try dsimp only at hSw);  go_simp; try with_reducible rfl
          simp only [Act.put, List.setIfInBounds_toArray, List.set_cons_zero, List.set_cons_succ]
          refine take_at (i := 10) (d := some 49) (v := ?_) rfl rfl (by kernel_rfl) (by kernel_rfl) (by kernel_rfl) (fun _ _ _ h => h) (Or.inl ⟨by rfl, ?_⟩) hHeld ?_
          rotate_left
          · intro w hSw; (try dsimp only at hSw); obtain ⟨q0, q1, q2⟩ := HS.out _ hSw; go_simp; try with_reducible rfl
          simp only [Act.put, List.setIfInBounds_toArray, List.set_cons_zero, List.set_cons_succ]
          refine wpAnyH_ready (rs := [11]) (by kernel_rfl) (by simp) ?_
          refine AllReadyH.cons rfl (fun K hK => ?_) AllReadyH.nil
          go_simp
          refine (HWi.out _ hHeld).mono ?_
          rintro e w2 ⟨v2, er, rfl, hT2, hB2⟩
          refine hK.out _ _ hB2 (fun hHeld => ?_)
          clear hK K
          refine take_at (i := 12) (d := some 38) (v := ?_) rfl rfl (by kernel_rfl) (by kernel_rfl) (by kernel_rfl) (fun _ _ _ h => h) (Or.inl ⟨by rfl, ?_⟩) hHeld ?_
          rotate_left
          · intro w hSw; (try dsimp only at hSw);  go_simp; try with_reducible rfl
          simp only [Act.put, List.setIfInBounds_toArray, List.set_cons_zero, List.set_cons_succ]
          refine take_at (i := 13) (d := some 51) (v := ?_) rfl rfl (by kernel_rfl) (by kernel_rfl) (by kernel_rfl) (fun _ _ _ h => h) (Or.inl ⟨by rfl, ?_⟩) hHeld ?_
          rotate_left
          · intro w hSw; (try dsimp only at hSw);  go_simp; try with_reducible rfl
          simp only [Act.put, List.setIfInBounds_toArray, List.set_cons_zero, List.set_cons_succ]
          refine take_at (i := 14) (d := some 52) (v := ?_) rfl rfl (by kernel_rfl) (by kernel_rfl) (by kernel_rfl) (fun _ _ _ h => h) (Or.inl ⟨by rfl, ?_⟩) hHeld ?_
          rotate_left
          · intro w hSw; (try dsimp only at hSw);  go_simp; try with_reducible rfl
          simp only [Act.put, List.setIfInBounds_toArray, List.set_cons_zero, List.set_cons_succ]
          refine take_at (i := 15) (d := some 9) (v := ?_) rfl rfl (by kernel_rfl) (by kernel_rfl) (by kernel_rfl) (fun _ _ _ h => h) (Or.inl ⟨by rfl, ?_⟩) hHeld ?_
          rotate_left
          · intro w hSw; (try dsimp only at hSw);  go_simp; try with_reducible rfl
          simp only [Act.put, List.setIfInBounds_toArray, List.set_cons_zero, List.set_cons_succ]
          refine take_at (i := 16) (d := some 10) (v := ?_) rfl rfl (by kernel_rfl) (by kernel_rfl) (by kernel_rfl) (fun _ _ _ h => h) (Or.inl ⟨by rfl, ?_⟩) hHeld ?_
          rotate_left
          · intro w hSw; (try dsimp only at hSw);  go_simp; try with_reducible rfl
          simp only [Act.put, List.setIfInBounds_toArray, List.set_cons_zero, List.set_cons_succ]
          refine wpAnyH_done (by kernel_rfl) ?_ _
          unfold WithT at hT2
          rw [if_neg (by rw [HEN.out]; simp)] at hT2
          have HMk2 : Hid (MkB mb (.slice ka K.length kc) (.slice na N.length nc) D1 w2) := HMkb.out.below hB2
          have HB2 : Hid (Below w0.heap.size w0 w2) := below_trans HBb.out hB2 HBb.out.size
          have HTn2 : Hid (Tn mb w w2) := HTnb.out.trans (Tn.of_below hB2)
          have HR2 : Hid (w2.heap[w.heap.size]? = some (.cells #[.bool r.head.no, .string (bs r.head.name), .slice ta r.head.terms.length tc, .slice (some ⟨b1, o1, none⟩) r.body.length bc] 53 (0, 0))) := by show _ = _; rw [hB2.block _ hwb']; exact HRb.out
          have hw2 : w.heap.size < w2.heap.size := by have := hB2.size; omega
          clear hB2 hHeld HS HWi HMkb HBb HTnb HRb hwb'
          cases hR : allB (pickB K (j : Nat) N) r.body with
          | none =>
            rw [hR] at hT2
            obtain ⟨rfl, rfl⟩ := hT2
            have HTo : Hid (∀ w', AskT K N r acc mb (.slice ka K.length kc) (.slice na N.length nc) 4 w') := fun w' => by unfold AskT; rw [HX3.out, hR]
            clear hR HX3
            go_wp2
            go_ret
            exact ⟨4, rfl, HTo.out _, HTn2.out⟩
          | some R =>
            rw [hR] at hT2
            obtain ⟨rfl, hsl⟩ := hT2
            have hsm := allB_small hR
            have HX4 : Hid (askP K N r acc = atGo K N r (j + 1) (r.body.drop (j + 1)) (acc1 ++ R.filterMap fun e => fillB r.head e)) := by show _ = _; rw [HX3.out, hR]
            obtain ⟨ra, rc, rfl⟩ := Kind.slice hsl
            have HFl := hide (filledC r.head (.slice ta r.head.terms.length tc) (.slice ra R.length rc) R w2 (Kind.sl_below HT.out HB2.out) hsl hsm)
            have r0 : w2.cell? ⟨w.heap.size, 0, none⟩ = some (.bool r.head.no) := by rw [cell_of_row _ _ _ _ _ _ HR2.out]; rfl
            have r1 : w2.cell? ⟨w.heap.size, 0 + 1, none⟩ = some (.string (bs r.head.name)) := by rw [cell_of_row _ _ _ _ _ _ HR2.out]; rfl
            have r2 : w2.cell? ⟨w.heap.size, 0 + 2, none⟩ = some (.slice ta r.head.terms.length tc) := by rw [cell_of_row _ _ _ _ _ _ HR2.out]; rfl
            have hfl := Nat.le_trans (List.length_filterMap_le (fun e => fillB r.head e) R) hsm
            clear hR HX3 hsl hsm
            generalize bs r.head.name = nm at *
            generalize r.head.no = no at *
            go_wp2_with fail
            refine HFl.out.mono ?_
            rintro e w3 ⟨v3, rfl, hO3, hL3⟩
            have hF3 := hO3.facts (by omega)
            have HA := hide (roundAdd mb K D1 _ (.slice ka K.length kc) (.slice na N.length nc) v3 w3 (HMk2.out.below hL3.below) (HK.out.below (below_trans HB2.out hL3.below HB2.out.size)) HU.out hF3 hKf hfl HM.out.few)
            have HB3 : Hid (Below w0.heap.size w0 w3) := below_trans HB2.out hL3.below HB2.out.size
            have HR3 : Hid (w3.heap[w.heap.size]? = some (.cells #[.bool no, .string nm, .slice ta r.head.terms.length tc, .slice (some ⟨b1, o1, none⟩) r.body.length bc] 53 (0, 0))) := by show _ = _; rw [hL3.block hw2]; exact HR2.out
            have HTn3 : Hid (Tn mb w w3) := HTn2.out.trans (Tn.of_below hL3.below)
            have hw3 : w.heap.size < w3.heap.size := by have := hL3.size; omega
            have hm3 : w0.heap.size ≤ w3.heap.size := HB3.out.size
            obtain ⟨a3, c3, rfl⟩ := hO3.slice
            clear hO3 hF3 hL3 HFl r0 r1 r2 HMk2 HB2 HR2 HTn2 hw2
            go_wp2_with fail
            refine HA.out.mono ?_
            rintro e w4 ⟨⟨u4, rfl⟩, hMk4, hTn4⟩
            have HMk4 := hide hMk4
            have HM4 := hide (HM.out.add _ hfl)
            have HB4 : Hid (Below w0.heap.size w0 w4) := below_trans HB3.out (hTn4.below (Nat.le_trans h0 (Nat.le_refl _)) hm3) (Nat.le_refl _)
            have HR4 : Hid (w4.heap[w.heap.size]? = some (.cells #[.bool no, .string nm, .slice ta r.head.terms.length tc, .slice (some ⟨b1, o1, none⟩) r.body.length bc] 53 (0, 0))) := by show _ = _; rw [hTn4.block _ hw3 (by omega)]; exact HR3.out
            have hw4 : w.heap.size < w4.heap.size := by have := hTn4.size; omega
            have HTn4 : Hid (Tn mb w w4) := HTn3.out.trans hTn4
            clear hMk4 hTn4 HA
            go_wp2
            go_roundg (r.body.length - (j + 1))
            case measure => omega
            case rel => exact ⟨j + 1, by omega, by go_num, _, _, HMk4, HM4, HB4, HR4, hw4, HTn4, HX4⟩
      · have HTo : Hid (AskT K N r acc mb (.slice ka K.length kc) (.slice na N.length nc) 0 wr) := by
          show AskT _ _ _ _ _ _ _ _ _
          unfold AskT
          rw [HX.out, List.drop_eq_nil_of_le (by omega), atGo]
          exact ⟨rfl, D1, HMk.out, HM.out⟩
        go_wp2
        go_ret
        exact ⟨0, rfl, HTo.out, HTn.out⟩

end Go.Proofs.YtalggolacdlnnaaGreatDoor

/- The walks of round's makes and next. -/
namespace Go.Proofs.YtalggolacdlnnaaGreatDoor
open Go.RowKit Go.Sort Go.Maps

/-- What makes tells. -/
def MakesT (b : Nat) (w : World) (v : Value) (er : Int) (p : List RuleD) (ss : List Nat) (r : RunD) : Prop := match makesGo r.known r.fresh r.level p ss [] with
  | none => v = .slice none 0 0 ∧ er = 4
  | some acc => er = 0 ∧ ∃ D, OwnF w b v D ∧ Mades r.known D acc

set_option maxRecDepth 100000 in
set_option maxHeartbeats 4000000 in
theorem makesC (p : List RuleD) (hp : RightP p) (σ : RuleD → Nat) (r : RunD) (hK : GoodS p r.known) (hN : Up r.fresh) (hs : ∀ f ∈ r.fresh, f ∈ r.known) (pv sv kv nv : Value) (w : World) (hpv : ruleK.sl Anyw w pv p) (hsv : intK.sl Anyw w sv (p.map σ)) (hk : Facts w kv r.known) (hn : Facts w nv r.fresh) :
    Calls Tryz.prog 41 #[pv, sv, .agg #[kv, nv, .int .i64 r.level, .int .i64 r.rounds, .bool r.done]] w fun e w' => ∃ v' er, e = .returned (.tuple #[v', .int .i64 er]) ∧ MakesT (w.heap.size + 2) w' v' er p (p.map σ) r ∧ Below w.heap.size w w' := by
  obtain ⟨K, N, lev, rn, dn⟩ := r
  dsimp only at *
  obtain ⟨pa, pc, rfl⟩ := Kind.slice hpv
  obtain ⟨sa, sc, rfl⟩ := Kind.slice hsv
  obtain ⟨ka, kc, rfl⟩ := sliceFacts hk
  obtain ⟨na, nc, rfl⟩ := sliceFacts hn
  have hssl : (p.map σ).length = p.length := List.length_map _
  generalize hss : p.map σ = ss at *
  have HSSL := hide hssl
  clear hssl
  have HP := hide hpv
  have HSV := hide hsv
  have HRP := hide hp
  have HGK := hide hK
  have HUN := hide hN
  have HSub := hide hs
  have h16 := hp.few
  obtain ⟨wa, hwa⟩ : ∃ wa, wa = w.alloc (.cells #[.slice ka K.length kc, .slice na N.length nc, .int .i64 lev, .int .i64 rn, .bool dn] 36) := ⟨_, rfl⟩
  have hLa : Later w wa := by rw [hwa]; exact (Later.refl w).alloc _
  have hza : wa.heap.size = w.heap.size + 1 := by rw [hwa]; simp
  have HRa : Hid (wa.heap[w.heap.size]? = some (.cells #[.slice ka K.length kc, .slice na N.length nc, .int .i64 lev, .int .i64 rn, .bool dn] 36 (0, 0))) := by show _ = _; rw [hwa]; exact heap_alloc_new w _
  have HKa := hide (hk.later hLa)
  have HNa := hide (hn.later hLa)
  have HLa := hide hLa
  have HMk1 : Hid (MkB (w.heap.size + 1) (.slice ka K.length kc) (.slice na N.length nc) [] (wa.alloc (.cells #[.slice ka K.length kc, .slice na N.length nc, .slice none 0 0] 110))) := by
    refine ⟨.slice none 0 0, ?_, OwnF.nil _ _⟩
    rw [← hza]; exact heap_alloc_new wa _
  have HB1 : Hid (Below wa.heap.size wa (wa.alloc (.cells #[.slice ka K.length kc, .slice na N.length nc, .slice none 0 0] 110))) := ((Later.refl wa).alloc _).below
  rw [hwa] at HMk1 HB1
  have HWa := hide hwa
  clear hpv hsv hp hK hN hs hk hn hLa hwa
  go_enter Tryz.func41, Tryz.ntmps41
  go_wp2
  go_loopg [19] p.length (fun g i wr => ∃ j : Nat, j + g = p.length ∧ i = .int .i64 j ∧ ∃ D acc, Hid (MkB (w.heap.size + 1) (.slice ka K.length kc) (.slice na N.length nc) D wr) ∧ Hid (Mades K D acc) ∧ Hid (Below wa.heap.size wa wr) ∧ Hid (makesGo K N lev p ss [] = makesGo K N lev (p.drop j) (ss.drop j) acc))
  case atStart => exact ⟨0, by omega, rfl, [], [], HMk1, Mades.nil K, by show Below _ _ _; rw [HWa.out]; exact HB1.out, (rfl : _ = _)⟩
  case round =>
    clear HMk1 HB1
    obtain ⟨j, hj, rfl, D, acc, HMk, HM, HBr, HX⟩ := hrel
    have hBw : Below w.heap.size w wr := below_trans HLa.out.below HBr.out (by omega)
    have hrr : wr.heap[w.heap.size]? = some (.cells #[.slice ka K.length kc, .slice na N.length nc, .int .i64 lev, .int .i64 rn, .bool dn] 36 (0, 0)) := (HBr.out.block _ (by omega)).trans HRa.out
    by_cases hlt : j < p.length
    · obtain ⟨r, hr⟩ : ∃ x, p[j]? = some x := ⟨_, List.getElem?_eq_getElem hlt⟩
      have hrm : r ∈ p := List.mem_of_getElem? hr
      obtain ⟨b1, o1, _, rfl, hb1, ⟨tv, bv, rfl, htv, hbv⟩, hc⟩ := Kind.sl_at HP.out hr
      have d0 : wr.cell? ⟨b1, o1 + j * 4, none⟩ = some (.bool r.head.no) := by rw [hBw.cell (p := ⟨b1, o1 + j * 4, none⟩) hb1]; exact hc 0 _ rfl
      have d1 : wr.cell? ⟨b1, o1 + j * 4 + 1, none⟩ = some (.string (bs r.head.name)) := by rw [hBw.cell (p := ⟨b1, o1 + j * 4 + 1, none⟩) hb1]; exact hc 1 _ rfl
      have d2 : wr.cell? ⟨b1, o1 + j * 4 + 2, none⟩ = some tv := by rw [hBw.cell (p := ⟨b1, o1 + j * 4 + 2, none⟩) hb1]; exact hc 2 _ rfl
      have d3 : wr.cell? ⟨b1, o1 + j * 4 + 3, none⟩ = some bv := by rw [hBw.cell (p := ⟨b1, o1 + j * 4 + 3, none⟩) hb1]; exact hc 3 _ rfl
      have hpd : p.drop j = r :: p.drop (j + 1) := by
        obtain ⟨h1, e1⟩ := List.getElem?_eq_some_iff.1 hr
        rw [List.drop_eq_getElem_cons h1, e1]
      obtain ⟨ta, tc, rfl⟩ := Kind.slice htv
      obtain ⟨ba, bc, rfl⟩ := Kind.slice hbv
      have hwr := hBw.size
      obtain ⟨s, hs⟩ : ∃ x, ss[j]? = some x := ⟨_, List.getElem?_eq_getElem (by have := HSSL.out; omega)⟩
      obtain ⟨b2, o2, _, rfl, hb2, rfl, hc2⟩ := Kind.sl_at HSV.out hs
      have hsd : ss.drop j = s :: ss.drop (j + 1) := by
        obtain ⟨h1, e1⟩ := List.getElem?_eq_some_iff.1 hs
        rw [List.drop_eq_getElem_cons h1, e1]
      have hstep : makesGo K N lev p ss [] = if (s : Int) = lev then (match askP K N r acc with
          | none => none
          | some acc' => makesGo K N lev (p.drop (j + 1)) (ss.drop (j + 1)) acc') else makesGo K N lev (p.drop (j + 1)) (ss.drop (j + 1)) acc := by
        rw [HX.out, hpd, hsd]; rfl
      have hsji : (j : Int) < (ss.length : Int) := by have := HSSL.out; omega
      obtain ⟨wb, hwb⟩ : ∃ wb, wb = wr.alloc (.cells #[.bool r.head.no, .string (bs r.head.name), .slice ta r.head.terms.length tc, .slice ba r.body.length bc] 53) := ⟨_, rfl⟩
      have hLb : Later wr wb := by rw [hwb]; exact (Later.refl _).alloc _
      have hrb : wb.heap[wr.heap.size]? = some (.cells #[.bool r.head.no, .string (bs r.head.name), .slice ta r.head.terms.length tc, .slice ba r.body.length bc] 53 (0, 0)) := by rw [hwb]; exact heap_alloc_new _ _
      have hBb : Below w.heap.size w wb := below_trans hBw hLb.below hwr
      have e0 : wb.cell? ⟨b2, o2 + j, none⟩ = some (.int .i64 s) := by rw [hBb.cell (p := ⟨b2, o2 + j, none⟩) hb2]; simpa [intK] using hc2 0 _ rfl
      have l0 : wb.cell? ⟨w.heap.size, 2, none⟩ = some (.int .i64 lev) := by rw [hLb.cell (p := ⟨w.heap.size, 2, none⟩) (Array.getElem?_eq_some_iff.1 hrr).1, cell_of_row _ _ _ _ _ _ hrr]; rfl
      have r0 : wb.cell? ⟨wr.heap.size, 0, none⟩ = some (.bool r.head.no) := by rw [cell_of_row _ _ _ _ _ _ hrb]; rfl
      have r1 : wb.cell? ⟨wr.heap.size, 0 + 1, none⟩ = some (.string (bs r.head.name)) := by rw [cell_of_row _ _ _ _ _ _ hrb]; rfl
      have r2 : wb.cell? ⟨wr.heap.size, 0 + 2, none⟩ = some (.slice ta r.head.terms.length tc) := by rw [cell_of_row _ _ _ _ _ _ hrb]; rfl
      have r3 : wb.cell? ⟨wr.heap.size, 0 + 3, none⟩ = some (.slice ba r.body.length bc) := by rw [cell_of_row _ _ _ _ _ _ hrb]; rfl
      have HMkb : Hid (MkB (w.heap.size + 1) (.slice ka K.length kc) (.slice na N.length nc) D wb) := HMk.out.below hLb.below
      have HBb : Hid (Below wa.heap.size wa wb) := below_trans HBr.out hLb.below HBr.out.size
      have HWb := hide hwb
      by_cases hsn : (s : Int) = lev
      · rw [if_pos hsn] at hstep
        have HAsk : Hid (∀ q, Calls Tryz.prog 65 #[.pointer (some ⟨w.heap.size + 1, 0, none⟩), .agg #[.bool r.head.no, .string (bs r.head.name), .slice ta r.head.terms.length tc, .slice ba r.body.length bc]] (wb.drewN q) fun e w' => ∃ er, e = .returned (.int .i64 er) ∧ AskT K N r acc (w.heap.size + 1) (.slice ka K.length kc) (.slice na N.length nc) er w' ∧ Tn (w.heap.size + 1) (wb.drewN q) w') := fun q =>
          roundAsk p HRP.out r hrm K N D acc HGK.out HUN.out HSub.out (w.heap.size + 1) _ _ _ _ wa (wb.drewN q) HKa.out HNa.out (Kind.sl_later htv HLa.out) (Kind.sl_later hbv HLa.out) (by omega) (belowN HBb.out q) (HMkb.out.drewN q) HM.out
        have hneq : ((s : Int) != lev) = false := by simp [hsn]
        have HST := hide hstep
        clear hc hc2 hr hs htv hbv hpd hsd hLb hwb hrm hrb hBb hrr hstep HX HMk hBw
        generalize bs r.head.name = nm at *
        generalize r.head.no = no at *
        subst hsn
        go_wp2
        rw [← HWb.out]
        go_quiet (fail)
        go_wp2_with fail
        refine (HAsk.out _).mono ?_
        rintro e w3 ⟨er, rfl, hT3, hTn3⟩
        have HB3 : Hid (Below wa.heap.size wa w3) := below_trans (belowN HBb.out _) (hTn3.below (n := wa.heap.size) (by omega) HBb.out.size) (Nat.le_refl _)
        clear hTn3 HAsk HWb e0 l0 r0 r1 r2 r3 d0 d1 d2 d3
        unfold AskT at hT3
        cases hh : askP K N r acc with
        | none =>
          rw [hh] at hT3
          have hT3 : er = 4 := hT3
          subst hT3
          have HT : Hid (∀ w', MakesT (w.heap.size + 2) w' (.slice none 0 0) 4 p ss ⟨K, N, s, rn, dn⟩) := fun w' => by unfold MakesT; dsimp only; rw [HST.out, hh]; exact ⟨rfl, rfl⟩
          have HBw3 : Hid (Below w.heap.size w w3) := below_trans HLa.out.below HB3.out (by omega)
          clear hh HST
          go_wp2
          exact bodyPost_ret (v := .tuple #[.slice none 0 0, .int .i64 4]) (by simp [results, Tryz.results41, go_sem]) rfl ⟨_, 4, rfl, HT.out _, HBw3.out⟩
        | some acc' =>
          rw [hh] at hT3
          obtain ⟨rfl, D', hMk', hM'⟩ := hT3
          have HX' : Hid (makesGo K N s p ss [] = makesGo K N s (p.drop (j + 1)) (ss.drop (j + 1)) acc') := by show _ = _; rw [HST.out, hh]
          have HMk' := hide hMk'
          have HM' := hide hM'
          clear hh HST hMk' hM'
          go_wp2
          go_roundg (p.length - (j + 1))
          case measure => omega
          case rel => exact ⟨j + 1, by omega, by go_num, D', acc', HMk', HM', HB3, HX'⟩
      · rw [if_neg hsn] at hstep
        have hneq : ((s : Int) != lev) = true := by simp [hsn]
        have HX' := hide hstep
        clear hc hc2 hr hs htv hbv hpd hsd hLb hwb hrm hrb hBb hrr hstep HX HMk hBw
        generalize bs r.head.name = nm at *
        generalize r.head.no = no at *
        go_wp2
        rw [← HWb.out]
        go_quiet (fail)
        go_wp2
        go_roundg (p.length - (j + 1))
        case measure => omega
        case rel => exact ⟨j + 1, by omega, by go_num, D, acc, HMkb.out.drewN _, HM, belowN HBb.out _, HX'⟩
    · obtain ⟨dv, hrow, hO⟩ := HMk.out
      obtain ⟨da, dc, rfl⟩ := hO.slice
      have c2 : wr.cell? ⟨w.heap.size + 1, 2, none⟩ = some (.slice da D.length dc) := by rw [cell_of_row _ _ _ _ _ _ hrow]; rfl
      have HT : Hid (MakesT (w.heap.size + 2) wr (.slice da D.length dc) 0 p ss ⟨K, N, lev, rn, dn⟩) := by
        show MakesT _ _ _ _ _ _ _
        unfold MakesT
        dsimp only
        rw [HX.out, List.drop_eq_nil_of_le (by omega)]
        unfold makesGo
        exact ⟨rfl, D, hO, HM.out⟩
      have HBw := hide hBw
      clear hrow hO HX hBw hrr
      go_wp2
      exact bodyPost_ret (v := .tuple #[.slice da D.length dc, .int .i64 0]) (by simp [results, Tryz.results41, go_sem]) rfl ⟨_, 0, rfl, HT.out, HBw.out⟩

end Go.Proofs.YtalggolacdlnnaaGreatDoor
