/- What is wrong with programs, and their strata: the document's answer, on plain data. Nothing of the program. -/
import Derived.Test.YthogickpeldhlaaSyn
namespace Go.Proofs.Ythogickpeldhlaa

/-- One more, if it is not there. -/
def addNew (l : List Bs) (s : Bs) : List Bs := if l.contains s then l else l ++ [s]
def varsGo (l : List Bs) (ts : List TermD) : List Bs := ts.foldl (fun l t => if t.1 then addNew l t.2 else l) l
/-- An atom's variables. -/
def vars (a : AtomD) : List Bs := varsGo [] a.terms
def wrongTerm (t : TermD) : Bool := if t.1 then !isVar t.2 else !isNamed t.2
def wrongAtom (a : AtomD) : Int := if isNamed a.name = false then 7 else if 4 < a.terms.length then 5 else if a.terms.any wrongTerm then 7 else 0
/-- What atoms that are so give. -/
def givenBy (l : List AtomD) (s : Bs) : Bool := l.any fun a => !a.no && (vars a).contains s
def wrongAtoms : List AtomD → Int
  | [] => 0
  | a :: l => if wrongAtom a = 0 then wrongAtoms l else wrongAtom a
def wrongBody (l : List AtomD) : Int := if 5 < l.length then 5 else if wrongAtoms l = 0 then (if l.all (fun a => (vars a).all (givenBy l)) then 0 else 9) else wrongAtoms l

/-- A name's number, where it has one. -/
abbrev Nums := Bs → Option Nat
def Nums.put (m : Nums) (s : Bs) (n : Nat) : Nums := fun t => if t = s then some n else m t
def fitOne (m : Nums) (a : AtomD) : Bool × Nums := match m a.name with
  | none => (true, m.put a.name a.terms.length)
  | some n => (decide (n = a.terms.length), m)
def fitAll : Nums → List AtomD → Bool × Nums
  | m, [] => (true, m)
  | m, a :: l => if (fitOne m a).1 then fitAll (fitOne m a).2 l else (false, (fitOne m a).2)
/-- What is wrong with a rule, behind others. -/
def wrongRule (m : Nums) (r : RuleD) : Int × Nums :=
  if wrongAtom r.head = 0 then
    if r.head.no then (2, m) else
    if wrongBody r.body = 0 then
      if (vars r.head).all (givenBy r.body) then
        if (fitOne m r.head).1 then (if (fitAll (fitOne m r.head).2 r.body).1 then 0 else 8, (fitAll (fitOne m r.head).2 r.body).2) else (8, (fitOne m r.head).2)
      else (9, m)
    else (wrongBody r.body, m)
  else (wrongAtom r.head, m)
def wrongGo : Nums → Nat → List RuleD → Int × Nat
  | _, _, [] => (0, 0)
  | m, i, r :: l => if (wrongRule m r).1 = 0 then wrongGo (wrongRule m r).2 (i + 1) l else ((wrongRule m r).1, i)
/-- What is wrong with a program, and at which rule. -/
def wrongP (p : List RuleD) : Int × Nat := if 16 < p.length then (5, 0) else wrongGo (fun _ => none) 0 p

/-- The least that a head may have in whose body an atom stands. -/
def behind (m : Nums) (a : AtomD) : Nat := match m a.name with
  | none => 0
  | some n => if a.no then n + 1 else n
def numOf (m : Nums) (s : Bs) : Nat := (m s).getD 0
def liftAtom (h : Bs) (x : Nums × Bool) (a : AtomD) : Nums × Bool := if numOf x.1 h < behind x.1 a then (x.1.put h (behind x.1 a), true) else x
def liftRule (x : Nums × Bool) (r : RuleD) : Nums × Bool := r.body.foldl (liftAtom r.head.name) x
def liftAll (x : Nums × Bool) (p : List RuleD) : Nums × Bool := p.foldl liftRule x
def startGo (m : Nums) (p : List RuleD) : Nums := p.foldl (fun m r => m.put r.head.name 0) m
def start (p : List RuleD) : Nums := startGo (fun _ => none) p
def strataGo (p : List RuleD) : Nat → Nums → Option Nums
  | 0, _ => none
  | n + 1, m => if (liftAll (m, false) p).2 then strataGo p n (liftAll (m, false) p).1 else some (liftAll (m, false) p).1
def each (m : Nums) (p : List RuleD) : List Nat := p.map fun r => numOf m r.head.name
/-- A program's strata, and what is wrong. -/
def strataP (p : List RuleD) : List Nat × Int × Nat :=
  if (wrongP p).1 = 0 then match strataGo p (p.length + 1) (start p) with
    | some m => (each m p, 0, 0)
    | none => ([], 10, 0)
  else ([], wrongP p)

/-! ### what is wrong with less is wrong with more -/
theorem wrongGo_append (l q : List RuleD) : ∀ (m : Nums) (i : Nat), (wrongGo m i (l ++ q)).1 = 0 → (wrongGo m i l).1 = 0 := by
  induction l with
  | nil => intro m i _; rfl
  | cons r l ih =>
    intro m i h
    rw [List.cons_append] at h
    unfold wrongGo at h ⊢
    split
    · rename_i h0; rw [if_pos h0] at h; exact ih _ _ h
    · rename_i h0; rw [if_neg h0] at h; exact h

theorem wrongP_take {p : List RuleD} (h : (wrongP p).1 = 0) (n : Nat) : (wrongP (p.take n)).1 = 0 := by
  unfold wrongP at h ⊢
  split at h
  · simp at h
  · rw [if_neg (by rw [List.length_take]; omega)]
    rw [← List.take_append_drop n p] at h
    exact wrongGo_append _ _ _ _ h

theorem wrongGo_at (l : List RuleD) : ∀ (m : Nums) (i : Nat), (wrongGo m i l).1 = 0 → (wrongGo m i l).2 = 0 := by
  induction l with
  | nil => intro m i _; rfl
  | cons r l ih =>
    intro m i h
    unfold wrongGo at h ⊢
    split
    · rename_i h0; rw [if_pos h0] at h; exact ih _ _ h
    · rename_i h0; rw [if_neg h0] at h; exact absurd h h0

/-! ### numbers that hold -/
def isHead (p : List RuleD) (s : Bs) : Prop := ∃ r ∈ p, r.head.name = s
def step (a : AtomD) : Nat := if a.no then 1 else 0
/-- With these numbers all is as it must be. -/
def Sol (p : List RuleD) (σ : Bs → Nat) : Prop := ∀ r ∈ p, ∀ a ∈ r.body, isHead p a.name → σ a.name + step a ≤ σ r.head.name

/-- Just heads have numbers. -/
def Doms (p : List RuleD) (m : Nums) : Prop := ∀ s, (m s).isSome ↔ isHead p s
/-- No number is greater than what holds. -/
def Least (p : List RuleD) (m : Nums) : Prop := ∀ σ, Sol p σ → ∀ s, numOf m s ≤ σ s

theorem behind_eq {p : List RuleD} {m : Nums} (hd : Doms p m) (a : AtomD) (h : isHead p a.name) : behind m a = numOf m a.name + step a := by
  unfold behind numOf step
  have := (hd a.name).2 h
  obtain ⟨n, hn⟩ := Option.isSome_iff_exists.1 this
  rw [hn]
  cases a.no <;> simp
theorem behind_none {p : List RuleD} {m : Nums} (hd : Doms p m) (a : AtomD) (h : ¬ isHead p a.name) : behind m a = 0 := by
  unfold behind
  have : m a.name = none := by
    cases e : m a.name with
    | none => rfl
    | some n => exact absurd ((hd a.name).1 (by rw [e]; rfl)) h
  rw [this]

theorem numOf_put (m : Nums) (s t : Bs) (n : Nat) : numOf (m.put s n) t = if t = s then n else numOf m t := by
  unfold numOf Nums.put
  by_cases h : t = s <;> simp [h]

theorem Doms.put {p : List RuleD} {m : Nums} (hd : Doms p m) {s : Bs} (hs : isHead p s) (n : Nat) : Doms p (m.put s n) := by
  intro t
  unfold Nums.put
  by_cases h : t = s
  · subst h; simp [hs]
  · rw [if_neg h]; exact hd t

/-- What lifting keeps. -/
theorem liftAtom_kept {p : List RuleD} {r : RuleD} (hr : r ∈ p) {x : Nums × Bool} (hd : Doms p x.1) (hl : Least p x.1) {a : AtomD} (ha : a ∈ r.body) :
    Doms p (liftAtom r.head.name x a).1 ∧ Least p (liftAtom r.head.name x a).1 ∧ ∀ s, numOf x.1 s ≤ numOf (liftAtom r.head.name x a).1 s := by
  unfold liftAtom
  split
  · rename_i hlt
    refine ⟨hd.put ⟨r, hr, rfl⟩ _, fun σ hσ s => ?_, fun s => ?_⟩
    · show numOf (x.1.put _ _) s ≤ _
      rw [numOf_put]
      split
      · rename_i h
        subst h
        by_cases hh : isHead p a.name
        · rw [behind_eq hd a hh]
          have h1 := hσ r hr a ha hh
          have h2 := hl σ hσ a.name
          omega
        · rw [behind_none hd a hh]; omega
      · exact hl σ hσ s
    · show _ ≤ numOf (x.1.put _ _) s
      rw [numOf_put]
      split
      · rename_i h; subst h; omega
      · exact Nat.le_refl _
  · exact ⟨hd, hl, fun _ => Nat.le_refl _⟩

theorem liftRule_kept {p : List RuleD} {r : RuleD} (hr : r ∈ p) (l : List AtomD) : ∀ {x : Nums × Bool}, Doms p x.1 → Least p x.1 → (∀ a ∈ l, a ∈ r.body) →
    Doms p (l.foldl (liftAtom r.head.name) x).1 ∧ Least p (l.foldl (liftAtom r.head.name) x).1 ∧ ∀ s, numOf x.1 s ≤ numOf (l.foldl (liftAtom r.head.name) x).1 s := by
  induction l with
  | nil => intro x hd hl _; exact ⟨hd, hl, fun _ => Nat.le_refl _⟩
  | cons a l ih =>
    intro x hd hl ha
    obtain ⟨d1, l1, u1⟩ := liftAtom_kept hr hd hl (ha a (by simp))
    obtain ⟨d2, l2, u2⟩ := ih d1 l1 (fun b hb => ha b (by simp [hb]))
    exact ⟨d2, l2, fun s => Nat.le_trans (u1 s) (u2 s)⟩

theorem liftAll_kept {p : List RuleD} (l : List RuleD) : ∀ {x : Nums × Bool}, Doms p x.1 → Least p x.1 → (∀ r ∈ l, r ∈ p) →
    Doms p (liftAll x l).1 ∧ Least p (liftAll x l).1 ∧ ∀ s, numOf x.1 s ≤ numOf (liftAll x l).1 s := by
  induction l with
  | nil => intro x hd hl _; exact ⟨hd, hl, fun _ => Nat.le_refl _⟩
  | cons r l ih =>
    intro x hd hl hr
    obtain ⟨d1, l1, u1⟩ := liftRule_kept (hr r (by simp)) r.body hd hl (fun a h => h)
    obtain ⟨d2, l2, u2⟩ := ih d1 l1 (fun b hb => hr b (by simp [hb]))
    exact ⟨d2, l2, fun s => Nat.le_trans (u1 s) (u2 s)⟩

/-- What was lifted stays so. -/
theorem liftAtom_true (h : Bs) (x : Nums × Bool) (a : AtomD) (hx : x.2 = true) : (liftAtom h x a).2 = true := by unfold liftAtom; split <;> simp [hx]
theorem foldAtom_true (h : Bs) (l : List AtomD) : ∀ x : Nums × Bool, x.2 = true → (l.foldl (liftAtom h) x).2 = true := by
  induction l with
  | nil => intro x hx; exact hx
  | cons a l ih => intro x hx; exact ih _ (liftAtom_true h x a hx)
theorem liftAll_true (l : List RuleD) : ∀ x : Nums × Bool, x.2 = true → (liftAll x l).2 = true := by
  induction l with
  | nil => intro x hx; exact hx
  | cons r l ih => intro x hx; exact ih _ (foldAtom_true _ _ x hx)

/-- Where nothing is lifted, all is as it must be. -/
theorem foldAtom_rest (h : Bs) (l : List AtomD) : ∀ m : Nums, (l.foldl (liftAtom h) (m, false)).2 = false → l.foldl (liftAtom h) (m, false) = (m, false) ∧ ∀ a ∈ l, behind m a ≤ numOf m h := by
  induction l with
  | nil => intro m _; exact ⟨rfl, by simp⟩
  | cons a l ih =>
    intro m hm
    rw [List.foldl_cons] at hm ⊢
    by_cases hlt : numOf m h < behind m a
    · have : (liftAtom h (m, false) a).2 = true := by unfold liftAtom; rw [if_pos hlt]
      rw [foldAtom_true h l _ this] at hm; cases hm
    · have e : liftAtom h (m, false) a = (m, false) := by unfold liftAtom; rw [if_neg hlt]
      rw [e] at hm ⊢
      obtain ⟨h1, h2⟩ := ih m hm
      refine ⟨h1, fun b hb => ?_⟩
      rcases List.mem_cons.1 hb with rfl | hb
      · omega
      · exact h2 b hb
theorem liftAll_rest (l : List RuleD) : ∀ m : Nums, (liftAll (m, false) l).2 = false → liftAll (m, false) l = (m, false) ∧ ∀ r ∈ l, ∀ a ∈ r.body, behind m a ≤ numOf m r.head.name := by
  induction l with
  | nil => intro m _; exact ⟨rfl, by simp⟩
  | cons r l ih =>
    intro m hm
    unfold liftAll at hm ⊢
    rw [List.foldl_cons] at hm ⊢
    have h0 : (liftRule (m, false) r).2 = false := by
      cases hc : (liftRule (m, false) r).2 with
      | false => rfl
      | true => have := liftAll_true l _ hc; unfold liftAll at this; rw [this] at hm; cases hm
    obtain ⟨e, h1⟩ := foldAtom_rest _ _ m h0
    have e' : liftRule (m, false) r = (m, false) := e
    rw [e'] at hm ⊢
    obtain ⟨h2, h3⟩ := ih m hm
    refine ⟨h2, fun q hq => ?_⟩
    rcases List.mem_cons.1 hq with rfl | hq
    · exact h1
    · exact h3 q hq

/-- Where all is as it must be, nothing is lifted. -/
theorem liftAll_still (l : List RuleD) (m : Nums) (h : ∀ r ∈ l, ∀ a ∈ r.body, behind m a ≤ numOf m r.head.name) : ∀ b, liftAll (m, b) l = (m, b) := by
  induction l with
  | nil => intro b; rfl
  | cons r l ih =>
    intro b
    have hr : liftRule (m, b) r = (m, b) := by
      have : ∀ q : List AtomD, (∀ a ∈ q, behind m a ≤ numOf m r.head.name) → q.foldl (liftAtom r.head.name) (m, b) = (m, b) := by
        intro q
        induction q with
        | nil => intro _; rfl
        | cons a q iq =>
          intro hq
          rw [List.foldl_cons]
          have : liftAtom r.head.name (m, b) a = (m, b) := by unfold liftAtom; rw [if_neg (by have := hq a (by simp); show ¬ numOf m _ < behind m a; omega)]
          rw [this]; exact iq fun c hc => hq c (by simp [hc])
      exact this r.body (h r (by simp))
    show liftAll (liftRule (m, b) r) l = (m, b)
    rw [hr]; exact ih (fun q hq => h q (by simp [hq])) b

/-! ### at the beginning -/
theorem startGo_dom (l : List RuleD) : ∀ (m : Nums) (s : Bs), (startGo m l s).isSome ↔ ((m s).isSome ∨ isHead l s) := by
  induction l with
  | nil => intro m s; simp [startGo, isHead]
  | cons r l ih =>
    intro m s
    show (startGo (m.put r.head.name 0) l s).isSome ↔ _
    rw [ih]
    unfold Nums.put isHead
    by_cases h : s = r.head.name
    · subst h; simp
    · have h' : ¬ r.head.name = s := fun e => h e.symm
      simp [h, h']
theorem startGo_zero (l : List RuleD) : ∀ (m : Nums), (∀ s, numOf m s = 0) → ∀ s, numOf (startGo m l) s = 0 := by
  induction l with
  | nil => intro m h; exact h
  | cons r l ih =>
    intro m h
    exact ih _ fun s => by rw [numOf_put]; split <;> simp [h]
theorem start_dom (p : List RuleD) : Doms p (start p) := fun s => by unfold start; rw [startGo_dom]; simp
theorem start_zero (p : List RuleD) (s : Bs) : numOf (start p) s = 0 := startGo_zero p _ (fun _ => rfl) s
theorem start_least (p : List RuleD) : Least p (start p) := fun σ _ s => by rw [start_zero]; exact Nat.zero_le _

/-- What strataGo tells holds, and is the least. -/
theorem strataGo_some {p : List RuleD} : ∀ (n : Nat) (m m' : Nums), Doms p m → Least p m → strataGo p n m = some m' → Doms p m' ∧ Least p m' ∧ ∀ r ∈ p, ∀ a ∈ r.body, behind m' a ≤ numOf m' r.head.name := by
  intro n
  induction n with
  | zero => intro m m' _ _ h; cases h
  | succ n ih =>
    intro m m' hd hl h
    unfold strataGo at h
    split at h
    · obtain ⟨d1, l1, _⟩ := liftAll_kept p hd hl (x := (m, false)) (fun _ h => h)
      exact ih _ _ d1 l1 h
    · rename_i hf
      obtain ⟨e, h1⟩ := liftAll_rest p m (by simpa using hf)
      rw [e] at h
      cases h
      exact ⟨hd, hl, h1⟩

theorem sol_of {p : List RuleD} {m : Nums} (hd : Doms p m) (h : ∀ r ∈ p, ∀ a ∈ r.body, behind m a ≤ numOf m r.head.name) : Sol p (numOf m) := fun r hr a ha hh => by
  rw [← behind_eq hd a hh]; exact h r hr a ha

/-- What a program's strata are: numbers that hold, the least. -/
theorem strataP_ok {p : List RuleD} {l : List Nat} {k : Nat} (h : strataP p = (l, 0, k)) : (wrongP p).1 = 0 ∧ ∃ m, l = each m p ∧ Doms p m ∧ Least p m ∧ Sol p (numOf m) := by
  unfold strataP at h
  split at h
  · rename_i h0
    split at h
    · rename_i m hm
      obtain ⟨d, le, s⟩ := strataGo_some _ _ _ (start_dom p) (start_least p) hm
      simp at h
      exact ⟨h0, m, h.1.symm, d, le, sol_of d s⟩
    · simp at h
  · rename_i h0
    rw [Prod.mk.injEq] at h
    exact absurd (congrArg Prod.fst h.2) h0

theorem strataP_bad {p : List RuleD} {l : List Nat} {e : Int} {k : Nat} (h : strataP p = (l, e, k)) (he : e ≠ 0) : l = [] := by
  unfold strataP at h
  split at h
  · split at h
    · simp at h; exact absurd h.2.1.symm he
    · simp at h; exact h.1
  · simp at h; exact h.1

/-! ### no stratum is left out -/
theorem no_gap {p : List RuleD} {m : Nums} (hl : Least p m) (hs : Sol p (numOf m)) (k : Nat) (hk : ∀ r ∈ p, numOf m r.head.name ≠ k) : ∀ r ∈ p, numOf m r.head.name < k := by
  intro r hr
  have hσ : Sol p (fun s => if numOf m s > k then numOf m s - 1 else numOf m s) := by
    intro q hq a ha hh
    have h1 := hs q hq a ha hh
    have h2 := hk q hq
    obtain ⟨q', hq', e'⟩ := hh
    have h3 := hk q' hq'
    rw [e'] at h3
    have h4 : step a ≤ 1 := by unfold step; split <;> omega
    show (if numOf m a.name > k then _ else _) + _ ≤ (if numOf m q.head.name > k then _ else _)
    split <;> split <;> omega
  have h1 : numOf m r.head.name ≤ (if numOf m r.head.name > k then numOf m r.head.name - 1 else numOf m r.head.name) := hl _ hσ r.head.name
  have h2 := hk r hr
  split at h1 <;> omega

/-! ### where there are numbers that hold they are found -/
/-- Of all numbers that hold, some whose sum is the least. -/
theorem least_sol {p : List RuleD} {σ : Bs → Nat} (h : Sol p σ) : ∃ τ, Sol p τ ∧ ∀ τ', Sol p τ' → (p.map fun r => τ r.head.name).sum ≤ (p.map fun r => τ' r.head.name).sum := by
  have : ∀ n σ, Sol p σ → (p.map fun r => σ r.head.name).sum = n → ∃ τ, Sol p τ ∧ ∀ τ', Sol p τ' → (p.map fun r => τ r.head.name).sum ≤ (p.map fun r => τ' r.head.name).sum := by
    intro n
    induction n using Nat.strongRecOn with
    | ind n ih =>
      intro σ hσ hn
      by_cases hx : ∃ τ', Sol p τ' ∧ (p.map fun r => τ' r.head.name).sum < n
      · obtain ⟨τ', h1, h2⟩ := hx
        exact ih _ h2 τ' h1 rfl
      · refine ⟨σ, hσ, fun τ' h' => ?_⟩
        rw [hn]
        exact Nat.le_of_not_lt fun hlt => hx ⟨τ', h', hlt⟩
  exact this _ σ h rfl

theorem sum_le {p : List RuleD} {f g : RuleD → Nat} (h : ∀ r ∈ p, f r ≤ g r) : (p.map f).sum ≤ (p.map g).sum := by
  induction p with
  | nil => simp
  | cons a p ih =>
    have := ih fun r hr => h r (by simp [hr])
    have := h a (by simp)
    simp; omega
theorem sum_lt {p : List RuleD} {f g : RuleD → Nat} (h : ∀ r ∈ p, f r ≤ g r) (hx : ∃ r ∈ p, f r < g r) : (p.map f).sum < (p.map g).sum := by
  induction p with
  | nil => obtain ⟨r, hr, _⟩ := hx; simp at hr
  | cons a p ih =>
    have h1 := sum_le fun r hr => h r (List.mem_cons_of_mem a hr)
    have h2 := h a (by simp)
    obtain ⟨r, hr, hlt⟩ := hx
    rcases List.mem_cons.1 hr with rfl | hr
    · simp; omega
    · have := ih (fun r hr => h r (by simp [hr])) ⟨r, hr, hlt⟩
      simp; omega

/-- Some head that is not where it must be hangs on what is. -/
theorem next_settled {p : List RuleD} {τ : Bs → Nat} (hτ : Sol p τ) (hmin : ∀ τ', Sol p τ' → (p.map fun r => τ r.head.name).sum ≤ (p.map fun r => τ' r.head.name).sum) {m : Nums} (hl : Least p m)
    (hu : ∃ r ∈ p, numOf m r.head.name ≠ τ r.head.name) : ∃ r ∈ p, ∃ a ∈ r.body, numOf m r.head.name ≠ τ r.head.name ∧ isHead p a.name ∧ numOf m a.name = τ a.name ∧ τ a.name + step a = τ r.head.name := by
  refine Classical.byContradiction fun hno => ?_
  have hle : ∀ s, numOf m s ≤ τ s := hl τ hτ
  have hσ : Sol p (fun s => if numOf m s = τ s then τ s else τ s - 1) := by
    intro r hr a ha hh
    have h1 := hτ r hr a ha hh
    have h2 := hle r.head.name
    have h3 := hle a.name
    show (if numOf m a.name = τ a.name then _ else _) + _ ≤ (if numOf m r.head.name = τ r.head.name then _ else _)
    by_cases e2 : numOf m r.head.name = τ r.head.name
    · rw [if_pos e2]; split <;> omega
    · rw [if_neg e2]
      by_cases e3 : numOf m a.name = τ a.name
      · rw [if_pos e3]
        have : ¬ τ a.name + step a = τ r.head.name := fun e => hno ⟨r, hr, a, ha, e2, hh, e3, e⟩
        omega
      · rw [if_neg e3]; omega
  obtain ⟨r, hr, hne⟩ := hu
  have := hmin _ hσ
  have hlt : (p.map fun r => (fun s => if numOf m s = τ s then τ s else τ s - 1) r.head.name).sum < (p.map fun r => τ r.head.name).sum := by
    refine sum_lt (fun q _ => ?_) ⟨r, hr, ?_⟩
    · show (if _ then _ else _) ≤ _
      split
      · exact Nat.le_refl _
      · exact Nat.sub_le _ _
    · show (if _ then _ else _) < _
      have := hle r.head.name
      rw [if_neg hne]; omega
  exact absurd hlt (Nat.not_lt.2 this)

/-- A round of lifting lifts a head at least to what its body's atoms ask of it as they were. -/
theorem foldAtom_lifts {p : List RuleD} {r : RuleD} (hr : r ∈ p) (l : List AtomD) : ∀ {x : Nums × Bool}, Doms p x.1 → Least p x.1 → (∀ a ∈ l, a ∈ r.body) → ∀ a ∈ l, isHead p a.name → numOf x.1 a.name + step a ≤ numOf (l.foldl (liftAtom r.head.name) x).1 r.head.name := by
  induction l with
  | nil => intro x _ _ _ a ha; simp at ha
  | cons b l ih =>
    intro x hd hl hb a ha hh
    obtain ⟨d1, l1, u1⟩ := liftAtom_kept hr hd hl (hb b (by simp))
    obtain ⟨d2, l2, u2⟩ := liftRule_kept hr l d1 l1 (fun c hc => hb c (by simp [hc]))
    rcases List.mem_cons.1 ha with rfl | ha
    · refine Nat.le_trans ?_ (u2 r.head.name)
      rw [← behind_eq hd a hh]
      unfold liftAtom
      split
      · show _ ≤ numOf (x.1.put _ _) _; rw [numOf_put, if_pos rfl]; exact Nat.le_refl _
      · omega
    · have := ih d1 l1 (fun c hc => hb c (by simp [hc])) a ha hh
      have h2 := u1 a.name
      exact Nat.le_trans (Nat.add_le_add_right h2 _) this
theorem liftAll_lifts {p : List RuleD} (l : List RuleD) : ∀ {x : Nums × Bool}, Doms p x.1 → Least p x.1 → (∀ r ∈ l, r ∈ p) → ∀ r ∈ l, ∀ a ∈ r.body, isHead p a.name → numOf x.1 a.name + step a ≤ numOf (liftAll x l).1 r.head.name := by
  induction l with
  | nil => intro x _ _ _ r hr; simp at hr
  | cons q l ih =>
    intro x hd hl hq r hr a ha hh
    obtain ⟨d1, l1, u1⟩ := liftRule_kept (hq q (by simp)) q.body hd hl (fun c hc => hc)
    obtain ⟨d2, l2, u2⟩ := liftAll_kept l d1 l1 (fun c hc => hq c (by simp [hc]))
    rcases List.mem_cons.1 hr with rfl | hr
    · exact Nat.le_trans (foldAtom_lifts (hq r (by simp)) r.body hd hl (fun c hc => hc) a ha hh) (u2 _)
    · exact Nat.le_trans (Nat.add_le_add_right (u1 a.name) _) (ih d1 l1 (fun c hc => hq c (by simp [hc])) r hr a ha hh)

/-- How many heads are where they must be. -/
def settled (p : List RuleD) (τ : Bs → Nat) (m : Nums) : Nat := (p.map fun r => if numOf m r.head.name = τ r.head.name then 1 else 0).sum

theorem settled_le (p : List RuleD) (τ : Bs → Nat) (m : Nums) : settled p τ m ≤ p.length := by
  unfold settled
  induction p with
  | nil => simp
  | cons r p ih => simp only [List.map_cons, List.sum_cons, List.length_cons]; split <;> omega
theorem settled_all {p : List RuleD} {τ : Bs → Nat} {m : Nums} (h : p.length ≤ settled p τ m) : ∀ r ∈ p, numOf m r.head.name = τ r.head.name := by
  induction p with
  | nil => intro r hr; simp at hr
  | cons q p ih =>
    have h1 := settled_le p τ m
    unfold settled at h h1 ih
    simp only [List.map_cons, List.sum_cons, List.length_cons] at h
    intro r hr
    split at h
    · rename_i hq
      rcases List.mem_cons.1 hr with rfl | hr
      · exact hq
      · exact ih (by omega) r hr
    · omega

theorem settled_grows {p : List RuleD} {τ : Bs → Nat} (hτ : Sol p τ) (hmin : ∀ τ', Sol p τ' → (p.map fun r => τ r.head.name).sum ≤ (p.map fun r => τ' r.head.name).sum) {m : Nums} (hd : Doms p m) (hl : Least p m)
    (hu : ∃ r ∈ p, numOf m r.head.name ≠ τ r.head.name) (b : Bool) : settled p τ m + 1 ≤ settled p τ (liftAll (m, b) p).1 := by
  obtain ⟨r, hr, a, ha, h1, h2, h3, h4⟩ := next_settled hτ hmin hl hu
  obtain ⟨d1, l1, u1⟩ := liftAll_kept p hd hl (x := (m, b)) (fun _ h => h)
  have h5 := liftAll_lifts p hd hl (x := (m, b)) (fun _ h => h) r hr a ha h2
  unfold settled
  refine Nat.succ_le_of_lt (sum_lt (fun q hq => ?_) ⟨r, hr, ?_⟩)
  · have e1 := u1 q.head.name
    have e2 := l1 τ hτ q.head.name
    have e3 : numOf (m, b).1 q.head.name = numOf m q.head.name := rfl
    split
    · rw [if_pos (by omega)]; exact Nat.le_refl _
    · split <;> omega
  · have e2 := l1 τ hτ r.head.name
    have e3 : numOf (m, b).1 a.name = numOf m a.name := rfl
    rw [if_neg h1, if_pos (by omega)]; omega

theorem strataGo_ends {p : List RuleD} {τ : Bs → Nat} (hτ : Sol p τ) (hmin : ∀ τ', Sol p τ' → (p.map fun r => τ r.head.name).sum ≤ (p.map fun r => τ' r.head.name).sum) :
    ∀ (n : Nat) (m : Nums), Doms p m → Least p m → p.length < n + settled p τ m → ∃ m', strataGo p n m = some m' := by
  intro n
  induction n with
  | zero => intro m _ _ h; have := settled_le p τ m; omega
  | succ n ih =>
    intro m hd hl hn
    unfold strataGo
    by_cases hu : ∃ r ∈ p, numOf m r.head.name ≠ τ r.head.name
    · have hg := settled_grows hτ hmin hd hl hu false
      obtain ⟨d1, l1, u1⟩ := liftAll_kept p hd hl (x := (m, false)) (fun _ h => h)
      split
      · exact ih _ d1 l1 (by omega)
      · exact ⟨_, rfl⟩
    · have hall : ∀ r ∈ p, numOf m r.head.name = τ r.head.name := fun r hr => Classical.byContradiction fun h => hu ⟨r, hr, h⟩
      have hst : liftAll (m, false) p = (m, false) := by
        refine liftAll_still p m (fun r hr a ha => ?_) false
        by_cases hh : isHead p a.name
        · rw [behind_eq hd a hh, hall r hr]
          obtain ⟨q, hq, e⟩ := hh
          have h1 := hτ r hr a ha ⟨q, hq, e⟩
          have h2 := hall q hq
          rw [e] at h2
          omega
        · rw [behind_none hd a hh]; exact Nat.zero_le _
      rw [hst]
      exact ⟨_, rfl⟩

/-- WHERE THERE ARE NUMBERS THAT HOLD, THERE ARE STRATA. -/
theorem strataP_of {p : List RuleD} (hw : (wrongP p).1 = 0) {σ : Bs → Nat} (h : Sol p σ) : ∃ l, strataP p = (l, 0, 0) := by
  obtain ⟨τ, hτ, hmin⟩ := least_sol h
  obtain ⟨m, hm⟩ := strataGo_ends hτ hmin (p.length + 1) (start p) (start_dom p) (start_least p) (by omega)
  exact ⟨each m p, by unfold strataP; rw [if_pos hw, hm]⟩

/-- A PART OF A PROGRAM THAT HAS STRATA HAS THEM, AND NONE LIES HIGHER. -/
theorem strataP_take {p : List RuleD} {l : List Nat} {k : Nat} (h : strataP p = (l, 0, k)) (n : Nat) : ∃ l', strataP (p.take n) = (l', 0, 0) ∧ l'.length = (p.take n).length ∧ ∀ (i a b : Nat), l'[i]? = some a → l[i]? = some b → a ≤ b := by
  obtain ⟨h0, m, rfl, hd, hl, hs⟩ := strataP_ok h
  have hsub : ∀ r ∈ p.take n, r ∈ p := fun r hr => List.mem_of_mem_take hr
  have hs' : Sol (p.take n) (numOf m) := fun r hr a ha ⟨q, hq, e⟩ => hs r (hsub r hr) a ha ⟨q, hsub q hq, e⟩
  obtain ⟨l', hl'⟩ := strataP_of (wrongP_take h0 n) hs'
  obtain ⟨_, m', rfl, _, hle, _⟩ := strataP_ok hl'
  refine ⟨_, hl', by simp [each], fun i a b ha hb => ?_⟩
  unfold each at ha hb
  rw [List.getElem?_map] at ha hb
  rw [List.getElem?_take] at ha
  split at ha
  · cases hp : p[i]? with
    | none => rw [hp] at ha; simp at ha
    | some r =>
      rw [hp] at ha hb
      simp at ha hb
      rw [← ha, ← hb]
      exact hle _ hs' _
  · simp at ha

/-- WHAT ASKS FOR NOTHING NOT TO BE SO HAS ONE STRATUM. -/
theorem strataP_plain {p : List RuleD} (hw : (wrongP p).1 = 0) (h : ∀ r ∈ p, ∀ a ∈ r.body, a.no = false) : strataP p = (p.map fun _ => 0, 0, 0) := by
  have hs : Sol p (fun _ => 0) := fun r hr a ha _ => by simp [step, h r hr a ha]
  obtain ⟨l, hl⟩ := strataP_of hw hs
  obtain ⟨_, m, rfl, _, hle, _⟩ := strataP_ok hl
  rw [hl]
  congr 1
  unfold each
  refine List.map_congr_left fun r _ => ?_
  have := hle _ hs r.head.name
  exact Nat.le_zero.1 this

end Go.Proofs.Ythogickpeldhlaa
