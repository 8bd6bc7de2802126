/- What is parsed, and printed, is parsed as the same: plain. Nothing of the program. -/
import Derived.Test.YtflldbpjhcgkbaaPrS
namespace Go.Proofs.Ytflldbpjhcgkbaa

def okTerm (t : TermD) : Prop := fitsTerm t.2 = true ∧ t.1 = isVar t.2
def okAtom (a : AtomD) : Prop := isNamed a.name = true ∧ (∀ t ∈ a.terms, okTerm t) ∧ a.terms.length ≤ 4
def okRule (r : RuleD) : Prop := okAtom r.head ∧ r.head.no = false ∧ (∀ a ∈ r.body, okAtom a) ∧ r.body.length ≤ 5

theorem word_ok {f : Bs → Bool} {l w r : Bs} (h : word f l = .ok w r) : f w = true := by
  unfold word at h
  split at h
  · cases h
  · split at h
    · cases h; assumption
    · cases h
theorem term_ok {l r : Bs} {t : TermD} (h : term l = .ok t r) : okTerm t := by
  obtain ⟨w, r', h1, h2⟩ := Res.next_ok h
  cases h2
  exact ⟨word_ok h1, rfl⟩
theorem listGo_ok {α : Type} {P : Bs → Res α} {Q : α → Prop} (hP : ∀ l a r, P l = .ok a r → Q a) : ∀ n out l res r, listGo P n out l = .ok res r → (∀ a ∈ out, Q a) → (∀ a ∈ res, Q a) ∧ res.length ≤ out.length + n := by
  intro n
  induction n with
  | zero =>
    intro out l res r h ho
    unfold listGo at h
    split at h
    · cases h
    · cases h; exact ⟨ho, by omega⟩
  | succ n ih =>
    intro out l res r h ho
    unfold listGo at h
    split at h
    · obtain ⟨a, r', h1, h2⟩ := Res.next_ok h
      have := ih _ _ _ _ h2 (by
        intro b hb
        rcases List.mem_append.1 hb with hb | hb
        · exact ho b hb
        · simp at hb; subst hb; exact hP _ _ _ h1)
      exact ⟨this.1, by have := this.2; simp at this; omega⟩
    · cases h; exact ⟨ho, by omega⟩
theorem listP_ok {α : Type} {P : Bs → Res α} {Q : α → Prop} (hP : ∀ l a r, P l = .ok a r → Q a) {n : Nat} {l r : Bs} {res : List α} (h : listP P (n + 1) l = .ok res r) : (∀ a ∈ res, Q a) ∧ res.length ≤ n + 1 := by
  obtain ⟨a, r', h1, h2⟩ := Res.next_ok h
  have := listGo_ok hP _ _ _ _ _ h2 (by intro b hb; simp at hb; subst hb; exact hP _ _ _ h1)
  exact ⟨this.1, by have := this.2; simp at this; omega⟩
theorem atom_ok {l r : Bs} {a : AtomD} (h : atom l = .ok a r) : okAtom a ∧ a.no = false := by
  obtain ⟨w, r1, h1, h2⟩ := Res.next_ok h
  split at h2
  · obtain ⟨ts, r2, h4, h5⟩ := Res.next_ok h2
    rw [(mustTake_ok h5).2.1]
    have := listP_ok (n := 3) (fun l a r h => term_ok h) h4
    exact ⟨⟨word_ok h1, this.1, this.2⟩, rfl⟩
  · cases h2
    exact ⟨⟨word_ok h1, by simp, by simp⟩, rfl⟩
theorem bodyAtom_ok {l r : Bs} {a : AtomD} (h : bodyAtom l = .ok a r) : okAtom a := by
  obtain ⟨b, r1, h1, h2⟩ := Res.next_ok h
  cases h2
  exact (atom_ok h1).1
theorem rule_ok {l r : Bs} {a : RuleD} (h : rule l = .ok a r) : okRule a := by
  obtain ⟨hd, r1, h1, h2⟩ := Res.next_ok h
  split at h2
  · obtain ⟨b, r2, h4, h5⟩ := Res.next_ok h2
    rw [(mustTake_ok h5).2.1]
    have := listP_ok (n := 4) (fun l a r h => bodyAtom_ok h) h4
    exact ⟨(atom_ok h1).1, (atom_ok h1).2, this.1, this.2⟩
  · rw [(mustTake_ok h2).2.1]
    exact ⟨(atom_ok h1).1, (atom_ok h1).2, by simp, by simp⟩
theorem rules_ok : ∀ n out l p r, rulesGo n out l = .ok p r → (∀ a ∈ out, okRule a) → (∀ a ∈ p, okRule a) ∧ p.length ≤ out.length + n := by
  intro n
  induction n with
  | zero =>
    intro out l p r h ho
    unfold rulesGo at h
    split at h
    · cases h; exact ⟨ho, by omega⟩
    · cases h
  | succ n ih =>
    intro out l p r h ho
    unfold rulesGo at h
    split at h
    · cases h; exact ⟨ho, by omega⟩
    · obtain ⟨a, r', h1, h2⟩ := Res.next_ok h
      have := ih _ _ _ _ h2 (by
        intro b hb
        rcases List.mem_append.1 hb with hb | hb
        · exact ho b hb
        · simp at hb; subst hb; exact rule_ok h1)
      exact ⟨this.1, by have := this.2; simp at this; omega⟩

/-- A word: signs alone, and some. -/
def Wd (w : Bs) : Prop := w ≠ [] ∧ w.length ≤ 12 ∧ ∀ c ∈ w, isSign c = true
theorem named_wd {w : Bs} (h : isNamed w = true) : Wd w := by
  unfold isNamed at h
  cases w with
  | nil => simp at h
  | cons c t =>
    simp only [Bool.and_eq_true, decide_eq_true_iff, List.all_eq_true] at h
    exact ⟨by simp, h.1.1, h.2⟩
theorem var_wd {w : Bs} (h : isVar w = true) : Wd w := by
  unfold isVar at h
  cases w with
  | nil => simp at h
  | cons c t =>
    simp only [Bool.and_eq_true, decide_eq_true_iff, List.all_eq_true] at h
    exact ⟨by simp, h.1.1, h.2⟩
theorem fits_wd {w : Bs} (h : fitsTerm w = true) : Wd w := by
  unfold fitsTerm at h
  rw [Bool.or_eq_true] at h
  exact h.elim named_wd var_wd

/-- No sign stands first. -/
def Stop (x : Bs) : Prop := ∀ c t, x = c :: t → isSign c = false

theorem skip_sign {c : UInt8} {t : Bs} (h : isSign c = true) : skip (c :: t) = c :: t :=
  skip_other (fun e => by rcases e with e | e <;> subst e <;> exact absurd h (by decide)) (fun e => by subst e; exact absurd h (by decide))

theorem skip_word {w x : Bs} (h : Wd w) : skip (w ++ x) = w ++ x := by
  cases w with
  | nil => exact absurd rfl h.1
  | cons c t => exact skip_sign (h.2.2 c (by simp))

theorem take_word {w x : Bs} (h : ∀ c ∈ w, isSign c = true) (hx : Stop x) : (w ++ x).takeWhile isSign = w := by
  induction w with
  | nil =>
    cases x with
    | nil => rfl
    | cons c t => simp [hx c t rfl]
  | cons c t ih => rw [List.cons_append, List.takeWhile_cons, if_pos (h c (by simp)), ih (fun d hd => h d (by simp [hd]))]

theorem word_print {f : Bs → Bool} {w x : Bs} (h : Wd w) (hf : f w = true) (hx : Stop x) : word f (w ++ x) = .ok w x := by
  unfold word
  rw [skip_word h, take_word h.2.2 hx, if_neg h.1, if_pos hf]
  simp

theorem term_print {t : TermD} {x : Bs} (h : okTerm t) (hx : Stop x) : term (t.2 ++ x) = .ok t x := by
  unfold term
  rw [word_print (fits_wd h.1) h.1 hx]
  show Res.ok (isVar t.2, t.2) x = _
  rw [← h.2]

theorem took_yes (g : Bs) {l l' : Bs} (h : skip l = g ++ l') : took g l = (true, l') := by
  unfold took
  rw [h, if_pos (List.isPrefixOf_iff_prefix.2 (List.prefix_append _ _))]
  simp
theorem took_one {c : UInt8} {t : Bs} (h1 : ¬ (c = 32 ∨ c = 10)) (h2 : ¬ c = 37) : took [c] (c :: t) = (true, t) := took_yes [c] (skip_other h1 h2)
theorem took_no {c d : UInt8} {g l t : Bs} (h : skip l = d :: t) (hc : c ≠ d) : took (c :: g) l = (false, d :: t) := by
  unfold took
  rw [h, if_neg]
  simp [List.isPrefixOf, hc]
theorem took_skip {g l l' : Bs} (h : skip l = skip l') : took g l = took g l' := by unfold took; rw [h]

theorem terms_print : ∀ (us : List TermD) (n : Nat) (out : List TermD) (y : Bs), (∀ t ∈ us, okTerm t) → us.length ≤ n → listGo term n out (Lib.joinTail [44] (us.map (·.2)) ++ 41 :: y) = .ok (out ++ us) (41 :: y)
  | [], n, out, y, _, _ => by
    have ht : took [44] (41 :: y) = (false, 41 :: y) := took_no (skip_other (by decide) (by decide)) (by decide)
    rw [show Lib.joinTail [44] (([] : List TermD).map (·.2)) ++ 41 :: y = 41 :: y from rfl]
    cases n <;> (unfold listGo; rw [ht]; simp)
  | u :: us, 0, out, y, _, h => by simp at h
  | u :: us, n + 1, out, y, hu, h => by
    have ht : took [44] (Lib.joinTail [44] ((u :: us).map (·.2)) ++ 41 :: y) = (true, u.2 ++ (Lib.joinTail [44] (us.map (·.2)) ++ 41 :: y)) := by
      apply took_yes
      have : Lib.joinTail [44] ((u :: us).map (·.2)) ++ 41 :: y = 44 :: (u.2 ++ (Lib.joinTail [44] (us.map (·.2)) ++ 41 :: y)) := by simp [Lib.joinTail]
      rw [this]
      exact skip_other (by decide) (by decide)
    have hs : Stop (Lib.joinTail [44] (us.map (·.2)) ++ 41 :: y) := by
      intro c t e
      cases us with
      | nil => simp [Lib.joinTail] at e; rw [← e.1]; decide
      | cons v us => simp [Lib.joinTail] at e; rw [← e.1]; decide
    conv => lhs; unfold listGo
    rw [ht]
    simp only [if_true]
    rw [term_print (hu u (by simp)) hs]
    show listGo term n (out ++ [u]) _ = _
    rw [terms_print us n _ y (fun t ht => hu t (by simp [ht])) (by simp at h; omega)]
    simp

/-- An atom without what must not be so. -/
def core (a : AtomD) : Bs := a.name ++ (if a.terms = [] then [] else [40] ++ Lib.join (a.terms.map (·.2)) [44] ++ [41])

theorem atom_print {a : AtomD} {x : Bs} (h : okAtom a) (hx : Stop x) (h40 : ∀ t, skip x ≠ 40 :: t) : ∃ r, atom (core a ++ x) = .ok { a with no := false } r ∧ skip r = skip x := by
  obtain ⟨h1, h2, h3⟩ := h
  obtain ⟨no, name, ts⟩ := a
  dsimp only at *
  cases ts with
  | nil =>
    refine ⟨skip x, ?_, skip_skip false x⟩
    have ht : took [40] x = (false, skip x) := by
      unfold took
      rw [if_neg]
      intro e
      obtain ⟨t, e⟩ := List.isPrefixOf_iff_prefix.1 e
      exact h40 t e.symm
    unfold atom
    rw [show core ⟨no, name, []⟩ ++ x = name ++ x by simp [core], word_print (named_wd h1) h1 hx]
    simp only [Res.next, ht]
    rfl
  | cons u us =>
    refine ⟨x, ?_, rfl⟩
    have e : core ⟨no, name, u :: us⟩ ++ x = name ++ (40 :: (u.2 ++ (Lib.joinTail [44] (us.map (·.2)) ++ 41 :: x))) := by
      simp [core, Lib.join_cons]
    have hs : Stop (Lib.joinTail [44] (us.map (·.2)) ++ 41 :: x) := by
      intro c t e
      cases us with
      | nil => simp [Lib.joinTail] at e; rw [← e.1]; decide
      | cons v us => simp [Lib.joinTail] at e; rw [← e.1]; decide
    unfold atom
    rw [e, word_print (named_wd h1) h1 (fun c t e => by cases e; decide)]
    simp only [Res.next]
    rw [took_one (c := 40) (by decide) (by decide)]
    simp only [if_true]
    unfold listP
    rw [term_print (h2 u (by simp)) hs]
    simp only [Res.next]
    rw [terms_print us 3 [u] x (fun t ht => h2 t (by simp [ht])) (by simp at h3; omega)]
    show mustTake [41] _ (41 :: x) = _
    unfold mustTake
    rw [took_one (c := 41) (by decide) (by decide)]
    rfl

theorem bodyAtom_skip {l l' : Bs} (h : skip l = skip l') : bodyAtom l = bodyAtom l' := by
  unfold bodyAtom; rw [took_skip h]

theorem bodyAtom_print {a : AtomD} {x : Bs} (h : okAtom a) (hx : Stop x) (h40 : ∀ t, skip x ≠ 40 :: t) : ∃ r, bodyAtom (printAtom a ++ x) = .ok a r ∧ skip r = skip x := by
  obtain ⟨r, hr, hs⟩ := atom_print h hx h40
  refine ⟨r, ?_, hs⟩
  have hw := named_wd h.1
  unfold bodyAtom
  cases hno : a.no with
  | true =>
    have e : printAtom a ++ x = 33 :: (core a ++ x) := by simp [printAtom, core, hno]
    rw [e, took_one (c := 33) (by decide) (by decide), hr]
    simp only [Res.next]
    rw [← hno]
  | false =>
    have e : printAtom a ++ x = core a ++ x := by simp [printAtom, core, hno]
    have hk : ∃ c t, core a ++ x = c :: t ∧ isSign c = true := by
      cases hn : a.name with
      | nil => exact absurd hn hw.1
      | cons c t => exact ⟨c, t ++ (if a.terms = [] then [] else [40] ++ Lib.join (a.terms.map (·.2)) [44] ++ [41]) ++ x, by simp [core, hn], hw.2.2 c (by simp [hn])⟩
    obtain ⟨c, t, hk, hc⟩ := hk
    rw [e, hk, took_no (d := c) (t := t) (skip_sign hc) (fun e => by subst e; exact absurd hc (by decide)), ← hk, hr]
    simp only [Res.next]
    rw [← hno]

theorem rest_head (as : List AtomD) (y : Bs) : ∃ c t, printRest [44, 32] as ++ 46 :: y = c :: t ∧ (c = 44 ∨ c = 46) := by
  cases as with
  | nil => exact ⟨46, y, rfl, Or.inr rfl⟩
  | cons a as => exact ⟨44, 32 :: (printAtom a ++ printRest [44, 32] as ++ 46 :: y), by simp [printRest], Or.inl rfl⟩
theorem rest_stop (as : List AtomD) (y : Bs) : Stop (printRest [44, 32] as ++ 46 :: y) ∧ ∀ t, skip (printRest [44, 32] as ++ 46 :: y) ≠ 40 :: t := by
  obtain ⟨c, t, e, hc⟩ := rest_head as y
  rw [e]
  refine ⟨fun d u h => ?_, fun u h => ?_⟩
  · cases h; rcases hc with rfl | rfl <;> decide
  · rw [skip, skip_other (by rcases hc with rfl | rfl <;> decide) (by rcases hc with rfl | rfl <;> decide)] at h
    cases h; rcases hc with hc | hc <;> exact absurd hc (by decide)

theorem atoms_print : ∀ (as : List AtomD) (n : Nat) (out : List AtomD) (l y : Bs), (∀ a ∈ as, okAtom a) → as.length ≤ n → skip l = skip (printRest [44, 32] as ++ 46 :: y) → listGo bodyAtom n out l = .ok (out ++ as) (46 :: y)
  | [], n, out, l, y, _, _, hl => by
    have ht : took [44] l = (false, 46 :: y) := took_no (by rw [hl]; exact skip_other (by decide) (by decide)) (by decide)
    cases n <;> (unfold listGo; rw [ht]; simp)
  | a :: as, 0, out, l, y, _, h, _ => by simp at h
  | a :: as, n + 1, out, l, y, ha, h, hl => by
    have e : printRest [44, 32] (a :: as) ++ 46 :: y = 44 :: (32 :: (printAtom a ++ (printRest [44, 32] as ++ 46 :: y))) := by simp [printRest]
    have ht : took [44] l = (true, 32 :: (printAtom a ++ (printRest [44, 32] as ++ 46 :: y))) := by
      apply took_yes
      rw [hl, e]
      exact skip_other (by decide) (by decide)
    obtain ⟨r, hr, hs⟩ := bodyAtom_print (ha a (by simp)) (rest_stop as y).1 (rest_stop as y).2
    conv => lhs; unfold listGo
    rw [ht]
    simp only [if_true]
    rw [bodyAtom_skip (l' := printAtom a ++ (printRest [44, 32] as ++ 46 :: y)) (by rw [skip, skip, skip_blank (Or.inl rfl)]), hr]
    show listGo bodyAtom n (out ++ [a]) r = _
    rw [atoms_print as n _ r y (fun b hb => ha b (by simp [hb])) (by simp at h; omega) hs]
    simp

theorem rule_print {r : RuleD} {y : Bs} (h : okRule r) : rule (printRule r ++ y) = .ok r (10 :: y) := by
  obtain ⟨h1, h2, h3, h4⟩ := h
  obtain ⟨hd, bd⟩ := r
  dsimp only at *
  have hcore : printAtom hd = core hd := by simp [printAtom, core, h2]
  have hhd : ({ hd with no := false } : AtomD) = hd := by rw [← h2]
  cases bd with
  | nil =>
    have e : printRule ⟨hd, []⟩ ++ y = core hd ++ 46 :: 10 :: y := by simp [printRule, printRest, hcore]
    obtain ⟨r1, hr, hs⟩ := atom_print (x := 46 :: 10 :: y) h1 (fun c t e => by cases e; decide) (fun t e => by rw [skip, skip_other (by decide) (by decide)] at e; cases e)
    have hs' : skip r1 = 46 :: 10 :: y := by rw [hs]; exact skip_other (by decide) (by decide)
    unfold rule
    rw [e, hr, hhd]
    simp only [Res.next]
    rw [took_no (d := 46) (t := 10 :: y) hs' (by decide)]
    simp only [Bool.false_eq_true, if_false]
    unfold mustTake
    rw [took_one (c := 46) (by decide) (by decide)]
    rfl
  | cons b bs =>
    have e : printRule ⟨hd, b :: bs⟩ ++ y = core hd ++ (32 :: 58 :: 45 :: 32 :: (printAtom b ++ (printRest [44, 32] bs ++ 46 :: 10 :: y))) := by simp [printRule, printRest, hcore]
    obtain ⟨r1, hr, hs⟩ := atom_print (x := 32 :: 58 :: 45 :: 32 :: (printAtom b ++ (printRest [44, 32] bs ++ 46 :: 10 :: y))) h1 (fun c t e => by cases e; decide)
      (fun t e => by rw [skip, skip_blank (Or.inl rfl), skip_other (by decide) (by decide)] at e; cases e)
    have hs' : skip r1 = [58, 45] ++ (32 :: (printAtom b ++ (printRest [44, 32] bs ++ 46 :: 10 :: y))) := by
      rw [hs, skip, skip_blank (Or.inl rfl)]; exact skip_other (by decide) (by decide)
    obtain ⟨r2, hr2, hs2⟩ := bodyAtom_print (h3 b (by simp)) (rest_stop bs (10 :: y)).1 (rest_stop bs (10 :: y)).2
    unfold rule
    rw [e, hr, hhd]
    simp only [Res.next]
    rw [took_yes _ hs']
    simp only [if_true]
    unfold body listP
    rw [bodyAtom_skip (l' := printAtom b ++ (printRest [44, 32] bs ++ 46 :: 10 :: y)) (by rw [skip, skip, skip_blank (Or.inl rfl)]), hr2]
    simp only [Res.next]
    rw [atoms_print bs 4 [b] r2 (10 :: y) (fun a ha => h3 a (by simp [ha])) (by simp at h4; omega) hs2]
    show mustTake [46] _ (46 :: 10 :: y) = _
    unfold mustTake
    rw [took_one (c := 46) (by decide) (by decide)]
    rfl

theorem rules_print : ∀ (p : List RuleD) (n : Nat) (out : List RuleD), (∀ r ∈ p, okRule r) → p.length ≤ n → rulesGo n out (printAll p) = .ok (out ++ p) []
  | [], n, out, _, _ => by rw [rulesGo_end _ _ (by rfl)]; simp
  | r :: p, 0, out, _, h => by simp at h
  | r :: p, n + 1, out, hp, h => by
    have hr := hp r (by simp)
    have hw := named_wd hr.1.1
    have hk : ∃ c t, printRule r ++ printAll p = c :: t ∧ isSign c = true := by
      cases hn : r.head.name with
      | nil => exact absurd hn hw.1
      | cons c t => exact ⟨c, _, by simp only [printRule, printAtom, hr.2.1, hn, Bool.false_eq_true, if_false, List.nil_append, List.cons_append, List.append_assoc]; rfl, hw.2.2 c (by simp [hn])⟩
    obtain ⟨c, t, hk, hc⟩ := hk
    have hs : skip (printRule r ++ printAll p) = printRule r ++ printAll p := by rw [hk]; exact skip_sign hc
    show rulesGo (n + 1) out (printRule r ++ printAll p) = _
    conv => lhs; unfold rulesGo
    rw [hs, if_neg (by rw [hk]; simp)]
    simp only [rule_print hr, Res.next]
    rw [rulesGo_skip n (out ++ [r]) (l' := printAll p) (by rw [skip, skip, skip_blank (Or.inr rfl)]), rules_print p n _ (fun a ha => hp a (by simp [ha])) (by simp at h; omega)]
    simp

/-- What is parsed is printed. -/
theorem again {s r : Bs} {p : List RuleD} (h : rulesGo 16 [] s = .ok p r) : rulesGo 16 [] (printAll p) = .ok p [] := by
  have := rules_ok _ _ _ _ _ h (by simp)
  have h2 := rules_print p 16 [] this.1 (by have := this.2; simp at this; omega)
  simpa using h2

theorem join_short : ∀ l : List Bs, (∀ w ∈ l, w.length ≤ 12) → (Lib.join l [44]).length ≤ 13 * l.length
  | [], _ => by simp [Lib.join_nil]
  | x :: r, h => by
    rw [Lib.join_cons]
    have : (Lib.joinTail [44] r).length ≤ 13 * r.length := by
      have hr : ∀ w ∈ r, w.length ≤ 12 := fun w hw => h w (by simp [hw])
      clear h
      unfold Lib.joinTail
      induction r with
      | nil => simp
      | cons y r ih =>
        have := ih (fun w hw => hr w (by simp [hw]))
        have := hr y (by simp)
        simp only [List.map_cons, List.flatten_cons, List.length_append, List.length_cons, List.length_nil] at *; omega
    have := h x (by simp)
    simp only [List.length_append, List.length_cons]; omega

theorem atom_short {a : AtomD} (h : okAtom a) : (printAtom a).length ≤ 100 := by
  have h1 := (named_wd h.1).2.1
  have h2 := join_short (a.terms.map (·.2)) (fun w hw => by
    obtain ⟨t, ht, rfl⟩ := List.mem_map.1 hw
    exact (fits_wd (h.2.1 t ht).1).2.1)
  have h3 := h.2.2
  rw [List.length_map] at h2
  unfold printAtom
  simp only [List.length_append]
  split <;> split <;> simp <;> omega

theorem rest_short : ∀ (as : List AtomD) (s : Bs), s.length ≤ 4 → (∀ a ∈ as, okAtom a) → (printRest s as).length ≤ 104 * as.length
  | [], _, _, _ => by simp [printRest]
  | a :: as, s, hs, h => by
    have := rest_short as [44, 32] (by simp) (fun b hb => h b (by simp [hb]))
    have := atom_short (h a (by simp))
    simp only [printRest, List.length_append, List.length_cons]; omega

theorem all_short : ∀ p : List RuleD, (∀ r ∈ p, okRule r) → (printAll p).length ≤ 1000 * p.length
  | [], _ => by simp [printAll]
  | r :: p, h => by
    have := all_short p (fun b hb => h b (by simp [hb]))
    have hr := h r (by simp)
    have := atom_short hr.1
    have := rest_short r.body [32, 58, 45, 32] (by simp) hr.2.2.1
    have := hr.2.2.2
    simp only [printAll, printRule, List.length_append, List.length_cons, List.length_nil]; omega

end Go.Proofs.Ytflldbpjhcgkbaa
