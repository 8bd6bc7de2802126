/- What texts are rules: the document's answer, on lists of bytes; one text behind another. Nothing of the program. -/
import Derived.Test.YthogickpeldhlaaSigns
namespace Go.Proofs.Ythogickpeldhlaa

/-- Where a text goes on behind blanks and notes ('true': a note has begun). -/
def skipM : Bool → Bs → Bs
  | _, [] => []
  | false, c :: t => if c = 32 ∨ c = 10 then skipM false t else if c = 37 then skipM true t else c :: t
  | true, c :: t => if c = 10 then skipM false t else skipM true t

abbrev skip (l : Bs) : Bs := skipM false l

/-- What was read, and what follows; or what is wrong, and what follows there. -/
inductive Res (α : Type) where
  | ok (a : α) (r : Bs)
  | bad (e : Int) (r : Bs)

def Res.next {α β : Type} (x : Res α) (f : α → Bs → Res β) : Res β :=
  match x with
  | .ok a r => f a r
  | .bad e r => .bad e r

def took (g l : Bs) : Bool × Bs := if g.isPrefixOf (skip l) then (true, (skip l).drop g.length) else (false, skip l)

/-- A word that fits. -/
def word (fits : Bs → Bool) (l : Bs) : Res Bs :=
  if (skip l).takeWhile isSign = [] then .bad 2 (skip l)
  else if fits ((skip l).takeWhile isSign) then .ok ((skip l).takeWhile isSign) ((skip l).drop ((skip l).takeWhile isSign).length)
  else .bad 7 (skip l)

/-- Parts with ',' between: n more at most. -/
def listGo {α : Type} (part : Bs → Res α) : Nat → List α → Bs → Res (List α)
  | n, out, l => if (took [44] l).1 then
      match n with
      | 0 => .bad 5 (took [44] l).2
      | n + 1 => (part (took [44] l).2).next fun a r => listGo part n (out ++ [a]) r
    else .ok out (took [44] l).2

def listP {α : Type} (part : Bs → Res α) (most : Nat) (l : Bs) : Res (List α) := (part l).next fun a r => listGo part (most - 1) [a] r

def mustTake {α : Type} (g : Bs) (a : α) (l : Bs) : Res α := if (took g l).1 then .ok a (took g l).2 else .bad 2 (took g l).2

abbrev TermD := Bool × Bs
structure AtomD where
  no : Bool
  name : Bs
  terms : List TermD
deriving DecidableEq
structure RuleD where
  head : AtomD
  body : List AtomD
deriving DecidableEq

def fitsTerm (w : Bs) : Bool := isNamed w || isVar w
def term (l : Bs) : Res TermD := (word fitsTerm l).next fun w r => .ok (isVar w, w) r
def atom (l : Bs) : Res AtomD := (word isNamed l).next fun w r =>
  if (took [40] r).1 then (listP term 4 (took [40] r).2).next fun ts r => mustTake [41] ⟨false, w, ts⟩ r else .ok ⟨false, w, []⟩ (took [40] r).2
def bodyAtom (l : Bs) : Res AtomD := (atom (took [33] l).2).next fun a r => .ok { a with no := (took [33] l).1 } r
def body (l : Bs) : Res (List AtomD) := listP bodyAtom 5 l
def rule (l : Bs) : Res RuleD := (atom l).next fun a r =>
  if (took [58, 45] r).1 then (body (took [58, 45] r).2).next fun b r => mustTake [46] ⟨a, b⟩ r else mustTake [46] ⟨a, []⟩ (took [58, 45] r).2
def rulesGo : Nat → List RuleD → Bs → Res (List RuleD)
  | n, out, l => if skip l = [] then .ok out [] else
    match n with
    | 0 => .bad 5 (skip l)
    | n + 1 => (rule (skip l)).next fun a r => rulesGo n (out ++ [a]) r
def onlyBody (l : Bs) : Res (List AtomD) := (body l).next fun b r => if skip r = [] then .ok b [] else .bad 2 (skip r)

theorem Res.next_ok {α β : Type} {x : Res α} {f : α → Bs → Res β} {b : β} {r : Bs} (h : x.next f = .ok b r) : ∃ a r', x = .ok a r' ∧ f a r' = .ok b r := by
  cases x with
  | ok a r' => exact ⟨a, r', rfl, h⟩
  | bad e r' => cases h

theorem skipM_nil (b : Bool) : skipM b [] = [] := by cases b <;> rfl

/-- Behind blanks there are none. -/
theorem skip_skip (b : Bool) : ∀ l, skip (skipM b l) = skipM b l := by
  intro l
  induction l generalizing b with
  | nil => cases b <;> rfl
  | cons c t ih =>
    cases b with
    | false =>
      simp only [skipM]
      split
      · exact ih _
      · split
        · exact ih _
        · rename_i h1 h2; show skipM false (c :: t) = _; simp only [skipM, if_neg h1, if_neg h2]
    | true =>
      simp only [skipM]
      split
      · exact ih _
      · exact ih _

theorem skip_blank {c : UInt8} {t : Bs} (h : c = 32 ∨ c = 10) : skipM false (c :: t) = skipM false t := by simp only [skipM, if_pos h]
theorem skip_note {t : Bs} : skipM false (37 :: t) = skipM true t := by simp [skipM]
theorem skip_other {c : UInt8} {t : Bs} (h : ¬ (c = 32 ∨ c = 10)) (h2 : ¬ c = 37) : skipM false (c :: t) = c :: t := by simp only [skipM, if_neg h, if_neg h2]
theorem note_end {t : Bs} : skipM true (10 :: t) = skipM false t := by simp [skipM]
theorem note_on {c : UInt8} {t : Bs} (h : ¬ c = 10) : skipM true (c :: t) = skipM true t := by simp only [skipM, if_neg h]

/-- A line feed behind a text ends whatever note it ends with. -/
theorem skip_append (b : Bool) (t : Bs) : ∀ l, skipM b (l ++ 10 :: t) = if skipM b l = [] then skip t else skipM b l ++ 10 :: t := by
  intro l
  induction l generalizing b with
  | nil => cases b <;> simp [skipM]
  | cons c u ih =>
    cases b with
    | false =>
      by_cases h1 : c = 32 ∨ c = 10
      · rw [List.cons_append, skip_blank h1, skip_blank h1]; exact ih _
      · by_cases h2 : c = 37
        · subst h2; rw [List.cons_append, skip_note, skip_note]; exact ih _
        · rw [List.cons_append, skip_other h1 h2, skip_other h1 h2]; simp
    | true =>
      by_cases h1 : c = 10
      · subst h1; rw [List.cons_append, note_end, note_end]; exact ih _
      · rw [List.cons_append, note_on h1, note_on h1]; exact ih _

theorem skip_behind {l t : Bs} (h : skip l ≠ []) : skip (l ++ 10 :: t) = skip l ++ 10 :: t := by rw [skip, skip_append, if_neg h]

/-- A sign without line feed that a text does not begin with, it does not begin with behind a line feed. -/
theorem prefix_append {g : Bs} (hg : 10 ∉ g) (t : Bs) : ∀ {l : Bs}, l ≠ [] → g.isPrefixOf (l ++ 10 :: t) = g.isPrefixOf l := by
  induction g with
  | nil => intro l _; simp
  | cons c g ih =>
    intro l hl
    cases l with
    | nil => exact absurd rfl hl
    | cons d u =>
      simp only [List.cons_append, List.isPrefixOf_cons_cons]
      by_cases hu : u = []
      · subst hu
        cases g with
        | nil => simp
        | cons e g =>
          have he : e ≠ 10 := fun h => hg (by simp [h])
          simp [List.isPrefixOf, he]
      · rw [ih (fun h => hg (by simp [h])) hu]

theorem took_true {g l : Bs} (hg : g ≠ []) (h : (took g l).1 = true) : skip l ≠ [] := by
  intro e
  unfold took at h
  rw [e] at h
  cases g with
  | nil => exact hg rfl
  | cons c g => simp [List.isPrefixOf] at h

theorem took_behind {g l : Bs} (t : Bs) (hg : 10 ∉ g) (h : skip l ≠ []) : took g (l ++ 10 :: t) = ((took g l).1, (took g l).2 ++ 10 :: t) := by
  unfold took
  rw [skip_behind h, prefix_append hg t h]
  by_cases hp : g.isPrefixOf (skip l) = true
  · rw [if_pos hp, if_pos hp]
    have : g.length ≤ (skip l).length := (List.isPrefixOf_iff_prefix.1 hp).length_le
    rw [List.drop_append_of_le_length this]
  · rw [if_neg hp, if_neg hp]

theorem took_nil {g : Bs} (hg : g ≠ []) : took g [] = (false, []) := by
  cases g with
  | nil => exact absurd rfl hg
  | cons c g => rfl

theorem took_rest {g l : Bs} (h : (took g l).1 = false) : (took g l).2 = skip l := by
  unfold took at h ⊢; split <;> simp_all

theorem skip_ne_of {l : Bs} (h : skip l ≠ []) : l ≠ [] := fun e => h (by rw [e]; rfl)

theorem sign10 : isSign 10 = false := by decide

theorem takeWhile_behind (t : Bs) : ∀ l : Bs, (l ++ 10 :: t).takeWhile isSign = l.takeWhile isSign := by
  intro l
  induction l with
  | nil => simp [sign10]
  | cons c u ih => simp only [List.cons_append, List.takeWhile_cons, ih]

theorem word_behind {f : Bs → Bool} {l w r : Bs} (t : Bs) (h : word f l = .ok w r) : word f (l ++ 10 :: t) = .ok w (r ++ 10 :: t) := by
  unfold word at h ⊢
  by_cases h1 : (skip l).takeWhile isSign = []
  · rw [if_pos h1] at h; cases h
  · have hs : skip l ≠ [] := fun e => h1 (by rw [e]; rfl)
    rw [skip_behind hs, takeWhile_behind]
    rw [if_neg h1] at h ⊢
    by_cases h2 : f ((skip l).takeWhile isSign) = true
    · rw [if_pos h2] at h ⊢
      cases h
      have : ((skip l).takeWhile isSign).length ≤ (skip l).length := (List.takeWhile_prefix _).length_le
      rw [List.drop_append_of_le_length this]
    · rw [if_neg h2] at h; cases h

/-- What is read with something behind it is read with a line feed behind that. -/
def Local {α : Type} (P : Bs → Res α) : Prop := ∀ l a r t, P l = .ok a r → r ≠ [] → P (l ++ 10 :: t) = .ok a (r ++ 10 :: t)
/-- Of nothing nothing remains. -/
def Ends {α : Type} (P : Bs → Res α) : Prop := ∀ a r, P [] = .ok a r → r = []

theorem term_behind {l r : Bs} {a : TermD} (t : Bs) (h : term l = .ok a r) : term (l ++ 10 :: t) = .ok a (r ++ 10 :: t) := by
  obtain ⟨w, r', h1, h2⟩ := Res.next_ok h
  cases h2
  unfold term
  rw [word_behind t h1]; rfl

theorem word_nil {f : Bs → Bool} {a r : Bs} : word f [] ≠ .ok a r := by
  intro h
  have : word f [] = .bad 2 [] := by simp [word, skip, skipM_nil]
  rw [this] at h; cases h

theorem listGo_ends {α : Type} (P : Bs → Res α) (n : Nat) (out : List α) : Ends (listGo P n out) := by
  intro a r h
  unfold listGo at h
  rw [took_nil (by simp)] at h
  simp at h
  exact h.2

theorem listGo_local {α : Type} {P : Bs → Res α} (hP : Local P) : ∀ n out, Local (listGo P n out) := by
  intro n
  induction n with
  | zero =>
    intro out l a r t h hr
    unfold listGo at h ⊢
    by_cases h1 : (took [44] l).1 = true
    · rw [if_pos h1] at h; cases h
    · rw [if_neg h1] at h
      have e := took_rest (by simpa using h1 : (took [44] l).1 = false)
      cases h
      rw [e] at hr ⊢
      rw [took_behind t (by decide) hr, if_neg h1, e]
  | succ n ih =>
    intro out l a r t h hr
    unfold listGo at h ⊢
    by_cases h1 : (took [44] l).1 = true
    · rw [if_pos h1] at h
      obtain ⟨b, r', h2, h3⟩ := Res.next_ok h
      rw [took_behind t (by decide) (took_true (by simp) h1), if_pos h1]
      have hr' : r' ≠ [] := fun e => hr (listGo_ends P n _ a r (by rw [← e]; exact h3))
      have := hP _ _ _ t h2 hr'
      simp only [this, Res.next]
      exact ih _ _ _ _ t h3 hr
    · rw [if_neg h1] at h
      have e := took_rest (by simpa using h1 : (took [44] l).1 = false)
      cases h
      rw [e] at hr ⊢
      rw [took_behind t (by decide) hr, if_neg h1, e]

theorem listP_local {α : Type} {P : Bs → Res α} (hP : Local P) (n : Nat) : Local (listP P n) := by
  intro l a r t h hr
  obtain ⟨b, r', h1, h2⟩ := Res.next_ok h
  have hr' : r' ≠ [] := fun e => hr (listGo_ends P _ _ a r (by rw [← e]; exact h2))
  unfold listP
  rw [hP _ _ _ t h1 hr']
  exact listGo_local hP _ _ _ _ _ t h2 hr

theorem term_local : Local term := fun _ _ _ t h _ => term_behind t h

theorem mustTake_ok {α : Type} {g l r : Bs} {a b : α} (h : mustTake g a l = .ok b r) : (took g l).1 = true ∧ b = a ∧ r = (took g l).2 := by
  unfold mustTake at h
  split at h
  · cases h; exact ⟨by assumption, rfl, rfl⟩
  · cases h

theorem mustTake_behind {α : Type} {g l r : Bs} {a b : α} (t : Bs) (hg : 10 ∉ g) (h0 : g ≠ []) (h : mustTake g a l = .ok b r) : mustTake g a (l ++ 10 :: t) = .ok b (r ++ 10 :: t) := by
  obtain ⟨h1, rfl, rfl⟩ := mustTake_ok h
  unfold mustTake
  rw [took_behind t hg (took_true h0 h1), if_pos h1]

theorem mustTake_ne {α : Type} {g l r : Bs} {a b : α} (h0 : g ≠ []) (h : mustTake g a l = .ok b r) : l ≠ [] :=
  skip_ne_of (took_true h0 (mustTake_ok h).1)

theorem atom_local : Local atom := by
  intro l a r t h hr
  obtain ⟨w, r1, h1, h2⟩ := Res.next_ok h
  unfold atom
  rw [word_behind t h1]
  simp only [Res.next]
  by_cases h3 : (took [40] r1).1 = true
  · rw [if_pos h3] at h2
    obtain ⟨ts, r2, h4, h5⟩ := Res.next_ok h2
    rw [took_behind t (by decide) (took_true (by simp) h3), if_pos h3]
    simp only
    rw [listP_local term_local 4 _ _ _ t h4 (mustTake_ne (by simp) h5)]
    exact mustTake_behind t (by decide) (by simp) h5
  · rw [if_neg h3] at h2
    cases h2
    have e := took_rest (by simpa using h3 : (took [40] r1).1 = false)
    rw [e] at hr
    rw [took_behind t (by decide) hr, if_neg h3]

theorem bodyAtom_local : Local bodyAtom := by
  intro l a r t h hr
  obtain ⟨b, r1, h1, h2⟩ := Res.next_ok h
  have hs : skip l ≠ [] := by
    intro e
    have h3 : (took [33] l).1 = false := by
      cases h3 : (took [33] l).1 with
      | false => rfl
      | true => exact absurd e (took_true (by simp) h3)
    rw [took_rest h3, e] at h1
    obtain ⟨w, r', h4, _⟩ := Res.next_ok h1
    exact word_nil h4
  cases h2
  unfold bodyAtom
  rw [took_behind t (by decide) hs]
  simp only
  rw [atom_local _ _ _ t h1 hr]
  rfl

theorem body_local : Local body := listP_local bodyAtom_local 5

theorem rule_behind {l r : Bs} {a : RuleD} (t : Bs) (h : rule l = .ok a r) : rule (l ++ 10 :: t) = .ok a (r ++ 10 :: t) := by
  obtain ⟨hd, r1, h1, h2⟩ := Res.next_ok h
  have hr1 : r1 ≠ [] := by
    intro e
    subst e
    rw [took_nil (by simp), if_neg (by simp)] at h2
    exact mustTake_ne (by simp) h2 rfl
  unfold rule
  rw [atom_local _ _ _ t h1 hr1]
  simp only [Res.next]
  by_cases h3 : (took [58, 45] r1).1 = true
  · rw [if_pos h3] at h2
    obtain ⟨b, r2, h4, h5⟩ := Res.next_ok h2
    rw [took_behind t (by decide) (took_true (by simp) h3), if_pos h3]
    simp only
    rw [body_local _ _ _ t h4 (mustTake_ne (by simp) h5)]
    exact mustTake_behind t (by decide) (by simp) h5
  · rw [if_neg h3] at h2
    have e := took_rest (by simpa using h3 : (took [58, 45] r1).1 = false)
    have hs : skip r1 ≠ [] := by rw [← e]; exact mustTake_ne (by simp) h2
    rw [took_behind t (by decide) hs, if_neg h3]
    exact mustTake_behind t (by decide) (by simp) h2

theorem rulesGo_skip (n : Nat) (out : List RuleD) {l l' : Bs} (h : skip l = skip l') : rulesGo n out l = rulesGo n out l' := by
  unfold rulesGo; rw [h]

theorem rulesGo_end (n : Nat) (out : List RuleD) {l : Bs} (h : skip l = []) : rulesGo n out l = .ok out [] := by
  unfold rulesGo; exact if_pos h

theorem rulesGo_behind (t : Bs) : ∀ n out l p r, rulesGo n out l = .ok p r → ∃ q, p = out ++ q ∧ r = [] ∧ q.length ≤ n ∧
    ∀ m out', q.length ≤ m → rulesGo m out' (l ++ 10 :: t) = rulesGo (m - q.length) (out' ++ q) t := by
  intro n
  induction n with
  | zero =>
    intro out l p r h
    unfold rulesGo at h
    split at h
    · rename_i he
      cases h
      refine ⟨[], by simp, rfl, Nat.le_refl _, fun m out' _ => ?_⟩
      rw [List.append_nil]
      exact rulesGo_skip _ _ (by rw [skip, skip_append, if_pos he])
    · cases h
  | succ n ih =>
    intro out l p r h
    unfold rulesGo at h
    split at h
    · rename_i he
      cases h
      refine ⟨[], by simp, rfl, Nat.zero_le _, fun m out' _ => ?_⟩
      rw [List.append_nil]
      exact rulesGo_skip _ _ (by rw [skip, skip_append, if_pos he])
    · rename_i he
      obtain ⟨a, r1, h1, h2⟩ := Res.next_ok h
      obtain ⟨q, rfl, rfl, hq, hm⟩ := ih _ _ _ _ h2
      refine ⟨a :: q, by simp, rfl, by simp; omega, fun m out' hle => ?_⟩
      obtain ⟨m', rfl⟩ : ∃ m', m = m' + 1 := ⟨m - 1, by simp at hle; omega⟩
      have := hm m' (out' ++ [a]) (by simp at hle; omega)
      rw [rulesGo, if_neg (by rw [skip_behind he]; simp), skip_behind he]
      simp only [rule_behind t h1, Res.next, this]
      simp [Nat.add_sub_add_right]

theorem rulesGo_fuel : ∀ n out l p r, rulesGo n out l = .ok p r → ∃ q, p = out ++ q ∧ r = [] ∧ q.length ≤ n ∧ ∀ m out', q.length ≤ m → rulesGo m out' l = .ok (out' ++ q) [] := by
  intro n
  induction n with
  | zero =>
    intro out l p r h
    unfold rulesGo at h
    split at h
    · rename_i he
      cases h
      exact ⟨[], by simp, rfl, Nat.le_refl _, fun m out' _ => by rw [rulesGo_end _ _ he, List.append_nil]⟩
    · cases h
  | succ n ih =>
    intro out l p r h
    unfold rulesGo at h
    split at h
    · rename_i he
      cases h
      exact ⟨[], by simp, rfl, Nat.zero_le _, fun m out' _ => by rw [rulesGo_end _ _ he, List.append_nil]⟩
    · rename_i he
      obtain ⟨a, r1, h1, h2⟩ := Res.next_ok h
      obtain ⟨q, rfl, rfl, hq, hm⟩ := ih _ _ _ _ h2
      refine ⟨a :: q, by simp, rfl, by simp; omega, fun m out' hle => ?_⟩
      obtain ⟨m', rfl⟩ : ∃ m', m = m' + 1 := ⟨m - 1, by simp at hle; omega⟩
      have := hm m' (out' ++ [a]) (by simp at hle; omega)
      rw [rulesGo, if_neg he]
      simp only [h1, Res.next, this]
      simp

/-- One behind the other. -/
theorem joined {s t : Bs} {p q : List RuleD} {r r' : Bs} (hs : rulesGo 16 [] s = .ok p r) (ht : rulesGo 16 [] t = .ok q r') (hl : p.length + q.length ≤ 16) : rulesGo 16 [] (s ++ 10 :: t) = .ok (p ++ q) [] := by
  obtain ⟨p', rfl, _, _, hp⟩ := rulesGo_behind t _ _ _ _ _ hs
  obtain ⟨q', rfl, _, _, hq⟩ := rulesGo_fuel _ _ _ _ _ ht
  rw [hp 16 [] (by omega), List.nil_append]
  exact hq _ _ (by omega)

end Go.Proofs.Ythogickpeldhlaa
