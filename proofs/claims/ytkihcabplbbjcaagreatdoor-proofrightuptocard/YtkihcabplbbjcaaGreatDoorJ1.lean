/- Texts of this claim, one behind the other. -/
import Derived.WalkKit
import Derived.Lib.Strings
/- The order of facts, in plain Lean: names, then how many arguments, then these in turn; sets of facts as lists that rise. Nothing of the program. -/
namespace Go.Proofs.YtkihcabplbbjcaaGreatDoor
open Go.RowKit

/-- A three-way comparison that is a total order (0: the same). -/
structure Three {α : Type} (c : α → α → Int) : Prop where
  swap : ∀ a b, c b a = - c a b
  zero : ∀ a b, c a b = 0 → a = b
  trans : ∀ a b d, c a b < 0 → c b d < 0 → c a d < 0

theorem Three.refl {α : Type} {c : α → α → Int} (h : Three c) (a : α) : c a a = 0 := by
  have := h.swap a a; omega

theorem bl_irrefl : ∀ x : List UInt8, Op.bytesLess x x = false
  | [] => rfl
  | a :: x => by simp [Op.bytesLess, bl_irrefl x]

theorem bl_trans : ∀ x y z : List UInt8, Op.bytesLess x y = true → Op.bytesLess y z = true → Op.bytesLess x z = true
  | [], [], _, h, _ => by simp [Op.bytesLess] at h
  | [], _ :: _, [], _, h => by simp [Op.bytesLess] at h
  | [], _ :: _, _ :: _, _, _ => rfl
  | _ :: _, [], _, h, _ => by simp [Op.bytesLess] at h
  | _ :: _, _ :: _, [], _, h => by simp [Op.bytesLess] at h
  | a :: x, b :: y, c :: z, h, k => by
    simp only [Op.bytesLess, Bool.or_eq_true, Bool.and_eq_true, decide_eq_true_eq, beq_iff_eq] at h k ⊢
    rcases h with h | ⟨rfl, h⟩ <;> rcases k with k | ⟨rfl, k⟩
    · exact Or.inl (UInt8.lt_trans h k)
    · exact Or.inl h
    · exact Or.inl k
    · exact Or.inr ⟨rfl, bl_trans x y z h k⟩

theorem bl_total : ∀ x y : List UInt8, Op.bytesLess x y = false → x ≠ y → Op.bytesLess y x = true
  | [], [], _, h => absurd rfl h
  | [], _ :: _, h, _ => by simp [Op.bytesLess] at h
  | _ :: _, [], _, _ => rfl
  | a :: x, b :: y, h, k => by
    simp only [Op.bytesLess, Bool.or_eq_false_iff, Bool.and_eq_false_iff, decide_eq_false_iff_not, beq_eq_false_iff_ne, Bool.or_eq_true, Bool.and_eq_true, decide_eq_true_eq, beq_iff_eq] at h ⊢
    by_cases e : a = b
    · subst e
      exact Or.inr ⟨rfl, bl_total x y (h.2.resolve_left (fun n => n rfl)) (fun e => k (by rw [e]))⟩
    · refine Or.inl ?_
      have h1 := h.1
      rw [UInt8.lt_iff_toNat_lt] at *
      have : a.toNat ≠ b.toNat := fun n => e (UInt8.toNat_inj.1 n)
      omega

/-- Texts, byte by byte. -/
def cmpS (a b : ByteArray) : Int := if Op.bytesLess a.toList b.toList then -1 else if a.toList == b.toList then 0 else 1

theorem toList_inj {a b : ByteArray} (h : a.toList = b.toList) : a = b := by
  rw [Lib.toList_data, Lib.toList_data] at h
  have : a.data = b.data := Array.toList_inj.1 h
  cases a; cases b; simp_all

theorem bl_asym (x y : List UInt8) (h : Op.bytesLess x y = true) : Op.bytesLess y x = false := by
  cases k : Op.bytesLess y x
  · rfl
  · have := bl_trans x y x h k; rw [bl_irrefl] at this; cases this

theorem three_cmpS : Three cmpS where
  swap a b := by
    unfold cmpS
    by_cases h : Op.bytesLess a.toList b.toList = true
    · rw [if_pos h, if_neg (by rw [bl_asym _ _ h]; simp)]
      have : (b.toList == a.toList) = false := by
        rw [beq_eq_false_iff_ne]; intro e; rw [e, bl_irrefl] at h; cases h
      rw [if_neg (by rw [this]; simp)]; rfl
    · by_cases e : a.toList = b.toList
      · rw [e, bl_irrefl]; simp
      · have hf : Op.bytesLess a.toList b.toList = false := by simpa using h
        have := bl_total _ _ hf e
        rw [if_pos this, if_neg h, if_neg (by simpa using e)]
  zero a b h := by
    unfold cmpS at h
    split at h
    · omega
    · split at h
      · exact toList_inj (by simpa using ‹(a.toList == b.toList) = true›)
      · omega
  trans a b d h k := by
    unfold cmpS at *
    have h1 : Op.bytesLess a.toList b.toList = true := by
      split at h
      · assumption
      · split at h <;> omega
    have k1 : Op.bytesLess b.toList d.toList = true := by
      split at k
      · assumption
      · split at k <;> omega
    rw [if_pos (bl_trans _ _ _ h1 k1)]; omega

/-- Whole numbers. -/
def cmpI (a b : Int) : Int := if a < b then -1 else if b < a then 1 else 0

theorem three_cmpI : Three cmpI where
  swap a b := by unfold cmpI; split <;> split <;> omega
  zero a b h := by
    unfold cmpI at h
    by_cases h1 : a < b
    · rw [if_pos h1] at h; omega
    · rw [if_neg h1] at h
      by_cases h2 : b < a
      · rw [if_pos h2] at h; omega
      · omega
  trans a b d h k := by
    unfold cmpI at *
    have h1 : a < b := by
      refine Int.not_le.1 fun n => ?_
      rw [if_neg (by omega)] at h
      split at h <;> omega
    have k1 : b < d := by
      refine Int.not_le.1 fun n => ?_
      rw [if_neg (by omega)] at k
      split at k <;> omega
    rw [if_pos (by omega)]; omega

/-- Lists of texts, one behind the other; the shorter first. -/
def cmpL : List ByteArray → List ByteArray → Int
  | [], [] => 0
  | [], _ :: _ => -1
  | _ :: _, [] => 1
  | a :: x, b :: y => if cmpS a b ≠ 0 then cmpS a b else cmpL x y

theorem cmpL_swap : ∀ x y, cmpL y x = - cmpL x y
  | [], [] => rfl
  | [], _ :: _ => rfl
  | _ :: _, [] => rfl
  | a :: x, b :: y => by
    have h := three_cmpS.swap a b
    simp only [cmpL]
    by_cases e : cmpS a b = 0
    · rw [if_neg (by omega), if_neg (by omega)]; exact cmpL_swap x y
    · rw [if_pos (by omega), if_pos (by omega)]; exact h

theorem cmpL_zero : ∀ x y, cmpL x y = 0 → x = y
  | [], [], _ => rfl
  | [], _ :: _, h => by simp [cmpL] at h
  | _ :: _, [], h => by simp [cmpL] at h
  | a :: x, b :: y, h => by
    simp only [cmpL] at h
    split at h
    · exact absurd h ‹_›
    · have e : cmpS a b = 0 := by omega
      rw [three_cmpS.zero a b e, cmpL_zero x y h]

theorem cmpL_trans : ∀ x y z, cmpL x y < 0 → cmpL y z < 0 → cmpL x z < 0
  | [], [], _, h, _ => by simp [cmpL] at h
  | [], _ :: _, [], _, k => by simp [cmpL] at k
  | [], _ :: _, _ :: _, _, _ => by simp [cmpL]
  | _ :: _, [], _, h, _ => by simp [cmpL] at h
  | _ :: _, _ :: _, [], _, k => by simp [cmpL] at k
  | a :: x, b :: y, c :: z, h, k => by
    simp only [cmpL] at h k ⊢
    by_cases e : cmpS a b = 0
    · have e' := three_cmpS.zero _ _ e; subst e'
      rw [if_neg (by omega)] at h
      by_cases f : cmpS a c = 0
      · rw [if_neg (by omega)] at k ⊢
        exact cmpL_trans x y z h k
      · rw [if_pos f] at k ⊢; exact k
    · rw [if_pos e] at h
      by_cases f : cmpS b c = 0
      · have f' := three_cmpS.zero _ _ f; subst f'
        rw [if_pos e]; exact h
      · rw [if_pos f] at k
        have := three_cmpS.trans a b c h k
        rw [if_pos (by omega)]; exact this

/-- A fact: its name, and what it is said of. -/
abbrev FactD : Type := ByteArray × List ByteArray

def cmpF (f g : FactD) : Int :=
  if cmpS f.1 g.1 ≠ 0 then cmpS f.1 g.1 else if cmpI f.2.length g.2.length ≠ 0 then cmpI f.2.length g.2.length else cmpL f.2 g.2

theorem three_cmpF : Three cmpF where
  swap f g := by
    have h := three_cmpS.swap f.1 g.1
    have i := three_cmpI.swap f.2.length g.2.length
    have l := cmpL_swap f.2 g.2
    unfold cmpF
    by_cases e : cmpS f.1 g.1 = 0
    · have e' : cmpS g.1 f.1 = 0 := by omega
      by_cases e2 : cmpI f.2.length g.2.length = 0
      · have e2' : cmpI g.2.length f.2.length = 0 := by omega
        simp only [e, e', e2, e2', ne_eq, not_true, if_false]; exact l
      · have e2' : ¬ cmpI g.2.length f.2.length = 0 := by omega
        simp only [e, e', e2, e2', ne_eq, not_true, not_false_eq_true, if_false, if_true]; exact i
    · have e' : ¬ cmpS g.1 f.1 = 0 := by omega
      simp only [e, e', ne_eq, not_false_eq_true, if_true]; exact h
  zero f g h := by
    unfold cmpF at h
    by_cases e : cmpS f.1 g.1 = 0
    · rw [if_neg (by omega)] at h
      by_cases e2 : cmpI f.2.length g.2.length = 0
      · rw [if_neg (by omega)] at h
        exact Prod.ext (three_cmpS.zero _ _ e) (cmpL_zero _ _ h)
      · rw [if_pos e2] at h; exact absurd h e2
    · rw [if_pos e] at h; exact absurd h e
  trans f g d h k := by
    unfold cmpF at *
    by_cases e : cmpS f.1 g.1 = 0
    · rw [three_cmpS.zero _ _ e]
      rw [if_neg (by omega)] at h
      by_cases m : cmpS g.1 d.1 = 0
      · rw [if_neg (by omega)] at k ⊢
        by_cases e2 : cmpI f.2.length g.2.length = 0
        · have e3 := three_cmpI.zero _ _ e2
          rw [e3]
          rw [if_neg (by omega)] at h
          by_cases m2 : cmpI g.2.length d.2.length = 0
          · rw [if_neg (by omega)] at k ⊢
            exact cmpL_trans _ _ _ h k
          · rw [if_pos m2] at k ⊢; exact k
        · rw [if_pos e2] at h
          by_cases m2 : cmpI g.2.length d.2.length = 0
          · rw [← three_cmpI.zero _ _ m2, if_pos e2]; exact h
          · rw [if_pos m2] at k
            have := three_cmpI.trans _ _ _ h k
            rw [if_pos (by omega)]; exact this
      · rw [if_pos m] at k ⊢; exact k
    · rw [if_pos e] at h
      by_cases m : cmpS g.1 d.1 = 0
      · rw [← three_cmpS.zero _ _ m, if_pos e]; exact h
      · rw [if_pos m] at k
        have := three_cmpS.trans _ _ _ h k
        rw [if_pos (by omega)]; exact this

theorem cmpF_trans0 {a b c : FactD} (h : 0 ≤ cmpF a b) (k : 0 ≤ cmpF b c) : 0 ≤ cmpF a c := by
  refine Int.not_lt.1 fun n => ?_
  have s1 := three_cmpF.swap a b
  have s2 := three_cmpF.swap b c
  by_cases e : cmpF a b = 0
  · rw [three_cmpF.zero _ _ e] at n; omega
  · by_cases e2 : cmpF b c = 0
    · rw [← three_cmpF.zero _ _ e2] at n; omega
    · have := three_cmpF.trans c b a (by omega) (by omega)
      have s3 := three_cmpF.swap a c
      omega

end Go.Proofs.YtkihcabplbbjcaaGreatDoor

/- Bytes, names, variables: plain. Nothing of the program. -/
namespace Go.Proofs.YtkihcabplbbjcaaGreatDoor

/-- A small letter, or a digit. -/
def smallB (x : Int) : Bool := decide (97 ≤ x ∧ x ≤ 122) || decide (48 ≤ x ∧ x ≤ 57)
/-- A sign of a word. -/
def signB (x : Int) : Bool := smallB x || decide (65 ≤ x ∧ x ≤ 90) || decide (x = 95)
/-- A great letter. -/
def greatB (x : Int) : Bool := decide (65 ≤ x ∧ x ≤ 90)

abbrev Bs := List UInt8
/-- A text of these bytes. -/
def bs (l : Bs) : ByteArray := ⟨l.toArray⟩
/-- A text's bytes. -/
def raw (s : ByteArray) : Bs := s.data.toList

theorem bs_raw (s : ByteArray) : bs (raw s) = s := by cases s; simp [bs, raw]
theorem raw_bs (l : Bs) : raw (bs l) = l := by simp [bs, raw]
theorem size_bs (l : Bs) : (bs l).size = l.length := by simp [bs, ByteArray.size]
theorem length_raw (s : ByteArray) : (raw s).length = s.size := Array.length_toList
theorem bs_inj {a b : Bs} (h : bs a = bs b) : a = b := by rw [← raw_bs a, h, raw_bs]
theorem raw_inj {a b : ByteArray} (h : raw a = raw b) : a = b := by rw [← bs_raw a, h, bs_raw]

def isSign (c : UInt8) : Bool := signB c.toNat
def isNamed (l : Bs) : Bool := decide (l.length ≤ 12) && (match l with | [] => false | c :: _ => smallB c.toNat) && l.all isSign
def isVar (l : Bs) : Bool := decide (l.length ≤ 12) && (match l with | [] => false | c :: _ => greatB c.toNat) && l.all isSign

end Go.Proofs.YtkihcabplbbjcaaGreatDoor

/- What texts are rules: the document's answer, on lists of bytes; one text behind another. Nothing of the program. -/
namespace Go.Proofs.YtkihcabplbbjcaaGreatDoor

/-- Where a text goes on behind blanks and notes ('true': a note has begun). -/
def skipM : Bool → Bs → Bs
  | _, [] => []
  | false, c :: t => if c = 32 ∨ c = 10 then skipM false t else if c = 37 then skipM true t else c :: t
  | true, c :: t => if c = 10 then skipM false t else skipM true t

abbrev skip (l : Bs) : Bs := skipM false l

/-- What was read, and what follows; or what is wrong, and what follows there. -/
inductive Res (α : Type) where
  | ok (a : α) (r : Bs)
  | bad (e : Int) (r : Bs)

def Res.next {α β : Type} (x : Res α) (f : α → Bs → Res β) : Res β :=
  match x with
  | .ok a r => f a r
  | .bad e r => .bad e r

def took (g l : Bs) : Bool × Bs := if g.isPrefixOf (skip l) then (true, (skip l).drop g.length) else (false, skip l)

/-- A word that fits. -/
def word (fits : Bs → Bool) (l : Bs) : Res Bs :=
  if (skip l).takeWhile isSign = [] then .bad 2 (skip l)
  else if fits ((skip l).takeWhile isSign) then .ok ((skip l).takeWhile isSign) ((skip l).drop ((skip l).takeWhile isSign).length)
  else .bad 7 (skip l)

/-- Parts with ',' between: n more at most. -/
def listGo {α : Type} (part : Bs → Res α) : Nat → List α → Bs → Res (List α)
  | n, out, l => if (took [44] l).1 then
      match n with
      | 0 => .bad 5 (took [44] l).2
      | n + 1 => (part (took [44] l).2).next fun a r => listGo part n (out ++ [a]) r
    else .ok out (took [44] l).2

def listP {α : Type} (part : Bs → Res α) (most : Nat) (l : Bs) : Res (List α) := (part l).next fun a r => listGo part (most - 1) [a] r

def mustTake {α : Type} (g : Bs) (a : α) (l : Bs) : Res α := if (took g l).1 then .ok a (took g l).2 else .bad 2 (took g l).2

abbrev TermD := Bool × Bs
structure AtomD where
  no : Bool
  name : Bs
  terms : List TermD
deriving DecidableEq
structure RuleD where
  head : AtomD
  body : List AtomD
deriving DecidableEq

def fitsTerm (w : Bs) : Bool := isNamed w || isVar w
def term (l : Bs) : Res TermD := (word fitsTerm l).next fun w r => .ok (isVar w, w) r
def atom (l : Bs) : Res AtomD := (word isNamed l).next fun w r =>
  if (took [40] r).1 then (listP term 4 (took [40] r).2).next fun ts r => mustTake [41] ⟨false, w, ts⟩ r else .ok ⟨false, w, []⟩ (took [40] r).2
def bodyAtom (l : Bs) : Res AtomD := (atom (took [33] l).2).next fun a r => .ok { a with no := (took [33] l).1 } r
def body (l : Bs) : Res (List AtomD) := listP bodyAtom 5 l
def rule (l : Bs) : Res RuleD := (atom l).next fun a r =>
  if (took [58, 45] r).1 then (body (took [58, 45] r).2).next fun b r => mustTake [46] ⟨a, b⟩ r else mustTake [46] ⟨a, []⟩ (took [58, 45] r).2
def rulesGo : Nat → List RuleD → Bs → Res (List RuleD)
  | n, out, l => if skip l = [] then .ok out [] else
    match n with
    | 0 => .bad 5 (skip l)
    | n + 1 => (rule (skip l)).next fun a r => rulesGo n (out ++ [a]) r
def onlyBody (l : Bs) : Res (List AtomD) := (body l).next fun b r => if skip r = [] then .ok b [] else .bad 2 (skip r)

theorem Res.next_ok {α β : Type} {x : Res α} {f : α → Bs → Res β} {b : β} {r : Bs} (h : x.next f = .ok b r) : ∃ a r', x = .ok a r' ∧ f a r' = .ok b r := by
  cases x with
  | ok a r' => exact ⟨a, r', rfl, h⟩
  | bad e r' => cases h

theorem skip_blank {c : UInt8} {t : Bs} (h : c = 32 ∨ c = 10) : skipM false (c :: t) = skipM false t := by simp only [skipM, if_pos h]
theorem skip_note {t : Bs} : skipM false (37 :: t) = skipM true t := by simp [skipM]
theorem skip_other {c : UInt8} {t : Bs} (h : ¬ (c = 32 ∨ c = 10)) (h2 : ¬ c = 37) : skipM false (c :: t) = c :: t := by simp only [skipM, if_neg h, if_neg h2]
theorem note_end {t : Bs} : skipM true (10 :: t) = skipM false t := by simp [skipM]
theorem note_on {c : UInt8} {t : Bs} (h : ¬ c = 10) : skipM true (c :: t) = skipM true t := by simp only [skipM, if_neg h]

/-- What is read with something behind it is read with a line feed behind that. -/
def Local {α : Type} (P : Bs → Res α) : Prop := ∀ l a r t, P l = .ok a r → r ≠ [] → P (l ++ 10 :: t) = .ok a (r ++ 10 :: t)
/-- Of nothing nothing remains. -/
def Ends {α : Type} (P : Bs → Res α) : Prop := ∀ a r, P [] = .ok a r → r = []

theorem mustTake_ok {α : Type} {g l r : Bs} {a b : α} (h : mustTake g a l = .ok b r) : (took g l).1 = true ∧ b = a ∧ r = (took g l).2 := by
  unfold mustTake at h
  split at h
  · cases h; exact ⟨by assumption, rfl, rfl⟩
  · cases h

theorem rulesGo_end (n : Nat) (out : List RuleD) {l : Bs} (h : skip l = []) : rulesGo n out l = .ok out [] := by
  unfold rulesGo; exact if_pos h

end Go.Proofs.YtkihcabplbbjcaaGreatDoor

/- What is wrong with programs, and their strata: the document's answer, on plain data. Nothing of the program. -/
namespace Go.Proofs.YtkihcabplbbjcaaGreatDoor

/-- One more, if it is not there. -/
def addNew (l : List Bs) (s : Bs) : List Bs := if l.contains s then l else l ++ [s]
def varsGo (l : List Bs) (ts : List TermD) : List Bs := ts.foldl (fun l t => if t.1 then addNew l t.2 else l) l
/-- An atom's variables. -/
def vars (a : AtomD) : List Bs := varsGo [] a.terms
def wrongTerm (t : TermD) : Bool := if t.1 then !isVar t.2 else !isNamed t.2
def wrongAtom (a : AtomD) : Int := if isNamed a.name = false then 7 else if 4 < a.terms.length then 5 else if a.terms.any wrongTerm then 7 else 0
/-- What atoms that are so give. -/
def givenBy (l : List AtomD) (s : Bs) : Bool := l.any fun a => !a.no && (vars a).contains s
def wrongAtoms : List AtomD → Int
  | [] => 0
  | a :: l => if wrongAtom a = 0 then wrongAtoms l else wrongAtom a
def wrongBody (l : List AtomD) : Int := if 5 < l.length then 5 else if wrongAtoms l = 0 then (if l.all (fun a => (vars a).all (givenBy l)) then 0 else 9) else wrongAtoms l

/-- A name's number, where it has one. -/
abbrev Nums := Bs → Option Nat
def Nums.put (m : Nums) (s : Bs) (n : Nat) : Nums := fun t => if t = s then some n else m t
def fitOne (m : Nums) (a : AtomD) : Bool × Nums := match m a.name with
  | none => (true, m.put a.name a.terms.length)
  | some n => (decide (n = a.terms.length), m)
def fitAll : Nums → List AtomD → Bool × Nums
  | m, [] => (true, m)
  | m, a :: l => if (fitOne m a).1 then fitAll (fitOne m a).2 l else (false, (fitOne m a).2)
/-- What is wrong with a rule, behind others. -/
def wrongRule (m : Nums) (r : RuleD) : Int × Nums :=
  if wrongAtom r.head = 0 then
    if r.head.no then (2, m) else
    if wrongBody r.body = 0 then
      if (vars r.head).all (givenBy r.body) then
        if (fitOne m r.head).1 then (if (fitAll (fitOne m r.head).2 r.body).1 then 0 else 8, (fitAll (fitOne m r.head).2 r.body).2) else (8, (fitOne m r.head).2)
      else (9, m)
    else (wrongBody r.body, m)
  else (wrongAtom r.head, m)
def wrongGo : Nums → Nat → List RuleD → Int × Nat
  | _, _, [] => (0, 0)
  | m, i, r :: l => if (wrongRule m r).1 = 0 then wrongGo (wrongRule m r).2 (i + 1) l else ((wrongRule m r).1, i)
/-- What is wrong with a program, and at which rule. -/
def wrongP (p : List RuleD) : Int × Nat := if 16 < p.length then (5, 0) else wrongGo (fun _ => none) 0 p

/-- The least that a head may have in whose body an atom stands. -/
def behind (m : Nums) (a : AtomD) : Nat := match m a.name with
  | none => 0
  | some n => if a.no then n + 1 else n
def numOf (m : Nums) (s : Bs) : Nat := (m s).getD 0
def liftAtom (h : Bs) (x : Nums × Bool) (a : AtomD) : Nums × Bool := if numOf x.1 h < behind x.1 a then (x.1.put h (behind x.1 a), true) else x
def liftRule (x : Nums × Bool) (r : RuleD) : Nums × Bool := r.body.foldl (liftAtom r.head.name) x
def liftAll (x : Nums × Bool) (p : List RuleD) : Nums × Bool := p.foldl liftRule x
def startGo (m : Nums) (p : List RuleD) : Nums := p.foldl (fun m r => m.put r.head.name 0) m
def start (p : List RuleD) : Nums := startGo (fun _ => none) p
def strataGo (p : List RuleD) : Nat → Nums → Option Nums
  | 0, _ => none
  | n + 1, m => if (liftAll (m, false) p).2 then strataGo p n (liftAll (m, false) p).1 else some (liftAll (m, false) p).1
def each (m : Nums) (p : List RuleD) : List Nat := p.map fun r => numOf m r.head.name
/-- A program's strata, and what is wrong. -/
def strataP (p : List RuleD) : List Nat × Int × Nat :=
  if (wrongP p).1 = 0 then match strataGo p (p.length + 1) (start p) with
    | some m => (each m p, 0, 0)
    | none => ([], 10, 0)
  else ([], wrongP p)

/-! ### numbers that hold -/
def isHead (p : List RuleD) (s : Bs) : Prop := ∃ r ∈ p, r.head.name = s
def step (a : AtomD) : Nat := if a.no then 1 else 0
/-- With these numbers all is as it must be. -/
def Sol (p : List RuleD) (σ : Bs → Nat) : Prop := ∀ r ∈ p, ∀ a ∈ r.body, isHead p a.name → σ a.name + step a ≤ σ r.head.name

/-- Just heads have numbers. -/
def Doms (p : List RuleD) (m : Nums) : Prop := ∀ s, (m s).isSome ↔ isHead p s
/-- No number is greater than what holds. -/
def Least (p : List RuleD) (m : Nums) : Prop := ∀ σ, Sol p σ → ∀ s, numOf m s ≤ σ s

theorem behind_eq {p : List RuleD} {m : Nums} (hd : Doms p m) (a : AtomD) (h : isHead p a.name) : behind m a = numOf m a.name + step a := by
  unfold behind numOf step
  have := (hd a.name).2 h
  obtain ⟨n, hn⟩ := Option.isSome_iff_exists.1 this
  rw [hn]
  cases a.no <;> simp
theorem behind_none {p : List RuleD} {m : Nums} (hd : Doms p m) (a : AtomD) (h : ¬ isHead p a.name) : behind m a = 0 := by
  unfold behind
  have : m a.name = none := by
    cases e : m a.name with
    | none => rfl
    | some n => exact absurd ((hd a.name).1 (by rw [e]; rfl)) h
  rw [this]

theorem numOf_put (m : Nums) (s t : Bs) (n : Nat) : numOf (m.put s n) t = if t = s then n else numOf m t := by
  unfold numOf Nums.put
  by_cases h : t = s <;> simp [h]

theorem Doms.put {p : List RuleD} {m : Nums} (hd : Doms p m) {s : Bs} (hs : isHead p s) (n : Nat) : Doms p (m.put s n) := by
  intro t
  unfold Nums.put
  by_cases h : t = s
  · subst h; simp [hs]
  · rw [if_neg h]; exact hd t

/-- What lifting keeps. -/
theorem liftAtom_kept {p : List RuleD} {r : RuleD} (hr : r ∈ p) {x : Nums × Bool} (hd : Doms p x.1) (hl : Least p x.1) {a : AtomD} (ha : a ∈ r.body) :
    Doms p (liftAtom r.head.name x a).1 ∧ Least p (liftAtom r.head.name x a).1 ∧ ∀ s, numOf x.1 s ≤ numOf (liftAtom r.head.name x a).1 s := by
  unfold liftAtom
  split
  · rename_i hlt
    refine ⟨hd.put ⟨r, hr, rfl⟩ _, fun σ hσ s => ?_, fun s => ?_⟩
    · show numOf (x.1.put _ _) s ≤ _
      rw [numOf_put]
      split
      · rename_i h
        subst h
        by_cases hh : isHead p a.name
        · rw [behind_eq hd a hh]
          have h1 := hσ r hr a ha hh
          have h2 := hl σ hσ a.name
          omega
        · rw [behind_none hd a hh]; omega
      · exact hl σ hσ s
    · show _ ≤ numOf (x.1.put _ _) s
      rw [numOf_put]
      split
      · rename_i h; subst h; omega
      · exact Nat.le_refl _
  · exact ⟨hd, hl, fun _ => Nat.le_refl _⟩

theorem liftRule_kept {p : List RuleD} {r : RuleD} (hr : r ∈ p) (l : List AtomD) : ∀ {x : Nums × Bool}, Doms p x.1 → Least p x.1 → (∀ a ∈ l, a ∈ r.body) →
    Doms p (l.foldl (liftAtom r.head.name) x).1 ∧ Least p (l.foldl (liftAtom r.head.name) x).1 ∧ ∀ s, numOf x.1 s ≤ numOf (l.foldl (liftAtom r.head.name) x).1 s := by
  induction l with
  | nil => intro x hd hl _; exact ⟨hd, hl, fun _ => Nat.le_refl _⟩
  | cons a l ih =>
    intro x hd hl ha
    obtain ⟨d1, l1, u1⟩ := liftAtom_kept hr hd hl (ha a (by simp))
    obtain ⟨d2, l2, u2⟩ := ih d1 l1 (fun b hb => ha b (by simp [hb]))
    exact ⟨d2, l2, fun s => Nat.le_trans (u1 s) (u2 s)⟩

theorem liftAll_kept {p : List RuleD} (l : List RuleD) : ∀ {x : Nums × Bool}, Doms p x.1 → Least p x.1 → (∀ r ∈ l, r ∈ p) →
    Doms p (liftAll x l).1 ∧ Least p (liftAll x l).1 ∧ ∀ s, numOf x.1 s ≤ numOf (liftAll x l).1 s := by
  induction l with
  | nil => intro x hd hl _; exact ⟨hd, hl, fun _ => Nat.le_refl _⟩
  | cons r l ih =>
    intro x hd hl hr
    obtain ⟨d1, l1, u1⟩ := liftRule_kept (hr r (by simp)) r.body hd hl (fun a h => h)
    obtain ⟨d2, l2, u2⟩ := ih d1 l1 (fun b hb => hr b (by simp [hb]))
    exact ⟨d2, l2, fun s => Nat.le_trans (u1 s) (u2 s)⟩

/-- What was lifted stays so. -/
theorem liftAtom_true (h : Bs) (x : Nums × Bool) (a : AtomD) (hx : x.2 = true) : (liftAtom h x a).2 = true := by unfold liftAtom; split <;> simp [hx]
theorem foldAtom_true (h : Bs) (l : List AtomD) : ∀ x : Nums × Bool, x.2 = true → (l.foldl (liftAtom h) x).2 = true := by
  induction l with
  | nil => intro x hx; exact hx
  | cons a l ih => intro x hx; exact ih _ (liftAtom_true h x a hx)
theorem liftAll_true (l : List RuleD) : ∀ x : Nums × Bool, x.2 = true → (liftAll x l).2 = true := by
  induction l with
  | nil => intro x hx; exact hx
  | cons r l ih => intro x hx; exact ih _ (foldAtom_true _ _ x hx)

/-- Where nothing is lifted, all is as it must be. -/
theorem foldAtom_rest (h : Bs) (l : List AtomD) : ∀ m : Nums, (l.foldl (liftAtom h) (m, false)).2 = false → l.foldl (liftAtom h) (m, false) = (m, false) ∧ ∀ a ∈ l, behind m a ≤ numOf m h := by
  induction l with
  | nil => intro m _; exact ⟨rfl, by simp⟩
  | cons a l ih =>
    intro m hm
    rw [List.foldl_cons] at hm ⊢
    by_cases hlt : numOf m h < behind m a
    · have : (liftAtom h (m, false) a).2 = true := by unfold liftAtom; rw [if_pos hlt]
      rw [foldAtom_true h l _ this] at hm; cases hm
    · have e : liftAtom h (m, false) a = (m, false) := by unfold liftAtom; rw [if_neg hlt]
      rw [e] at hm ⊢
      obtain ⟨h1, h2⟩ := ih m hm
      refine ⟨h1, fun b hb => ?_⟩
      rcases List.mem_cons.1 hb with rfl | hb
      · omega
      · exact h2 b hb
theorem liftAll_rest (l : List RuleD) : ∀ m : Nums, (liftAll (m, false) l).2 = false → liftAll (m, false) l = (m, false) ∧ ∀ r ∈ l, ∀ a ∈ r.body, behind m a ≤ numOf m r.head.name := by
  induction l with
  | nil => intro m _; exact ⟨rfl, by simp⟩
  | cons r l ih =>
    intro m hm
    unfold liftAll at hm ⊢
    rw [List.foldl_cons] at hm ⊢
    have h0 : (liftRule (m, false) r).2 = false := by
      cases hc : (liftRule (m, false) r).2 with
      | false => rfl
      | true => have := liftAll_true l _ hc; unfold liftAll at this; rw [this] at hm; cases hm
    obtain ⟨e, h1⟩ := foldAtom_rest _ _ m h0
    have e' : liftRule (m, false) r = (m, false) := e
    rw [e'] at hm ⊢
    obtain ⟨h2, h3⟩ := ih m hm
    refine ⟨h2, fun q hq => ?_⟩
    rcases List.mem_cons.1 hq with rfl | hq
    · exact h1
    · exact h3 q hq

/-! ### at the beginning -/
theorem startGo_dom (l : List RuleD) : ∀ (m : Nums) (s : Bs), (startGo m l s).isSome ↔ ((m s).isSome ∨ isHead l s) := by
  induction l with
  | nil => intro m s; simp [startGo, isHead]
  | cons r l ih =>
    intro m s
    show (startGo (m.put r.head.name 0) l s).isSome ↔ _
    rw [ih]
    unfold Nums.put isHead
    by_cases h : s = r.head.name
    · subst h; simp
    · have h' : ¬ r.head.name = s := fun e => h e.symm
      simp [h, h']
theorem startGo_zero (l : List RuleD) : ∀ (m : Nums), (∀ s, numOf m s = 0) → ∀ s, numOf (startGo m l) s = 0 := by
  induction l with
  | nil => intro m h; exact h
  | cons r l ih =>
    intro m h
    exact ih _ fun s => by rw [numOf_put]; split <;> simp [h]
theorem start_dom (p : List RuleD) : Doms p (start p) := fun s => by unfold start; rw [startGo_dom]; simp
theorem start_zero (p : List RuleD) (s : Bs) : numOf (start p) s = 0 := startGo_zero p _ (fun _ => rfl) s
theorem start_least (p : List RuleD) : Least p (start p) := fun σ _ s => by rw [start_zero]; exact Nat.zero_le _

/-- What strataGo tells holds, and is the least. -/
theorem strataGo_some {p : List RuleD} : ∀ (n : Nat) (m m' : Nums), Doms p m → Least p m → strataGo p n m = some m' → Doms p m' ∧ Least p m' ∧ ∀ r ∈ p, ∀ a ∈ r.body, behind m' a ≤ numOf m' r.head.name := by
  intro n
  induction n with
  | zero => intro m m' _ _ h; cases h
  | succ n ih =>
    intro m m' hd hl h
    unfold strataGo at h
    split at h
    · obtain ⟨d1, l1, _⟩ := liftAll_kept p hd hl (x := (m, false)) (fun _ h => h)
      exact ih _ _ d1 l1 h
    · rename_i hf
      obtain ⟨e, h1⟩ := liftAll_rest p m (by simpa using hf)
      rw [e] at h
      cases h
      exact ⟨hd, hl, h1⟩

theorem sol_of {p : List RuleD} {m : Nums} (hd : Doms p m) (h : ∀ r ∈ p, ∀ a ∈ r.body, behind m a ≤ numOf m r.head.name) : Sol p (numOf m) := fun r hr a ha hh => by
  rw [← behind_eq hd a hh]; exact h r hr a ha

/-- What a program's strata are: numbers that hold, the least. -/
theorem strataP_ok {p : List RuleD} {l : List Nat} {k : Nat} (h : strataP p = (l, 0, k)) : (wrongP p).1 = 0 ∧ ∃ m, l = each m p ∧ Doms p m ∧ Least p m ∧ Sol p (numOf m) := by
  unfold strataP at h
  split at h
  · rename_i h0
    split at h
    · rename_i m hm
      obtain ⟨d, le, s⟩ := strataGo_some _ _ _ (start_dom p) (start_least p) hm
      simp at h
      exact ⟨h0, m, h.1.symm, d, le, sol_of d s⟩
    · simp at h
  · rename_i h0
    rw [Prod.mk.injEq] at h
    exact absurd (congrArg Prod.fst h.2) h0

/-! ### no stratum is left out -/
theorem no_gap {p : List RuleD} {m : Nums} (hl : Least p m) (hs : Sol p (numOf m)) (k : Nat) (hk : ∀ r ∈ p, numOf m r.head.name ≠ k) : ∀ r ∈ p, numOf m r.head.name < k := by
  intro r hr
  have hσ : Sol p (fun s => if numOf m s > k then numOf m s - 1 else numOf m s) := by
    intro q hq a ha hh
    have h1 := hs q hq a ha hh
    have h2 := hk q hq
    obtain ⟨q', hq', e'⟩ := hh
    have h3 := hk q' hq'
    rw [e'] at h3
    have h4 : step a ≤ 1 := by unfold step; split <;> omega
    show (if numOf m a.name > k then _ else _) + _ ≤ (if numOf m q.head.name > k then _ else _)
    split <;> split <;> omega
  have h1 : numOf m r.head.name ≤ (if numOf m r.head.name > k then numOf m r.head.name - 1 else numOf m r.head.name) := hl _ hσ r.head.name
  have h2 := hk r hr
  split at h1 <;> omega

theorem sum_le {p : List RuleD} {f g : RuleD → Nat} (h : ∀ r ∈ p, f r ≤ g r) : (p.map f).sum ≤ (p.map g).sum := by
  induction p with
  | nil => simp
  | cons a p ih =>
    have := ih fun r hr => h r (by simp [hr])
    have := h a (by simp)
    simp; omega
theorem sum_lt {p : List RuleD} {f g : RuleD → Nat} (h : ∀ r ∈ p, f r ≤ g r) (hx : ∃ r ∈ p, f r < g r) : (p.map f).sum < (p.map g).sum := by
  induction p with
  | nil => obtain ⟨r, hr, _⟩ := hx; simp at hr
  | cons a p ih =>
    have h1 := sum_le fun r hr => h r (List.mem_cons_of_mem a hr)
    have h2 := h a (by simp)
    obtain ⟨r, hr, hlt⟩ := hx
    rcases List.mem_cons.1 hr with rfl | hr
    · simp; omega
    · have := ih (fun r hr => h r (by simp [hr])) ⟨r, hr, hlt⟩
      simp; omega

/-- How many heads are where they must be. -/
def settled (p : List RuleD) (τ : Bs → Nat) (m : Nums) : Nat := (p.map fun r => if numOf m r.head.name = τ r.head.name then 1 else 0).sum

end Go.Proofs.YtkihcabplbbjcaaGreatDoor
