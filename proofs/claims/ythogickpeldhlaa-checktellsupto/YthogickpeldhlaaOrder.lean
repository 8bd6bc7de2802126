/- The order of facts, in plain Lean: names, then how many arguments, then these in turn; sets of facts as lists that rise. Nothing of the program. -/
import Derived.WalkKit
import Derived.Lib.Strings
namespace Go.Proofs.Ythogickpeldhlaa
open Go.RowKit

/-- A three-way comparison that is a total order (0: the same). -/
structure Three {α : Type} (c : α → α → Int) : Prop where
  swap : ∀ a b, c b a = - c a b
  zero : ∀ a b, c a b = 0 → a = b
  trans : ∀ a b d, c a b < 0 → c b d < 0 → c a d < 0

theorem Three.refl {α : Type} {c : α → α → Int} (h : Three c) (a : α) : c a a = 0 := by
  have := h.swap a a; omega

theorem bl_irrefl : ∀ x : List UInt8, Op.bytesLess x x = false
  | [] => rfl
  | a :: x => by simp [Op.bytesLess, bl_irrefl x]

theorem bl_trans : ∀ x y z : List UInt8, Op.bytesLess x y = true → Op.bytesLess y z = true → Op.bytesLess x z = true
  | [], [], _, h, _ => by simp [Op.bytesLess] at h
  | [], _ :: _, [], _, h => by simp [Op.bytesLess] at h
  | [], _ :: _, _ :: _, _, _ => rfl
  | _ :: _, [], _, h, _ => by simp [Op.bytesLess] at h
  | _ :: _, _ :: _, [], _, h => by simp [Op.bytesLess] at h
  | a :: x, b :: y, c :: z, h, k => by
    simp only [Op.bytesLess, Bool.or_eq_true, Bool.and_eq_true, decide_eq_true_eq, beq_iff_eq] at h k ⊢
    rcases h with h | ⟨rfl, h⟩ <;> rcases k with k | ⟨rfl, k⟩
    · exact Or.inl (UInt8.lt_trans h k)
    · exact Or.inl h
    · exact Or.inl k
    · exact Or.inr ⟨rfl, bl_trans x y z h k⟩

theorem bl_total : ∀ x y : List UInt8, Op.bytesLess x y = false → x ≠ y → Op.bytesLess y x = true
  | [], [], _, h => absurd rfl h
  | [], _ :: _, h, _ => by simp [Op.bytesLess] at h
  | _ :: _, [], _, _ => rfl
  | a :: x, b :: y, h, k => by
    simp only [Op.bytesLess, Bool.or_eq_false_iff, Bool.and_eq_false_iff, decide_eq_false_iff_not, beq_eq_false_iff_ne, Bool.or_eq_true, Bool.and_eq_true, decide_eq_true_eq, beq_iff_eq] at h ⊢
    by_cases e : a = b
    · subst e
      exact Or.inr ⟨rfl, bl_total x y (h.2.resolve_left (fun n => n rfl)) (fun e => k (by rw [e]))⟩
    · refine Or.inl ?_
      have h1 := h.1
      rw [UInt8.lt_iff_toNat_lt] at *
      have : a.toNat ≠ b.toNat := fun n => e (UInt8.toNat_inj.1 n)
      omega

/-- Texts, byte by byte. -/
def cmpS (a b : ByteArray) : Int := if Op.bytesLess a.toList b.toList then -1 else if a.toList == b.toList then 0 else 1

theorem toList_inj {a b : ByteArray} (h : a.toList = b.toList) : a = b := by
  rw [Lib.toList_data, Lib.toList_data] at h
  have : a.data = b.data := Array.toList_inj.1 h
  cases a; cases b; simp_all

theorem bl_asym (x y : List UInt8) (h : Op.bytesLess x y = true) : Op.bytesLess y x = false := by
  cases k : Op.bytesLess y x
  · rfl
  · have := bl_trans x y x h k; rw [bl_irrefl] at this; cases this

theorem three_cmpS : Three cmpS where
  swap a b := by
    unfold cmpS
    by_cases h : Op.bytesLess a.toList b.toList = true
    · rw [if_pos h, if_neg (by rw [bl_asym _ _ h]; simp)]
      have : (b.toList == a.toList) = false := by
        rw [beq_eq_false_iff_ne]; intro e; rw [e, bl_irrefl] at h; cases h
      rw [if_neg (by rw [this]; simp)]; rfl
    · by_cases e : a.toList = b.toList
      · rw [e, bl_irrefl]; simp
      · have hf : Op.bytesLess a.toList b.toList = false := by simpa using h
        have := bl_total _ _ hf e
        rw [if_pos this, if_neg h, if_neg (by simpa using e)]
  zero a b h := by
    unfold cmpS at h
    split at h
    · omega
    · split at h
      · exact toList_inj (by simpa using ‹(a.toList == b.toList) = true›)
      · omega
  trans a b d h k := by
    unfold cmpS at *
    have h1 : Op.bytesLess a.toList b.toList = true := by
      split at h
      · assumption
      · split at h <;> omega
    have k1 : Op.bytesLess b.toList d.toList = true := by
      split at k
      · assumption
      · split at k <;> omega
    rw [if_pos (bl_trans _ _ _ h1 k1)]; omega

/-- Whole numbers. -/
def cmpI (a b : Int) : Int := if a < b then -1 else if b < a then 1 else 0

theorem three_cmpI : Three cmpI where
  swap a b := by unfold cmpI; split <;> split <;> omega
  zero a b h := by
    unfold cmpI at h
    by_cases h1 : a < b
    · rw [if_pos h1] at h; omega
    · rw [if_neg h1] at h
      by_cases h2 : b < a
      · rw [if_pos h2] at h; omega
      · omega
  trans a b d h k := by
    unfold cmpI at *
    have h1 : a < b := by
      refine Int.not_le.1 fun n => ?_
      rw [if_neg (by omega)] at h
      split at h <;> omega
    have k1 : b < d := by
      refine Int.not_le.1 fun n => ?_
      rw [if_neg (by omega)] at k
      split at k <;> omega
    rw [if_pos (by omega)]; omega

/-- Lists of texts, one behind the other; the shorter first. -/
def cmpL : List ByteArray → List ByteArray → Int
  | [], [] => 0
  | [], _ :: _ => -1
  | _ :: _, [] => 1
  | a :: x, b :: y => if cmpS a b ≠ 0 then cmpS a b else cmpL x y

theorem cmpL_swap : ∀ x y, cmpL y x = - cmpL x y
  | [], [] => rfl
  | [], _ :: _ => rfl
  | _ :: _, [] => rfl
  | a :: x, b :: y => by
    have h := three_cmpS.swap a b
    simp only [cmpL]
    by_cases e : cmpS a b = 0
    · rw [if_neg (by omega), if_neg (by omega)]; exact cmpL_swap x y
    · rw [if_pos (by omega), if_pos (by omega)]; exact h

theorem cmpL_zero : ∀ x y, cmpL x y = 0 → x = y
  | [], [], _ => rfl
  | [], _ :: _, h => by simp [cmpL] at h
  | _ :: _, [], h => by simp [cmpL] at h
  | a :: x, b :: y, h => by
    simp only [cmpL] at h
    split at h
    · exact absurd h ‹_›
    · have e : cmpS a b = 0 := by omega
      rw [three_cmpS.zero a b e, cmpL_zero x y h]

theorem cmpL_trans : ∀ x y z, cmpL x y < 0 → cmpL y z < 0 → cmpL x z < 0
  | [], [], _, h, _ => by simp [cmpL] at h
  | [], _ :: _, [], _, k => by simp [cmpL] at k
  | [], _ :: _, _ :: _, _, _ => by simp [cmpL]
  | _ :: _, [], _, h, _ => by simp [cmpL] at h
  | _ :: _, _ :: _, [], _, k => by simp [cmpL] at k
  | a :: x, b :: y, c :: z, h, k => by
    simp only [cmpL] at h k ⊢
    by_cases e : cmpS a b = 0
    · have e' := three_cmpS.zero _ _ e; subst e'
      rw [if_neg (by omega)] at h
      by_cases f : cmpS a c = 0
      · rw [if_neg (by omega)] at k ⊢
        exact cmpL_trans x y z h k
      · rw [if_pos f] at k ⊢; exact k
    · rw [if_pos e] at h
      by_cases f : cmpS b c = 0
      · have f' := three_cmpS.zero _ _ f; subst f'
        rw [if_pos e]; exact h
      · rw [if_pos f] at k
        have := three_cmpS.trans a b c h k
        rw [if_pos (by omega)]; exact this

/-- A fact: its name, and what it is said of. -/
abbrev FactD : Type := ByteArray × List ByteArray

def cmpF (f g : FactD) : Int :=
  if cmpS f.1 g.1 ≠ 0 then cmpS f.1 g.1 else if cmpI f.2.length g.2.length ≠ 0 then cmpI f.2.length g.2.length else cmpL f.2 g.2

theorem three_cmpF : Three cmpF where
  swap f g := by
    have h := three_cmpS.swap f.1 g.1
    have i := three_cmpI.swap f.2.length g.2.length
    have l := cmpL_swap f.2 g.2
    unfold cmpF
    by_cases e : cmpS f.1 g.1 = 0
    · have e' : cmpS g.1 f.1 = 0 := by omega
      by_cases e2 : cmpI f.2.length g.2.length = 0
      · have e2' : cmpI g.2.length f.2.length = 0 := by omega
        simp only [e, e', e2, e2', ne_eq, not_true, if_false]; exact l
      · have e2' : ¬ cmpI g.2.length f.2.length = 0 := by omega
        simp only [e, e', e2, e2', ne_eq, not_true, not_false_eq_true, if_false, if_true]; exact i
    · have e' : ¬ cmpS g.1 f.1 = 0 := by omega
      simp only [e, e', ne_eq, not_false_eq_true, if_true]; exact h
  zero f g h := by
    unfold cmpF at h
    by_cases e : cmpS f.1 g.1 = 0
    · rw [if_neg (by omega)] at h
      by_cases e2 : cmpI f.2.length g.2.length = 0
      · rw [if_neg (by omega)] at h
        exact Prod.ext (three_cmpS.zero _ _ e) (cmpL_zero _ _ h)
      · rw [if_pos e2] at h; exact absurd h e2
    · rw [if_pos e] at h; exact absurd h e
  trans f g d h k := by
    unfold cmpF at *
    by_cases e : cmpS f.1 g.1 = 0
    · rw [three_cmpS.zero _ _ e]
      rw [if_neg (by omega)] at h
      by_cases m : cmpS g.1 d.1 = 0
      · rw [if_neg (by omega)] at k ⊢
        by_cases e2 : cmpI f.2.length g.2.length = 0
        · have e3 := three_cmpI.zero _ _ e2
          rw [e3]
          rw [if_neg (by omega)] at h
          by_cases m2 : cmpI g.2.length d.2.length = 0
          · rw [if_neg (by omega)] at k ⊢
            exact cmpL_trans _ _ _ h k
          · rw [if_pos m2] at k ⊢; exact k
        · rw [if_pos e2] at h
          by_cases m2 : cmpI g.2.length d.2.length = 0
          · rw [← three_cmpI.zero _ _ m2, if_pos e2]; exact h
          · rw [if_pos m2] at k
            have := three_cmpI.trans _ _ _ h k
            rw [if_pos (by omega)]; exact this
      · rw [if_pos m] at k ⊢; exact k
    · rw [if_pos e] at h
      by_cases m : cmpS g.1 d.1 = 0
      · rw [← three_cmpS.zero _ _ m, if_pos e]; exact h
      · rw [if_pos m] at k
        have := three_cmpS.trans _ _ _ h k
        rw [if_pos (by omega)]; exact this

theorem cmpF_trans0 {a b c : FactD} (h : 0 ≤ cmpF a b) (k : 0 ≤ cmpF b c) : 0 ≤ cmpF a c := by
  refine Int.not_lt.1 fun n => ?_
  have s1 := three_cmpF.swap a b
  have s2 := three_cmpF.swap b c
  by_cases e : cmpF a b = 0
  · rw [three_cmpF.zero _ _ e] at n; omega
  · by_cases e2 : cmpF b c = 0
    · rw [← three_cmpF.zero _ _ e2] at n; omega
    · have := three_cmpF.trans c b a (by omega) (by omega)
      have s3 := three_cmpF.swap a c
      omega

end Go.Proofs.Ythogickpeldhlaa
