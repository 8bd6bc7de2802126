/- The reference's way to find circles, plain: who hangs on whom, and over what must not be so. Nothing of the program. -/
import Derived.Test.YthogickpeldhlaaChkF
namespace Go.Proofs.Ythogickpeldhlaa

abbrev Rel := Bs → Bs → Bool
def Rel.put (f : Rel) (a b : Bs) : Rel := fun x y => f x y || (decide (x = a) && decide (y = b))
def fwStep (k a b : Bs) (s : Rel × Rel) : Rel × Rel := if s.1 a k && s.1 k b then (s.1.put a b, if s.2 a k || s.2 k b then s.2.put a b else s.2) else s
def fwB (hs : List Bs) (k a : Bs) (s : Rel × Rel) : Rel × Rel := hs.foldl (fun s b => fwStep k a b s) s
def fwA (hs : List Bs) (k : Bs) (s : Rel × Rel) : Rel × Rel := hs.foldl (fun s a => fwB hs k a s) s
def fwK (hs : List Bs) (ks : List Bs) (s : Rel × Rel) : Rel × Rel := ks.foldl (fun s k => fwA hs k s) s

/-- All that was so is so. -/
def RLe (s t : Rel × Rel) : Prop := ∀ x y, (s.1 x y = true → t.1 x y = true) ∧ (s.2 x y = true → t.2 x y = true)
theorem RLe.refl (s : Rel × Rel) : RLe s s := fun _ _ => ⟨id, id⟩
theorem RLe.trans {s t u : Rel × Rel} (h : RLe s t) (k : RLe t u) : RLe s u := fun x y => ⟨fun e => (k x y).1 ((h x y).1 e), fun e => (k x y).2 ((h x y).2 e)⟩
theorem put_le (f : Rel) (a b x y : Bs) (h : f x y = true) : f.put a b x y = true := by unfold Rel.put; rw [h]; rfl
theorem put_same (f : Rel) (a b : Bs) : f.put a b a b = true := by unfold Rel.put; simp
theorem fwStep_le (k a b : Bs) (s : Rel × Rel) : RLe s (fwStep k a b s) := by
  intro x y
  unfold fwStep
  split
  · refine ⟨put_le _ _ _ _ _, fun h => ?_⟩
    show (if _ then _ else _ : Rel) x y = true
    split
    · exact put_le _ _ _ _ _ h
    · exact h
  · exact ⟨id, id⟩

theorem fold_le {α : Type} {f : Rel × Rel → α → Rel × Rel} (hf : ∀ s x, RLe s (f s x)) : ∀ (l : List α) (s : Rel × Rel), RLe s (l.foldl f s)
  | [], s => RLe.refl s
  | x :: l, s => (hf s x).trans (fold_le hf l (f s x))
theorem fold_hit {α : Type} {f : Rel × Rel → α → Rel × Rel} (hf : ∀ s x, RLe s (f s x)) {Q : Rel × Rel → Prop} (hQ : ∀ s t, RLe s t → Q s → Q t) {x : α} : ∀ (l : List α) (s : Rel × Rel), x ∈ l → (∀ t, RLe s t → Q (f t x)) → Q (l.foldl f s)
  | [], s, hx, _ => by cases hx
  | y :: l, s, hx, h => by
    rcases List.mem_cons.1 hx with rfl | hx
    · exact hQ _ _ (fold_le hf l _) (h s (RLe.refl s))
    · exact fold_hit hf hQ l (f s y) hx fun t ht => h t ((hf s y).trans ht)

theorem fwB_le (hs : List Bs) (k a : Bs) (s : Rel × Rel) : RLe s (fwB hs k a s) := fold_le (fun s b => fwStep_le k a b s) hs s
theorem fwA_le (hs : List Bs) (k : Bs) (s : Rel × Rel) : RLe s (fwA hs k s) := fold_le (fun s a => fwB_le hs k a s) hs s

theorem fwA_hit (hs : List Bs) {k a b : Bs} (s : Rel × Rel) (ha : a ∈ hs) (hb : b ∈ hs) (h1 : s.1 a k = true) (h2 : s.1 k b = true) : (fwA hs k s).1 a b = true ∧ ((s.2 a k = true ∨ s.2 k b = true) → (fwA hs k s).2 a b = true) := by
  have hQ : ∀ u t : Rel × Rel, RLe u t → (u.1 a b = true ∧ ((s.2 a k = true ∨ s.2 k b = true) → u.2 a b = true)) → (t.1 a b = true ∧ ((s.2 a k = true ∨ s.2 k b = true) → t.2 a b = true)) := fun u t h hu => ⟨(h a b).1 hu.1, fun e => (h a b).2 (hu.2 e)⟩
  refine fold_hit (fun s a => fwB_le hs k a s) hQ hs s ha fun t ht => ?_
  refine fold_hit (fun s b => fwStep_le k a b s) hQ hs t hb fun u hu => ?_
  have hsu := ht.trans hu
  have e1 := (hsu a k).1 h1
  have e2 := (hsu k b).1 h2
  unfold fwStep
  rw [e1, e2]
  refine ⟨put_same _ _ _, fun h => ?_⟩
  show (if _ then _ else _ : Rel) a b = true
  have : (u.2 a k || u.2 k b) = true := by
    rcases h with h | h
    · rw [(hsu a k).2 h]; rfl
    · rw [(hsu k b).2 h]; simp
  rw [if_pos this]
  exact put_same _ _ _

/-- What trails through these tell. -/
def Told (p : List RuleD) (hs K : List Bs) (s : Rel × Rel) : Prop := ∀ a b mid n, a ∈ hs → b ∈ hs → mid.Nodup → (∀ x ∈ mid, x ∈ K) → Trail p a (mid ++ [b]) n → s.1 a b = true ∧ (0 < n → s.2 a b = true)

theorem told_step {p : List RuleD} {hs K : List Bs} {s : Rel × Rel} {k : Bs} (hk : k ∈ hs) (h : Told p hs K s) : Told p hs (K ++ [k]) (fwA hs k s) := by
  intro a b mid n ha hb hn hsub ht
  by_cases hm : k ∈ mid
  · obtain ⟨m1, m2, rfl⟩ := List.append_of_mem hm
    rw [List.append_assoc, List.cons_append] at ht
    obtain ⟨n1, n2, rfl, t1, t2⟩ := Trail.split m1 ht
    have hn' := hn
    rw [List.nodup_append] at hn'
    obtain ⟨d1, d2, d3⟩ := hn'
    have d2' := List.nodup_cons.1 d2
    have s1 : ∀ x ∈ m1, x ∈ K := fun x hx => by
      have := hsub x (by simp [hx])
      rcases List.mem_append.1 this with h | h
      · exact h
      · simp at h; subst h; exact absurd rfl (d3 x hx x (by simp))
    have s2 : ∀ x ∈ m2, x ∈ K := fun x hx => by
      have := hsub x (by simp [hx])
      rcases List.mem_append.1 this with h | h
      · exact h
      · simp at h; subst h; exact absurd hx d2'.1
    obtain ⟨r1, o1⟩ := h a k m1 n1 ha hk d1 s1 t1
    obtain ⟨r2, o2⟩ := h k b m2 n2 hk hb d2'.2 s2 t2
    obtain ⟨q1, q2⟩ := fwA_hit hs s ha hb r1 r2
    refine ⟨q1, fun hpos => q2 ?_⟩
    by_cases h1 : 0 < n1
    · exact Or.inl (o1 h1)
    · exact Or.inr (o2 (by omega))
  · have s1 : ∀ x ∈ mid, x ∈ K := fun x hx => by
      rcases List.mem_append.1 (hsub x hx) with h | h
      · exact h
      · simp at h; subst h; exact absurd hx hm
    obtain ⟨r1, o1⟩ := h a b mid n ha hb hn s1 ht
    exact ⟨(fwA_le hs k s a b).1 r1, fun hpos => (fwA_le hs k s a b).2 (o1 hpos)⟩

theorem told_all {p : List RuleD} {hs : List Bs} : ∀ (ks K : List Bs) (s : Rel × Rel), (∀ k ∈ ks, k ∈ hs) → Told p hs K s → Told p hs (K ++ ks) (fwK hs ks s)
  | [], K, s, _, h => by rw [List.append_nil]; exact h
  | k :: ks, K, s, hk, h => by
    have h1 := told_step (hk k (by simp)) h
    have h2 := told_all ks (K ++ [k]) (fwA hs k s) (fun x hx => hk x (by simp [hx])) h1
    rw [List.append_assoc] at h2
    exact h2

/-- Numbers that hold are no greater down a way, and lesser over a step. -/
def Fits (σ : Bs → Nat) (s : Rel × Rel) : Prop := ∀ x y, (s.1 x y = true → σ y ≤ σ x) ∧ (s.2 x y = true → σ y + 1 ≤ σ x)
theorem fits_step {σ : Bs → Nat} {s : Rel × Rel} (hs2 : ∀ x y, s.2 x y = true → s.1 x y = true) (h : Fits σ s) (k a b : Bs) : Fits σ (fwStep k a b s) ∧ ∀ x y, (fwStep k a b s).2 x y = true → (fwStep k a b s).1 x y = true := by
  unfold fwStep
  split
  · rename_i hc
    rw [Bool.and_eq_true] at hc
    have h1 := (h a k).1 hc.1
    have h2 := (h k b).1 hc.2
    refine ⟨fun x y => ⟨fun e => ?_, fun e => ?_⟩, fun x y e => ?_⟩
    · unfold Rel.put at e
      rw [Bool.or_eq_true] at e
      rcases e with e | e
      · exact (h x y).1 e
      · simp at e; rw [e.1, e.2]; omega
    · have e' : (if s.2 a k || s.2 k b then s.2.put a b else s.2) x y = true := e
      split at e'
      · rename_i hc2
        unfold Rel.put at e'
        rw [Bool.or_eq_true] at e' hc2
        rcases e' with e' | e'
        · exact (h x y).2 e'
        · simp at e'
          rw [e'.1, e'.2]
          rcases hc2 with hc2 | hc2
          · have := (h a k).2 hc2; omega
          · have := (h k b).2 hc2; omega
      · exact (h x y).2 e'
    · have e' : (if s.2 a k || s.2 k b then s.2.put a b else s.2) x y = true := e
      split at e'
      · unfold Rel.put at e'
        rw [Bool.or_eq_true] at e'
        rcases e' with e' | e'
        · exact put_le _ _ _ _ _ (hs2 x y e')
        · simp at e'; rw [e'.1, e'.2]; exact put_same _ _ _
      · exact put_le _ _ _ _ _ (hs2 x y e')
  · exact ⟨h, hs2⟩

theorem fold_keeps {α : Type} {f : Rel × Rel → α → Rel × Rel} {Q : Rel × Rel → Prop} (hf : ∀ s x, Q s → Q (f s x)) : ∀ (l : List α) (s : Rel × Rel), Q s → Q (l.foldl f s)
  | [], _, h => h
  | x :: l, s, h => fold_keeps hf l _ (hf s x h)

theorem fits_all {σ : Bs → Nat} {s : Rel × Rel} (hs2 : ∀ x y, s.2 x y = true → s.1 x y = true) (h : Fits σ s) (hs ks : List Bs) : Fits σ (fwK hs ks s) := by
  have : (Fits σ (fwK hs ks s) ∧ ∀ x y, (fwK hs ks s).2 x y = true → (fwK hs ks s).1 x y = true) :=
    fold_keeps (Q := fun s => Fits σ s ∧ ∀ x y, s.2 x y = true → s.1 x y = true) (fun s k h => fold_keeps (Q := fun s => Fits σ s ∧ ∀ x y, s.2 x y = true → s.1 x y = true) (fun s a h => fold_keeps (Q := fun s => Fits σ s ∧ ∀ x y, s.2 x y = true → s.1 x y = true) (fun s b h => fits_step h.2 h.1 k a b) hs s h) hs s h) ks s ⟨h, hs2⟩
  exact this.1

/-- THERE ARE NUMBERS THAT HOLD JUST WHERE NOBODY HANGS ON ITSELF OVER A STEP. -/
theorem fw_sol {p : List RuleD} {hs : List Bs} (hh : ∀ x, x ∈ hs ↔ isHead p x) {s : Rel × Rel} (h1 : ∀ x y, s.1 x y = true ↔ ∃ e, Edge p x y e) (h2 : ∀ x y, s.2 x y = true ↔ Edge p x y 1) :
    (∃ σ, Sol p σ) ↔ ∀ a ∈ hs, (fwK hs hs s).2 a a = false := by
  constructor
  · rintro ⟨σ, hσ⟩ a _
    have hE : ∀ {x y : Bs} {e : Nat}, Edge p x y e → σ y + e ≤ σ x := fun ⟨r, hr, t, ht, e1, e2, e3, e4⟩ => by
      rw [← e1, ← e2, ← e4]; exact hσ r hr t ht (by rw [e2]; exact e3)
    have hf := fits_all (σ := σ) (fun x y e => (h1 x y).2 ⟨1, (h2 x y).1 e⟩) (fun x y => ⟨fun e => by obtain ⟨k, hk⟩ := (h1 x y).1 e; have := hE hk; omega, fun e => hE ((h2 x y).1 e)⟩) hs hs
    cases hc : (fwK hs hs s).2 a a with
    | false => rfl
    | true => have := (hf a a).2 hc; omega
  · intro hno
    refine sol_of_noRound fun a mid n hn ht => ?_
    have hbase : Told p hs [] s := by
      intro x y m k hx hy _ hsub htr
      have : m = [] := by
        cases m with
        | nil => rfl
        | cons z m => exact absurd (hsub z (by simp)) (by simp)
      subst this
      cases htr with
      | cons e t =>
        cases t
        refine ⟨(h1 x y).2 ⟨_, e⟩, fun hpos => (h2 x y).2 ?_⟩
        have h1 := e.le
        have : ‹Nat› = 1 := by omega
        rw [this] at e; exact e
    have hall := told_all hs [] s (fun k hk => hk) hbase
    rw [List.nil_append] at hall
    have hheads := ht.heads
    have ha : a ∈ hs := (hh a).2 (hheads a (by simp))
    refine Nat.eq_zero_of_not_pos fun hpos => ?_
    have := (hall a a mid n ha ha hn (fun x hx => (hh x).2 (hheads x (by simp [hx]))) ht).2 hpos
    rw [hno a ha] at this
    cases this

end Go.Proofs.Ythogickpeldhlaa
