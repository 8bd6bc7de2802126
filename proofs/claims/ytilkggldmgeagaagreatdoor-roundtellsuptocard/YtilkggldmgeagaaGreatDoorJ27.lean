/- Texts of this claim, one behind the other. -/
import Derived.Test.YtilkggldmgeagaaGreatDoorJ2
import Derived.Test.YtilkggldmgeagaaGreatDoorJ24
import Derived.DeepKeys4
/- Where no circle holds a step over what must not be so, there are numbers that hold. Plain. Nothing of the program. -/
namespace Go.Proofs.YtilkggldmgeagaaGreatDoor

def Edge (p : List RuleD) (a b : Bs) (s : Nat) : Prop := ∃ r ∈ p, ∃ x ∈ r.body, r.head.name = a ∧ x.name = b ∧ isHead p b ∧ step x = s

inductive Trail (p : List RuleD) : Bs → List Bs → Nat → Prop
  | nil (a : Bs) : Trail p a [] 0
  | cons {a b : Bs} {s n : Nat} {l : List Bs} : Edge p a b s → Trail p b l n → Trail p a (b :: l) (s + n)

theorem Edge.le {p : List RuleD} {a b : Bs} {s : Nat} (h : Edge p a b s) : s ≤ 1 := by
  obtain ⟨r, _, x, _, _, _, _, rfl⟩ := h
  unfold step; split <;> omega

theorem Trail.split {p : List RuleD} : ∀ (l1 : List Bs) {a b : Bs} {l2 : List Bs} {n : Nat}, Trail p a (l1 ++ b :: l2) n → ∃ n1 n2, n = n1 + n2 ∧ Trail p a (l1 ++ [b]) n1 ∧ Trail p b l2 n2
  | [], a, b, l2, n, h => by
    cases h with
    | cons e t => exact ⟨_, _, rfl, by have := Trail.cons e (Trail.nil b); simpa using this, t⟩
  | c :: l1, a, b, l2, n, h => by
    cases h with
    | cons e t =>
      obtain ⟨n1, n2, rfl, t1, t2⟩ := Trail.split l1 t
      exact ⟨_, n2, (Nat.add_assoc _ _ _).symm, Trail.cons e t1, t2⟩

theorem Trail.heads {p : List RuleD} {a : Bs} {l : List Bs} {n : Nat} (h : Trail p a l n) : ∀ x ∈ l, isHead p x := by
  induction h with
  | nil => intro x hx; cases hx
  | cons e _ ih =>
    intro x hx
    obtain ⟨_, _, _, _, _, _, hh, _⟩ := e
    rcases List.mem_cons.1 hx with rfl | hx
    · exact hh
    · exact ih x hx
theorem Trail.le {p : List RuleD} {a : Bs} {l : List Bs} {n : Nat} (h : Trail p a l n) : n ≤ l.length := by
  induction h with
  | nil => exact Nat.le_refl _
  | cons e _ ih => have := e.le; simp; omega

theorem nodup_heads : ∀ (p : List RuleD) (l : List Bs), l.Nodup → (∀ x ∈ l, ∃ r ∈ p, r.head.name = x) → l.length ≤ p.length
  | [], l, _, h => by
    cases l with
    | nil => simp
    | cons x l => obtain ⟨r, hr, _⟩ := h x (by simp); cases hr
  | r :: p, l, hn, h => by
    have h1 := nodup_heads p (l.erase r.head.name) (hn.erase _) (fun x hx => by
      rw [hn.mem_erase_iff] at hx
      obtain ⟨q, hq, e⟩ := h x hx.2
      rcases List.mem_cons.1 hq with rfl | hq
      · exact absurd e.symm hx.1
      · exact ⟨q, hq, e⟩)
    by_cases hm : r.head.name ∈ l
    · rw [List.length_erase_of_mem hm] at h1; simp; omega
    · rw [List.erase_of_not_mem hm] at h1; simp; omega

theorem max_of {P : Nat → Prop} (N : Nat) (h0 : P 0) (hb : ∀ n, P n → n ≤ N) : ∃ m, P m ∧ ∀ n, P n → n ≤ m := by
  have : ∀ k, (∃ n, P n ∧ N ≤ n + k) → ∃ m, P m ∧ ∀ n, P n → n ≤ m := by
    intro k
    induction k with
    | zero => rintro ⟨n, hn, hk⟩; exact ⟨n, hn, fun m hm => by have := hb m hm; omega⟩
    | succ k ih =>
      rintro ⟨n, hn, hk⟩
      by_cases hx : ∃ m, P m ∧ n < m
      · obtain ⟨m, hm, hlt⟩ := hx
        exact ih ⟨m, hm, by omega⟩
      · exact ⟨n, hn, fun m hm => Nat.le_of_not_lt fun hlt => hx ⟨m, hm, hlt⟩⟩
  exact this N ⟨0, h0, by omega⟩

def Far (p : List RuleD) (a : Bs) (n : Nat) : Prop := ∃ l, l.Nodup ∧ a ∉ l ∧ Trail p a l n
theorem far_max (p : List RuleD) (a : Bs) : ∃ m, Far p a m ∧ ∀ n, Far p a n → n ≤ m :=
  max_of p.length ⟨[], by simp, by simp, Trail.nil a⟩ fun n ⟨l, hn, _, ht⟩ => Nat.le_trans ht.le (nodup_heads p l hn fun x hx => ht.heads x hx)

def NoRound (p : List RuleD) : Prop := ∀ a mid n, mid.Nodup → Trail p a (mid ++ [a]) n → n = 0

theorem sol_of_noRound {p : List RuleD} (h : NoRound p) : ∃ σ, Sol p σ := by
  refine ⟨fun a => Classical.choose (far_max p a), fun r hr x hx hh => ?_⟩
  have hE : Edge p r.head.name x.name (step x) := ⟨r, hr, x, hx, rfl, rfl, hh, rfl⟩
  obtain ⟨⟨l, hn, hnot, ht⟩, _⟩ := Classical.choose_spec (far_max p x.name)
  have hmax := (Classical.choose_spec (far_max p r.head.name)).2
  show Classical.choose (far_max p x.name) + step x ≤ Classical.choose (far_max p r.head.name)
  generalize Classical.choose (far_max p x.name) = n at *
  generalize Classical.choose (far_max p r.head.name) = m at *
  generalize step x = s at *
  generalize r.head.name = a at *
  generalize x.name = b at *
  by_cases hab : a = b
  · subst hab
    have h1 := h a [] s (by simp) (by have := Trail.cons hE (Trail.nil a); simpa using this)
    have h2 := hmax n ⟨l, hn, hnot, ht⟩
    omega
  · by_cases hal : a ∈ l
    · obtain ⟨l1, l2, rfl⟩ := List.append_of_mem hal
      obtain ⟨n1, n2, rfl, t1, t2⟩ := Trail.split l1 ht
      have hn' := hn
      rw [List.nodup_append] at hn'
      obtain ⟨hd1, hd2, hd3⟩ := hn'
      have hd2' := List.nodup_cons.1 hd2
      have h1 := h a (b :: l1) (s + n1) (List.nodup_cons.2 ⟨fun hb => hnot (by simp [hb]), hd1⟩) (Trail.cons hE t1)
      have h2 := hmax n2 ⟨l2, hd2'.2, hd2'.1, t2⟩
      omega
    · have h2 := hmax (s + n) ⟨b :: l, List.nodup_cons.2 ⟨hnot, hn⟩, by simp [hab, hal], Trail.cons hE ht⟩
      omega

end Go.Proofs.YtilkggldmgeagaaGreatDoor

/- The reference's way to find circles, plain: who hangs on whom, and over what must not be so. Nothing of the program. -/
namespace Go.Proofs.YtilkggldmgeagaaGreatDoor

abbrev Rel := Bs → Bs → Bool
def Rel.put (f : Rel) (a b : Bs) : Rel := fun x y => f x y || (decide (x = a) && decide (y = b))
def fwStep (k a b : Bs) (s : Rel × Rel) : Rel × Rel := if s.1 a k && s.1 k b then (s.1.put a b, if s.2 a k || s.2 k b then s.2.put a b else s.2) else s
def fwB (hs : List Bs) (k a : Bs) (s : Rel × Rel) : Rel × Rel := hs.foldl (fun s b => fwStep k a b s) s
def fwA (hs : List Bs) (k : Bs) (s : Rel × Rel) : Rel × Rel := hs.foldl (fun s a => fwB hs k a s) s
def fwK (hs : List Bs) (ks : List Bs) (s : Rel × Rel) : Rel × Rel := ks.foldl (fun s k => fwA hs k s) s

def RLe (s t : Rel × Rel) : Prop := ∀ x y, (s.1 x y = true → t.1 x y = true) ∧ (s.2 x y = true → t.2 x y = true)
theorem RLe.refl (s : Rel × Rel) : RLe s s := fun _ _ => ⟨id, id⟩
theorem RLe.trans {s t u : Rel × Rel} (h : RLe s t) (k : RLe t u) : RLe s u := fun x y => ⟨fun e => (k x y).1 ((h x y).1 e), fun e => (k x y).2 ((h x y).2 e)⟩
theorem put_le (f : Rel) (a b x y : Bs) (h : f x y = true) : f.put a b x y = true := by unfold Rel.put; rw [h]; rfl
theorem put_same (f : Rel) (a b : Bs) : f.put a b a b = true := by unfold Rel.put; simp
theorem fwStep_le (k a b : Bs) (s : Rel × Rel) : RLe s (fwStep k a b s) := by
  intro x y
  unfold fwStep
  split
  · refine ⟨put_le _ _ _ _ _, fun h => ?_⟩
    show (if _ then _ else _ : Rel) x y = true
    split
    · exact put_le _ _ _ _ _ h
    · exact h
  · exact ⟨id, id⟩

theorem fold_le {α : Type} {f : Rel × Rel → α → Rel × Rel} (hf : ∀ s x, RLe s (f s x)) : ∀ (l : List α) (s : Rel × Rel), RLe s (l.foldl f s)
  | [], s => RLe.refl s
  | x :: l, s => (hf s x).trans (fold_le hf l (f s x))
theorem fold_hit {α : Type} {f : Rel × Rel → α → Rel × Rel} (hf : ∀ s x, RLe s (f s x)) {Q : Rel × Rel → Prop} (hQ : ∀ s t, RLe s t → Q s → Q t) {x : α} : ∀ (l : List α) (s : Rel × Rel), x ∈ l → (∀ t, RLe s t → Q (f t x)) → Q (l.foldl f s)
  | [], s, hx, _ => by cases hx
  | y :: l, s, hx, h => by
    rcases List.mem_cons.1 hx with rfl | hx
    · exact hQ _ _ (fold_le hf l _) (h s (RLe.refl s))
    · exact fold_hit hf hQ l (f s y) hx fun t ht => h t ((hf s y).trans ht)

theorem fwB_le (hs : List Bs) (k a : Bs) (s : Rel × Rel) : RLe s (fwB hs k a s) := fold_le (fun s b => fwStep_le k a b s) hs s
theorem fwA_le (hs : List Bs) (k : Bs) (s : Rel × Rel) : RLe s (fwA hs k s) := fold_le (fun s a => fwB_le hs k a s) hs s

theorem fwA_hit (hs : List Bs) {k a b : Bs} (s : Rel × Rel) (ha : a ∈ hs) (hb : b ∈ hs) (h1 : s.1 a k = true) (h2 : s.1 k b = true) : (fwA hs k s).1 a b = true ∧ ((s.2 a k = true ∨ s.2 k b = true) → (fwA hs k s).2 a b = true) := by
  have hQ : ∀ u t : Rel × Rel, RLe u t → (u.1 a b = true ∧ ((s.2 a k = true ∨ s.2 k b = true) → u.2 a b = true)) → (t.1 a b = true ∧ ((s.2 a k = true ∨ s.2 k b = true) → t.2 a b = true)) := fun u t h hu => ⟨(h a b).1 hu.1, fun e => (h a b).2 (hu.2 e)⟩
  refine fold_hit (fun s a => fwB_le hs k a s) hQ hs s ha fun t ht => ?_
  refine fold_hit (fun s b => fwStep_le k a b s) hQ hs t hb fun u hu => ?_
  have hsu := ht.trans hu
  have e1 := (hsu a k).1 h1
  have e2 := (hsu k b).1 h2
  unfold fwStep
  rw [e1, e2]
  refine ⟨put_same _ _ _, fun h => ?_⟩
  show (if _ then _ else _ : Rel) a b = true
  have : (u.2 a k || u.2 k b) = true := by
    rcases h with h | h
    · rw [(hsu a k).2 h]; rfl
    · rw [(hsu k b).2 h]; simp
  rw [if_pos this]
  exact put_same _ _ _

def Told (p : List RuleD) (hs K : List Bs) (s : Rel × Rel) : Prop := ∀ a b mid n, a ∈ hs → b ∈ hs → mid.Nodup → (∀ x ∈ mid, x ∈ K) → Trail p a (mid ++ [b]) n → s.1 a b = true ∧ (0 < n → s.2 a b = true)

theorem told_step {p : List RuleD} {hs K : List Bs} {s : Rel × Rel} {k : Bs} (hk : k ∈ hs) (h : Told p hs K s) : Told p hs (K ++ [k]) (fwA hs k s) := by
  intro a b mid n ha hb hn hsub ht
  by_cases hm : k ∈ mid
  · obtain ⟨m1, m2, rfl⟩ := List.append_of_mem hm
    rw [List.append_assoc, List.cons_append] at ht
    obtain ⟨n1, n2, rfl, t1, t2⟩ := Trail.split m1 ht
    have hn' := hn
    rw [List.nodup_append] at hn'
    obtain ⟨d1, d2, d3⟩ := hn'
    have d2' := List.nodup_cons.1 d2
    have s1 : ∀ x ∈ m1, x ∈ K := fun x hx => by
      have := hsub x (by simp [hx])
      rcases List.mem_append.1 this with h | h
      · exact h
      · simp at h; subst h; exact absurd rfl (d3 x hx x (by simp))
    have s2 : ∀ x ∈ m2, x ∈ K := fun x hx => by
      have := hsub x (by simp [hx])
      rcases List.mem_append.1 this with h | h
      · exact h
      · simp at h; subst h; exact absurd hx d2'.1
    obtain ⟨r1, o1⟩ := h a k m1 n1 ha hk d1 s1 t1
    obtain ⟨r2, o2⟩ := h k b m2 n2 hk hb d2'.2 s2 t2
    obtain ⟨q1, q2⟩ := fwA_hit hs s ha hb r1 r2
    refine ⟨q1, fun hpos => q2 ?_⟩
    by_cases h1 : 0 < n1
    · exact Or.inl (o1 h1)
    · exact Or.inr (o2 (by omega))
  · have s1 : ∀ x ∈ mid, x ∈ K := fun x hx => by
      rcases List.mem_append.1 (hsub x hx) with h | h
      · exact h
      · simp at h; subst h; exact absurd hx hm
    obtain ⟨r1, o1⟩ := h a b mid n ha hb hn s1 ht
    exact ⟨(fwA_le hs k s a b).1 r1, fun hpos => (fwA_le hs k s a b).2 (o1 hpos)⟩

theorem told_all {p : List RuleD} {hs : List Bs} : ∀ (ks K : List Bs) (s : Rel × Rel), (∀ k ∈ ks, k ∈ hs) → Told p hs K s → Told p hs (K ++ ks) (fwK hs ks s)
  | [], K, s, _, h => by rw [List.append_nil]; exact h
  | k :: ks, K, s, hk, h => by
    have h1 := told_step (hk k (by simp)) h
    have h2 := told_all ks (K ++ [k]) (fwA hs k s) (fun x hx => hk x (by simp [hx])) h1
    rw [List.append_assoc] at h2
    exact h2

def Fits (σ : Bs → Nat) (s : Rel × Rel) : Prop := ∀ x y, (s.1 x y = true → σ y ≤ σ x) ∧ (s.2 x y = true → σ y + 1 ≤ σ x)
theorem fits_step {σ : Bs → Nat} {s : Rel × Rel} (hs2 : ∀ x y, s.2 x y = true → s.1 x y = true) (h : Fits σ s) (k a b : Bs) : Fits σ (fwStep k a b s) ∧ ∀ x y, (fwStep k a b s).2 x y = true → (fwStep k a b s).1 x y = true := by
  unfold fwStep
  split
  · rename_i hc
    rw [Bool.and_eq_true] at hc
    have h1 := (h a k).1 hc.1
    have h2 := (h k b).1 hc.2
    refine ⟨fun x y => ⟨fun e => ?_, fun e => ?_⟩, fun x y e => ?_⟩
    · unfold Rel.put at e
      rw [Bool.or_eq_true] at e
      rcases e with e | e
      · exact (h x y).1 e
      · simp at e; rw [e.1, e.2]; omega
    · have e' : (if s.2 a k || s.2 k b then s.2.put a b else s.2) x y = true := e
      split at e'
      · rename_i hc2
        unfold Rel.put at e'
        rw [Bool.or_eq_true] at e' hc2
        rcases e' with e' | e'
        · exact (h x y).2 e'
        · simp at e'
          rw [e'.1, e'.2]
          rcases hc2 with hc2 | hc2
          · have := (h a k).2 hc2; omega
          · have := (h k b).2 hc2; omega
      · exact (h x y).2 e'
    · have e' : (if s.2 a k || s.2 k b then s.2.put a b else s.2) x y = true := e
      split at e'
      · unfold Rel.put at e'
        rw [Bool.or_eq_true] at e'
        rcases e' with e' | e'
        · exact put_le _ _ _ _ _ (hs2 x y e')
        · simp at e'; rw [e'.1, e'.2]; exact put_same _ _ _
      · exact put_le _ _ _ _ _ (hs2 x y e')
  · exact ⟨h, hs2⟩

theorem fold_keeps {α : Type} {f : Rel × Rel → α → Rel × Rel} {Q : Rel × Rel → Prop} (hf : ∀ s x, Q s → Q (f s x)) : ∀ (l : List α) (s : Rel × Rel), Q s → Q (l.foldl f s)
  | [], _, h => h
  | x :: l, s, h => fold_keeps hf l _ (hf s x h)

theorem fits_all {σ : Bs → Nat} {s : Rel × Rel} (hs2 : ∀ x y, s.2 x y = true → s.1 x y = true) (h : Fits σ s) (hs ks : List Bs) : Fits σ (fwK hs ks s) := by
  have : (Fits σ (fwK hs ks s) ∧ ∀ x y, (fwK hs ks s).2 x y = true → (fwK hs ks s).1 x y = true) :=
    fold_keeps (Q := fun s => Fits σ s ∧ ∀ x y, s.2 x y = true → s.1 x y = true) (fun s k h => fold_keeps (Q := fun s => Fits σ s ∧ ∀ x y, s.2 x y = true → s.1 x y = true) (fun s a h => fold_keeps (Q := fun s => Fits σ s ∧ ∀ x y, s.2 x y = true → s.1 x y = true) (fun s b h => fits_step h.2 h.1 k a b) hs s h) hs s h) ks s ⟨h, hs2⟩
  exact this.1

theorem fw_sol {p : List RuleD} {hs : List Bs} (hh : ∀ x, x ∈ hs ↔ isHead p x) {s : Rel × Rel} (h1 : ∀ x y, s.1 x y = true ↔ ∃ e, Edge p x y e) (h2 : ∀ x y, s.2 x y = true ↔ Edge p x y 1) :
    (∃ σ, Sol p σ) ↔ ∀ a ∈ hs, (fwK hs hs s).2 a a = false := by
  constructor
  · rintro ⟨σ, hσ⟩ a _
    have hE : ∀ {x y : Bs} {e : Nat}, Edge p x y e → σ y + e ≤ σ x := fun ⟨r, hr, t, ht, e1, e2, e3, e4⟩ => by
      rw [← e1, ← e2, ← e4]; exact hσ r hr t ht (by rw [e2]; exact e3)
    have hf := fits_all (σ := σ) (fun x y e => (h1 x y).2 ⟨1, (h2 x y).1 e⟩) (fun x y => ⟨fun e => by obtain ⟨k, hk⟩ := (h1 x y).1 e; have := hE hk; omega, fun e => hE ((h2 x y).1 e)⟩) hs hs
    cases hc : (fwK hs hs s).2 a a with
    | false => rfl
    | true => have := (hf a a).2 hc; omega
  · intro hno
    refine sol_of_noRound fun a mid n hn ht => ?_
    have hbase : Told p hs [] s := by
      intro x y m k hx hy _ hsub htr
      have : m = [] := by
        cases m with
        | nil => rfl
        | cons z m => exact absurd (hsub z (by simp)) (by simp)
      subst this
      cases htr with
      | cons e t =>
        cases t
        refine ⟨(h1 x y).2 ⟨_, e⟩, fun hpos => (h2 x y).2 ?_⟩
        have h1 := e.le
        have : ‹Nat› = 1 := by omega
        rw [this] at e; exact e
    have hall := told_all hs [] s (fun k hk => hk) hbase
    rw [List.nil_append] at hall
    have hheads := ht.heads
    have ha : a ∈ hs := (hh a).2 (hheads a (by simp))
    refine Nat.eq_zero_of_not_pos fun hpos => ?_
    have := (hall a a mid n ha ha hn (fun x hx => (hh x).2 (hheads x (by simp [hx]))) ht).2 hpos
    rw [hno a ha] at this
    cases this

end Go.Proofs.YtilkggldmgeagaaGreatDoor

/- Maps from pairs of texts to whether. -/
namespace Go.Proofs.YtilkggldmgeagaaGreatDoor
open Go.RowKit Go.Sort Go.Maps

set_option maxRecDepth 100000 in
theorem pair_law : Keyed Tryz.prog 71 := Keyed.of_law (deep_law_laid (m := 3) (by kernel_rfl) (by decide) (of_decide_eq_true (by kernel_rfl)) (by kernel_rfl) (by kernel_rfl))

theorem cellsPair : Tryz.prog.cellsOf 71 = 2 := by kernel_rfl
theorem cellsStr2 : Tryz.prog.cellsOf 9 = 1 := by kernel_rfl
theorem keyPair : Tryz.prog.keyType 71 = true := by kernel_rfl

def pv (a b : Bs) : Value := .agg #[.string (bs a), .string (bs b)]
def pl (a b : Bs) : Lit := .string (keyBytes [.string a, .string b])

set_option maxRecDepth 100000 in
theorem pair_key {a b : Bs} (ha : a.length ≤ maxLen) (hb : b.length ≤ maxLen) : keyOf Tryz.prog 71 (pv a b) = some (pl a b) := by
  have hf : (pv a b).formed Tryz.prog 71 = true := by
    unfold pv Value.formed
    rw [Tryz.underlying71, cellsPair]; rfl
  have hu : Tryz.prog.underlying 71 = some (.array 2 9) := Tryz.underlying71
  have hs : Tryz.prog.underlying 9 = some .string := Tryz.underlying9
  have hpos : 0 < Tryz.prog.types.size := of_decide_eq_true (by kernel_rfl)
  obtain ⟨N, hN⟩ : ∃ N, Tryz.prog.types.size = N + 1 := ⟨Tryz.prog.types.size - 1, by omega⟩
  have h1 : (bs a).size ≤ maxLen := by rw [size_bs]; exact ha
  have h2 : (bs b).size ≤ maxLen := by rw [size_bs]; exact hb
  have hl : Tryz.prog.keyLits (Tryz.prog.types.size + 1) 71 (pv a b).cells.toList = some [.string a, .string b] := by
    rw [hN]
    show Tryz.prog.keyLits (N + 1 + 1) 71 [.string (bs a), .string (bs b)] = _
    have r : List.range 2 = [0, 1] := rfl
    simp only [Program.keyLits, hu, hs, cellsPair, cellsStr2, List.length_cons, List.length_nil, if_true, r, List.mapM_cons, List.mapM_nil, Nat.mul_one, List.drop_zero, List.drop_succ_cons, List.take_succ_cons, List.take_zero]
    rw [if_pos h1, if_pos h2]
    simp [bs]
  unfold keyOf
  rw [hu, keyPair, hf]
  simp only [Bool.and_self, if_true, hl, Option.map_some]
  rfl

theorem pv_inj {a b c d : Bs} (h : pv a b = pv c d) : a = c ∧ b = d := by
  unfold pv at h
  simp only [Value.agg.injEq, Array.mk.injEq, List.cons.injEq, Value.string.injEq, and_true] at h
  exact ⟨bs_inj h.1, bs_inj h.2⟩

theorem pl_ne {a b c d : Bs} (ha : a.length ≤ maxLen) (hb : b.length ≤ maxLen) (hc : c.length ≤ maxLen) (hd : d.length ≤ maxLen) (h : ¬ (c = a ∧ d = b)) : pl c d ≠ pl a b := fun e => by
  have h1 := pair_key ha hb
  have h2 := pair_key hc hd
  rw [e] at h2
  exact h (pv_inj (pair_law.inj h2 h1))

def RelM (w : World) (b n : Nat) (f : Rel) : Prop := ∃ D : DataW Unit, w.ownsMap Tryz.prog 71 (plainElem Tryz.prog 4) b n D ∧ ∀ x y : Bs, x.length ≤ maxLen → y.length ≤ maxLen → D.atKey (pl x y) (.lit (.bool false)) = .lit (.bool (f x y))

theorem RelM.made (w : World) : RelM (w.alloc (.map #[] 0)) w.heap.size 0 (fun _ _ => false) := ⟨.map [], World.ownsMap_made _ _ _ _, fun _ _ _ _ => rfl⟩
theorem RelM.lt {w : World} {b n : Nat} {f : Rel} (h : RelM w b n f) : b < w.heap.size := by obtain ⟨D, h, _⟩ := h; exact h.lt
theorem RelM.block {w w' : World} {b n : Nat} {f : Rel} (h : RelM w b n f) (e : w'.heap[b]? = w.heap[b]?) : RelM w' b n f := by obtain ⟨D, h, hf⟩ := h; exact ⟨D, owns_block h e, hf⟩
theorem RelM.later {w w' : World} {b n : Nat} {f : Rel} (h : RelM w b n f) (k : Later w w') : RelM w' b n f := h.block (k.block h.lt)
theorem RelM.mono {w : World} {b n m : Nat} {f : Rel} (h : RelM w b n f) (hn : n ≤ m) : RelM w b m f := by obtain ⟨D, h, hf⟩ := h; exact ⟨D, h.mono hn, hf⟩

set_option maxRecDepth 100000 in
theorem RelM.look {w : World} {b n : Nat} {f : Rel} (h : RelM w b n f) {x y : Bs} (hx : x.length ≤ maxLen) (hy : y.length ≤ maxLen) : (Instr.lookup 70 (.map (some b)) (pv x y) false).run Tryz.prog w = .ok (.bool (f x y)) w := by
  obtain ⟨D, hown, hf⟩ := h
  obtain ⟨v, ps, hrun, hv⟩ := hown.lookup pair_law Tryz.underlying70 (zeroBool w) (plainElem_bool Tryz.underlying4 false) (pair_key hx hy)
  rw [hf x y hx hy] at hv
  obtain ⟨z, rfl, hz⟩ := plainElem_bool_inv hv
  simp only [Prod.mk.injEq] at hz
  have hz := hz.1
  injection hz with hz
  injection hz with hz
  rw [hrun, hz]

theorem keyPl (a b : Bs) : WideAt.IsKeyLit (pl a b) := trivial

set_option maxRecDepth 100000 in
theorem RelM.store {w : World} {b n : Nat} {f : Rel} (h : RelM w b n f) (hn : n < maxLen) {x y : Bs} (hx : x.length ≤ maxLen) (hy : y.length ≤ maxLen) :
    ∃ w', (Instr.mapUpdate 70 (.map (some b)) (pv x y) (.bool true)).run Tryz.prog w = .ok () w' ∧ RelM w' b (n + 1) (f.put x y) ∧ w.grownBy w' (some b) := by
  obtain ⟨D, hown, hf⟩ := h
  obtain ⟨w', hrun, r1, r2⟩ := hown.update pair_law Tryz.underlying70 hn (pair_key hx hy) (plainElem_bool Tryz.underlying4 true)
  refine ⟨w', hrun, ⟨_, r1, fun s t hs ht => ?_⟩, r2⟩
  by_cases e : s = x ∧ t = y
  · obtain ⟨rfl, rfl⟩ := e
    rw [atKey_put_same hown.isMap (keyPl _ _), put_same]
  · rw [atKey_put_other (pl_ne hx hy hs ht e), hf s t hs ht]
    unfold Rel.put
    have : (decide (s = x) && decide (t = y)) = false := by
      rw [Bool.and_eq_false_iff]
      by_cases h1 : s = x
      · exact Or.inr (by simpa using fun h2 => e ⟨h1, h2⟩)
      · exact Or.inl (by simpa using h1)
    rw [this, Bool.or_false]

structure But (S : Nat → Prop) (w w' : World) : Prop where
  os : w'.os = w.os
  tape : w'.tape = w.tape
  output : w'.output = w.output
  size : w.heap.size ≤ w'.heap.size
  block : ∀ k, k < w.heap.size → ¬ S k → w'.heap[k]? = w.heap[k]?

theorem But.refl (S : Nat → Prop) (w : World) : But S w w := ⟨rfl, rfl, rfl, Nat.le_refl _, fun _ _ _ => rfl⟩
theorem But.trans {S : Nat → Prop} {a b c : World} (h : But S a b) (k : But S b c) : But S a c :=
  ⟨k.os.trans h.os, k.tape.trans h.tape, k.output.trans h.output, Nat.le_trans h.size k.size, fun i hi ho => (k.block i (Nat.lt_of_lt_of_le hi h.size) ho).trans (h.block i hi ho)⟩
theorem But.of_below {S : Nat → Prop} {a b : World} (h : Below a.heap.size a b) : But S a b := ⟨h.os, h.tape, h.output, h.size, fun k hk _ => h.block k hk⟩
theorem But.of_grown {S : Nat → Prop} {p : Nat} {a b : World} (h : a.grownBy b (some p)) (hp : S p) : But S a b := ⟨h.os, h.tape, h.output, h.size, fun k hk hS => h.block k hk (fun e => by injection e with e; exact hS (e ▸ hp))⟩
theorem But.cell {S : Nat → Prop} {a b : World} (h : But S a b) {x : Addr} (hx : x.block < a.heap.size) (ho : ¬ S x.block) : b.cell? x = a.cell? x := World.cell?_of_block (w := a) (h.block _ hx ho)
theorem But.below {S : Nat → Prop} {n : Nat} {w a b : World} (h : But S a b) (hb : Below n w a) (hS : ∀ k, S k → n ≤ k) (hn : n ≤ a.heap.size) : Below n w b :=
  ⟨h.os.trans hb.os, h.tape.trans hb.tape, h.output.trans hb.output, Nat.le_trans hb.size h.size, fun k hk => (h.block k (by omega) (fun e => by have := hS k e; omega)).trans (hb.block k hk)⟩

end Go.Proofs.YtilkggldmgeagaaGreatDoor

/- The reference's levels, plain: they are the strata. Nothing of the program. -/
namespace Go.Proofs.YtilkggldmgeagaaGreatDoor

def levAtom (hd : Bs → Bool) (h : Bs) (lev : Bs → Nat) (a : AtomD) : Bs → Nat := fun s => if s = h then max (lev h) (if a.no && hd a.name then lev a.name + 1 else lev a.name) else lev s
def levRule (hd : Bs → Bool) (lev : Bs → Nat) (r : RuleD) : Bs → Nat := r.body.foldl (levAtom hd r.head.name) lev
def levAll (hd : Bs → Bool) (p : List RuleD) (lev : Bs → Nat) : Bs → Nat := p.foldl (levRule hd) lev
def levs (hd : Bs → Bool) (p : List RuleD) : Nat → (Bs → Nat) → Bs → Nat
  | 0, f => f
  | n + 1, f => levs hd p n (levAll hd p f)

theorem levAtom_eq {p : List RuleD} {hd : Bs → Bool} (hh : ∀ s, hd s = true ↔ isHead p s) {x : Nums × Bool} (hx : Doms p x.1) {h : Bs} (hH : isHead p h) (a : AtomD) : levAtom hd h (numOf x.1) a = numOf (liftAtom h x a).1 ∧ Doms p (liftAtom h x a).1 := by
  have hb : (if a.no && hd a.name then numOf x.1 a.name + 1 else numOf x.1 a.name) = behind x.1 a := by
    by_cases hc : isHead p a.name
    · rw [behind_eq hx a hc, (hh a.name).2 hc]
      unfold step
      cases a.no <;> simp
    · have h1 : hd a.name = false := by
        cases e : hd a.name with
        | false => rfl
        | true => exact absurd ((hh a.name).1 e) hc
      have h2 : x.1 a.name = none := by
        cases e : x.1 a.name with
        | none => rfl
        | some n => exact absurd ((hx a.name).1 (by rw [e]; rfl)) hc
      rw [behind_none hx a hc, h1]
      simp [numOf, h2]
  constructor
  · funext s
    unfold levAtom
    rw [hb]
    unfold liftAtom
    split
    · rename_i hs
      subst hs
      split
      · show _ = numOf (x.1.put _ _) _
        rw [numOf_put, if_pos rfl]; omega
      · omega
    · rename_i hs
      split
      · show _ = numOf (x.1.put _ _) _
        rw [numOf_put, if_neg hs]
      · rfl
  · unfold liftAtom
    split
    · exact hx.put hH _
    · exact hx

theorem levRule_eq {p : List RuleD} {hd : Bs → Bool} (hh : ∀ s, hd s = true ↔ isHead p s) {h : Bs} (hH : isHead p h) : ∀ (l : List AtomD) (x : Nums × Bool), Doms p x.1 → l.foldl (levAtom hd h) (numOf x.1) = numOf (l.foldl (liftAtom h) x).1 ∧ Doms p (l.foldl (liftAtom h) x).1
  | [], x, hx => ⟨rfl, hx⟩
  | a :: l, x, hx => by
    obtain ⟨e, hd'⟩ := levAtom_eq hh hx hH a
    rw [List.foldl_cons, List.foldl_cons, e]
    exact levRule_eq hh hH l _ hd'
theorem levAll_eq {p : List RuleD} {hd : Bs → Bool} (hh : ∀ s, hd s = true ↔ isHead p s) : ∀ (l : List RuleD) (x : Nums × Bool), (∀ r ∈ l, r ∈ p) → Doms p x.1 → l.foldl (levRule hd) (numOf x.1) = numOf (liftAll x l).1 ∧ Doms p (liftAll x l).1
  | [], x, _, hx => ⟨rfl, hx⟩
  | r :: l, x, hl, hx => by
    obtain ⟨e, hd'⟩ := levRule_eq hh ⟨r, hl r (by simp), rfl⟩ r.body x hx
    rw [List.foldl_cons]
    show l.foldl (levRule hd) (levRule hd (numOf x.1) r) = _ ∧ _
    have e' : levRule hd (numOf x.1) r = numOf (liftRule x r).1 := e
    rw [e']
    exact levAll_eq hh l (liftRule x r) (fun q hq => hl q (by simp [hq])) hd'

def lifts (p : List RuleD) : Nat → Nums → Nums
  | 0, m => m
  | n + 1, m => lifts p n (liftAll (m, false) p).1
theorem levs_eq {p : List RuleD} {hd : Bs → Bool} (hh : ∀ s, hd s = true ↔ isHead p s) : ∀ (n : Nat) (m : Nums), Doms p m → levs hd p n (numOf m) = numOf (lifts p n m)
  | 0, _, _ => rfl
  | n + 1, m, hm => by
    obtain ⟨e, hd'⟩ := levAll_eq hh p (m, false) (fun _ h => h) hm
    show levs hd p n (levAll hd p (numOf m)) = _
    have e' : levAll hd p (numOf m) = numOf (liftAll (m, false) p).1 := e
    rw [e']
    exact levs_eq hh n _ hd'

theorem lifts_still {p : List RuleD} {m : Nums} (h : liftAll (m, false) p = (m, false)) : ∀ n, lifts p n m = m
  | 0 => rfl
  | n + 1 => by show lifts p n (liftAll (m, false) p).1 = m; rw [h]; exact lifts_still h n
theorem lifts_go {p : List RuleD} : ∀ (n : Nat) (m m' : Nums) (k : Nat), strataGo p n m = some m' → n ≤ k → lifts p k m = m'
  | 0, m, m', k, h, _ => by cases h
  | n + 1, m, m', k, h, hk => by
    unfold strataGo at h
    split at h
    · obtain ⟨k, rfl⟩ : ∃ j, k = j + 1 := ⟨k - 1, by omega⟩
      exact lifts_go n _ m' k h (by omega)
    · rename_i hf
      obtain ⟨e, _⟩ := liftAll_rest p m (by simpa using hf)
      rw [e] at h
      cases h
      exact lifts_still e k

theorem levs_strata {p : List RuleD} {hd : Bs → Bool} (hh : ∀ s, hd s = true ↔ isHead p s) (hw : (wrongP p).1 = 0) {σ : Bs → Nat} (h : Sol p σ) (f : Bs → Nat) (hf : ∀ s, f s = 0) : strataP p = (p.map fun r => levs hd p (p.length + 1) f r.head.name, 0, 0) := by
  obtain ⟨τ, hτ, hmin⟩ := least_sol h
  obtain ⟨m, hm⟩ := strataGo_ends hτ hmin (p.length + 1) (start p) (start_dom p) (start_least p) (by omega)
  have e0 : f = numOf (start p) := by funext s; rw [hf, start_zero]
  rw [e0, levs_eq hh _ _ (start_dom p), lifts_go _ _ _ _ hm (Nat.le_refl _)]
  unfold strataP
  rw [if_pos hw, hm]
  rfl

theorem no_strata {p : List RuleD} (hw : (wrongP p).1 = 0) (h : ¬ ∃ σ, Sol p σ) : strataP p = ([], 10, 0) := by
  unfold strataP
  rw [if_pos hw]
  cases hc : strataGo p (p.length + 1) (start p) with
  | none => rfl
  | some m =>
    obtain ⟨d, _, hs⟩ := strataGo_some _ _ _ (start_dom p) (start_least p) hc
    exact absurd ⟨_, sol_of d hs⟩ h

end Go.Proofs.YtilkggldmgeagaaGreatDoor
