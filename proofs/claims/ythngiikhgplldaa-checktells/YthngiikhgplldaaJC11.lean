/- Texts of this claim, one behind the other. -/
import Derived.Test.YthngiikhgplldaaJC10
import Derived.Test.YthngiikhgplldaaJC7
import Derived.DeepKeys4
import Derived.Test.YthngiikhgplldaaJC9
/- The reference's way to find circles, plain: who hangs on whom, and over what must not be so. Nothing of the program. -/
namespace Go.Proofs.Ythngiikhgplldaa

abbrev Rel := Bs → Bs → Bool
def Rel.put (f : Rel) (a b : Bs) : Rel := fun x y => f x y || (decide (x = a) && decide (y = b))
def fwStep (k a b : Bs) (s : Rel × Rel) : Rel × Rel := if s.1 a k && s.1 k b then (s.1.put a b, if s.2 a k || s.2 k b then s.2.put a b else s.2) else s
def fwB (hs : List Bs) (k a : Bs) (s : Rel × Rel) : Rel × Rel := hs.foldl (fun s b => fwStep k a b s) s
def fwA (hs : List Bs) (k : Bs) (s : Rel × Rel) : Rel × Rel := hs.foldl (fun s a => fwB hs k a s) s
def fwK (hs : List Bs) (ks : List Bs) (s : Rel × Rel) : Rel × Rel := ks.foldl (fun s k => fwA hs k s) s

/-- All that was so is so. -/
def RLe (s t : Rel × Rel) : Prop := ∀ x y, (s.1 x y = true → t.1 x y = true) ∧ (s.2 x y = true → t.2 x y = true)
theorem RLe.refl (s : Rel × Rel) : RLe s s := fun _ _ => ⟨id, id⟩
theorem RLe.trans {s t u : Rel × Rel} (h : RLe s t) (k : RLe t u) : RLe s u := fun x y => ⟨fun e => (k x y).1 ((h x y).1 e), fun e => (k x y).2 ((h x y).2 e)⟩
theorem put_le (f : Rel) (a b x y : Bs) (h : f x y = true) : f.put a b x y = true := by unfold Rel.put; rw [h]; rfl
theorem put_same (f : Rel) (a b : Bs) : f.put a b a b = true := by unfold Rel.put; simp
theorem fwStep_le (k a b : Bs) (s : Rel × Rel) : RLe s (fwStep k a b s) := by
  intro x y
  unfold fwStep
  split
  · refine ⟨put_le _ _ _ _ _, fun h => ?_⟩
    show (if _ then _ else _ : Rel) x y = true
    split
    · exact put_le _ _ _ _ _ h
    · exact h
  · exact ⟨id, id⟩

theorem fold_le {α : Type} {f : Rel × Rel → α → Rel × Rel} (hf : ∀ s x, RLe s (f s x)) : ∀ (l : List α) (s : Rel × Rel), RLe s (l.foldl f s)
  | [], s => RLe.refl s
  | x :: l, s => (hf s x).trans (fold_le hf l (f s x))
theorem fold_hit {α : Type} {f : Rel × Rel → α → Rel × Rel} (hf : ∀ s x, RLe s (f s x)) {Q : Rel × Rel → Prop} (hQ : ∀ s t, RLe s t → Q s → Q t) {x : α} : ∀ (l : List α) (s : Rel × Rel), x ∈ l → (∀ t, RLe s t → Q (f t x)) → Q (l.foldl f s)
  | [], s, hx, _ => by cases hx
  | y :: l, s, hx, h => by
    rcases List.mem_cons.1 hx with rfl | hx
    · exact hQ _ _ (fold_le hf l _) (h s (RLe.refl s))
    · exact fold_hit hf hQ l (f s y) hx fun t ht => h t ((hf s y).trans ht)

theorem fwB_le (hs : List Bs) (k a : Bs) (s : Rel × Rel) : RLe s (fwB hs k a s) := fold_le (fun s b => fwStep_le k a b s) hs s
theorem fwA_le (hs : List Bs) (k : Bs) (s : Rel × Rel) : RLe s (fwA hs k s) := fold_le (fun s a => fwB_le hs k a s) hs s

theorem fwA_hit (hs : List Bs) {k a b : Bs} (s : Rel × Rel) (ha : a ∈ hs) (hb : b ∈ hs) (h1 : s.1 a k = true) (h2 : s.1 k b = true) : (fwA hs k s).1 a b = true ∧ ((s.2 a k = true ∨ s.2 k b = true) → (fwA hs k s).2 a b = true) := by
  have hQ : ∀ u t : Rel × Rel, RLe u t → (u.1 a b = true ∧ ((s.2 a k = true ∨ s.2 k b = true) → u.2 a b = true)) → (t.1 a b = true ∧ ((s.2 a k = true ∨ s.2 k b = true) → t.2 a b = true)) := fun u t h hu => ⟨(h a b).1 hu.1, fun e => (h a b).2 (hu.2 e)⟩
  refine fold_hit (fun s a => fwB_le hs k a s) hQ hs s ha fun t ht => ?_
  refine fold_hit (fun s b => fwStep_le k a b s) hQ hs t hb fun u hu => ?_
  have hsu := ht.trans hu
  have e1 := (hsu a k).1 h1
  have e2 := (hsu k b).1 h2
  unfold fwStep
  rw [e1, e2]
  refine ⟨put_same _ _ _, fun h => ?_⟩
  show (if _ then _ else _ : Rel) a b = true
  have : (u.2 a k || u.2 k b) = true := by
    rcases h with h | h
    · rw [(hsu a k).2 h]; rfl
    · rw [(hsu k b).2 h]; simp
  rw [if_pos this]
  exact put_same _ _ _

/-- What trails through these tell. -/
def Told (p : List RuleD) (hs K : List Bs) (s : Rel × Rel) : Prop := ∀ a b mid n, a ∈ hs → b ∈ hs → mid.Nodup → (∀ x ∈ mid, x ∈ K) → Trail p a (mid ++ [b]) n → s.1 a b = true ∧ (0 < n → s.2 a b = true)

theorem told_step {p : List RuleD} {hs K : List Bs} {s : Rel × Rel} {k : Bs} (hk : k ∈ hs) (h : Told p hs K s) : Told p hs (K ++ [k]) (fwA hs k s) := by
  intro a b mid n ha hb hn hsub ht
  by_cases hm : k ∈ mid
  · obtain ⟨m1, m2, rfl⟩ := List.append_of_mem hm
    rw [List.append_assoc, List.cons_append] at ht
    obtain ⟨n1, n2, rfl, t1, t2⟩ := Trail.split m1 ht
    have hn' := hn
    rw [List.nodup_append] at hn'
    obtain ⟨d1, d2, d3⟩ := hn'
    have d2' := List.nodup_cons.1 d2
    have s1 : ∀ x ∈ m1, x ∈ K := fun x hx => by
      have := hsub x (by simp [hx])
      rcases List.mem_append.1 this with h | h
      · exact h
      · simp at h; subst h; exact absurd rfl (d3 x hx x (by simp))
    have s2 : ∀ x ∈ m2, x ∈ K := fun x hx => by
      have := hsub x (by simp [hx])
      rcases List.mem_append.1 this with h | h
      · exact h
      · simp at h; subst h; exact absurd hx d2'.1
    obtain ⟨r1, o1⟩ := h a k m1 n1 ha hk d1 s1 t1
    obtain ⟨r2, o2⟩ := h k b m2 n2 hk hb d2'.2 s2 t2
    obtain ⟨q1, q2⟩ := fwA_hit hs s ha hb r1 r2
    refine ⟨q1, fun hpos => q2 ?_⟩
    by_cases h1 : 0 < n1
    · exact Or.inl (o1 h1)
    · exact Or.inr (o2 (by omega))
  · have s1 : ∀ x ∈ mid, x ∈ K := fun x hx => by
      rcases List.mem_append.1 (hsub x hx) with h | h
      · exact h
      · simp at h; subst h; exact absurd hx hm
    obtain ⟨r1, o1⟩ := h a b mid n ha hb hn s1 ht
    exact ⟨(fwA_le hs k s a b).1 r1, fun hpos => (fwA_le hs k s a b).2 (o1 hpos)⟩

theorem told_all {p : List RuleD} {hs : List Bs} : ∀ (ks K : List Bs) (s : Rel × Rel), (∀ k ∈ ks, k ∈ hs) → Told p hs K s → Told p hs (K ++ ks) (fwK hs ks s)
  | [], K, s, _, h => by rw [List.append_nil]; exact h
  | k :: ks, K, s, hk, h => by
    have h1 := told_step (hk k (by simp)) h
    have h2 := told_all ks (K ++ [k]) (fwA hs k s) (fun x hx => hk x (by simp [hx])) h1
    rw [List.append_assoc] at h2
    exact h2

/-- Numbers that hold are no greater down a way, and lesser over a step. -/
def FitsG (σ : Bs → Nat) (s : Rel × Rel) : Prop := ∀ x y, (s.1 x y = true → σ y ≤ σ x) ∧ (s.2 x y = true → σ y + 1 ≤ σ x)
theorem fits_step {σ : Bs → Nat} {s : Rel × Rel} (hs2 : ∀ x y, s.2 x y = true → s.1 x y = true) (h : FitsG σ s) (k a b : Bs) : FitsG σ (fwStep k a b s) ∧ ∀ x y, (fwStep k a b s).2 x y = true → (fwStep k a b s).1 x y = true := by
  unfold fwStep
  split
  · rename_i hc
    rw [Bool.and_eq_true] at hc
    have h1 := (h a k).1 hc.1
    have h2 := (h k b).1 hc.2
    refine ⟨fun x y => ⟨fun e => ?_, fun e => ?_⟩, fun x y e => ?_⟩
    · unfold Rel.put at e
      rw [Bool.or_eq_true] at e
      rcases e with e | e
      · exact (h x y).1 e
      · simp at e; rw [e.1, e.2]; omega
    · have e' : (if s.2 a k || s.2 k b then s.2.put a b else s.2) x y = true := e
      split at e'
      · rename_i hc2
        unfold Rel.put at e'
        rw [Bool.or_eq_true] at e' hc2
        rcases e' with e' | e'
        · exact (h x y).2 e'
        · simp at e'
          rw [e'.1, e'.2]
          rcases hc2 with hc2 | hc2
          · have := (h a k).2 hc2; omega
          · have := (h k b).2 hc2; omega
      · exact (h x y).2 e'
    · have e' : (if s.2 a k || s.2 k b then s.2.put a b else s.2) x y = true := e
      split at e'
      · unfold Rel.put at e'
        rw [Bool.or_eq_true] at e'
        rcases e' with e' | e'
        · exact put_le _ _ _ _ _ (hs2 x y e')
        · simp at e'; rw [e'.1, e'.2]; exact put_same _ _ _
      · exact put_le _ _ _ _ _ (hs2 x y e')
  · exact ⟨h, hs2⟩

theorem fold_keeps {α : Type} {f : Rel × Rel → α → Rel × Rel} {Q : Rel × Rel → Prop} (hf : ∀ s x, Q s → Q (f s x)) : ∀ (l : List α) (s : Rel × Rel), Q s → Q (l.foldl f s)
  | [], _, h => h
  | x :: l, s, h => fold_keeps hf l _ (hf s x h)

theorem fits_all {σ : Bs → Nat} {s : Rel × Rel} (hs2 : ∀ x y, s.2 x y = true → s.1 x y = true) (h : FitsG σ s) (hs ks : List Bs) : FitsG σ (fwK hs ks s) := by
  have : (FitsG σ (fwK hs ks s) ∧ ∀ x y, (fwK hs ks s).2 x y = true → (fwK hs ks s).1 x y = true) :=
    fold_keeps (Q := fun s => FitsG σ s ∧ ∀ x y, s.2 x y = true → s.1 x y = true) (fun s k h => fold_keeps (Q := fun s => FitsG σ s ∧ ∀ x y, s.2 x y = true → s.1 x y = true) (fun s a h => fold_keeps (Q := fun s => FitsG σ s ∧ ∀ x y, s.2 x y = true → s.1 x y = true) (fun s b h => fits_step h.2 h.1 k a b) hs s h) hs s h) ks s ⟨h, hs2⟩
  exact this.1

/-- THERE ARE NUMBERS THAT HOLD JUST WHERE NOBODY HANGS ON ITSELF OVER A STEP. -/
theorem fw_sol {p : List RuleD} {hs : List Bs} (hh : ∀ x, x ∈ hs ↔ isHead p x) {s : Rel × Rel} (h1 : ∀ x y, s.1 x y = true ↔ ∃ e, Edge p x y e) (h2 : ∀ x y, s.2 x y = true ↔ Edge p x y 1) :
    (∃ σ, Sol p σ) ↔ ∀ a ∈ hs, (fwK hs hs s).2 a a = false := by
  constructor
  · rintro ⟨σ, hσ⟩ a _
    have hE : ∀ {x y : Bs} {e : Nat}, Edge p x y e → σ y + e ≤ σ x := fun ⟨r, hr, t, ht, e1, e2, e3, e4⟩ => by
      rw [← e1, ← e2, ← e4]; exact hσ r hr t ht (by rw [e2]; exact e3)
    have hf := fits_all (σ := σ) (fun x y e => (h1 x y).2 ⟨1, (h2 x y).1 e⟩) (fun x y => ⟨fun e => by obtain ⟨k, hk⟩ := (h1 x y).1 e; have := hE hk; omega, fun e => hE ((h2 x y).1 e)⟩) hs hs
    cases hc : (fwK hs hs s).2 a a with
    | false => rfl
    | true => have := (hf a a).2 hc; omega
  · intro hno
    refine sol_of_noRound fun a mid n hn ht => ?_
    have hbase : Told p hs [] s := by
      intro x y m k hx hy _ hsub htr
      have : m = [] := by
        cases m with
        | nil => rfl
        | cons z m => exact absurd (hsub z (by simp)) (by simp)
      subst this
      cases htr with
      | cons e t =>
        cases t
        refine ⟨(h1 x y).2 ⟨_, e⟩, fun hpos => (h2 x y).2 ?_⟩
        have h1 := e.le
        have : ‹Nat› = 1 := by omega
        rw [this] at e; exact e
    have hall := told_all hs [] s (fun k hk => hk) hbase
    rw [List.nil_append] at hall
    have hheads := ht.heads
    have ha : a ∈ hs := (hh a).2 (hheads a (by simp))
    refine Nat.eq_zero_of_not_pos fun hpos => ?_
    have := (hall a a mid n ha ha hn (fun x hx => (hh x).2 (hheads x (by simp [hx]))) ht).2 hpos
    rw [hno a ha] at this
    cases this

end Go.Proofs.Ythngiikhgplldaa

/- Maps from pairs of texts to whether. -/
namespace Go.Proofs.Ythngiikhgplldaa
open Go.RowKit Go.Sort Go.Maps

set_option maxRecDepth 100000 in
theorem pair_law : Keyed Try.prog 60 := Keyed.of_law (deep_law_laid (m := 3) (by kernel_rfl) (by decide) (of_decide_eq_true (by kernel_rfl)) (by kernel_rfl) (by kernel_rfl))

theorem cellsPair : Try.prog.cellsOf 60 = 2 := by kernel_rfl
theorem cellsStr2 : Try.prog.cellsOf 9 = 1 := by kernel_rfl
theorem keyPair : Try.prog.keyType 60 = true := by kernel_rfl

/-- A pair, as a key. -/
def pv (a b : Bs) : Value := .agg #[.string (bs a), .string (bs b)]
def pl (a b : Bs) : Lit := .string (keyBytes [.string a, .string b])

set_option maxRecDepth 100000 in
theorem pair_key {a b : Bs} (ha : a.length ≤ maxLen) (hb : b.length ≤ maxLen) : keyOf Try.prog 60 (pv a b) = some (pl a b) := by
  have hf : (pv a b).formed Try.prog 60 = true := by
    unfold pv Value.formed
    rw [Try.underlying60, cellsPair]; rfl
  have hu : Try.prog.underlying 60 = some (.array 2 9) := Try.underlying60
  have hs : Try.prog.underlying 9 = some .string := Try.underlying9
  have hpos : 0 < Try.prog.types.size := of_decide_eq_true (by kernel_rfl)
  obtain ⟨N, hN⟩ : ∃ N, Try.prog.types.size = N + 1 := ⟨Try.prog.types.size - 1, by omega⟩
  have h1 : (bs a).size ≤ maxLen := by rw [size_bs]; exact ha
  have h2 : (bs b).size ≤ maxLen := by rw [size_bs]; exact hb
  have hl : Try.prog.keyLits (Try.prog.types.size + 1) 60 (pv a b).cells.toList = some [.string a, .string b] := by
    rw [hN]
    show Try.prog.keyLits (N + 1 + 1) 60 [.string (bs a), .string (bs b)] = _
    have r : List.range 2 = [0, 1] := rfl
    simp only [Program.keyLits, hu, hs, cellsPair, cellsStr2, List.length_cons, List.length_nil, if_true, r, List.mapM_cons, List.mapM_nil, Nat.mul_one, List.drop_zero, List.drop_succ_cons, List.take_succ_cons, List.take_zero]
    rw [if_pos h1, if_pos h2]
    simp [bs]
  unfold keyOf
  rw [hu, keyPair, hf]
  simp only [Bool.and_self, if_true, hl, Option.map_some]
  rfl

theorem pv_inj {a b c d : Bs} (h : pv a b = pv c d) : a = c ∧ b = d := by
  unfold pv at h
  simp only [Value.agg.injEq, Array.mk.injEq, List.cons.injEq, Value.string.injEq, and_true] at h
  exact ⟨bs_inj h.1, bs_inj h.2⟩

theorem pl_ne {a b c d : Bs} (ha : a.length ≤ maxLen) (hb : b.length ≤ maxLen) (hc : c.length ≤ maxLen) (hd : d.length ≤ maxLen) (h : ¬ (c = a ∧ d = b)) : pl c d ≠ pl a b := fun e => by
  have h1 := pair_key ha hb
  have h2 := pair_key hc hd
  rw [e] at h2
  exact h (pv_inj (pair_law.inj h2 h1))

/-- Block b holds true at just those pairs (of texts no longer than Go's) of which f says so. -/
def RelM (w : World) (b n : Nat) (f : Rel) : Prop := ∃ D : DataW Unit, w.ownsMap Try.prog 60 (plainElem Try.prog 4) b n D ∧ ∀ x y : Bs, x.length ≤ maxLen → y.length ≤ maxLen → D.atKey (pl x y) (.lit (.bool false)) = .lit (.bool (f x y))

theorem RelM.made (w : World) : RelM (w.alloc (.map #[] 0)) w.heap.size 0 (fun _ _ => false) := ⟨.map [], World.ownsMap_made _ _ _ _, fun _ _ _ _ => rfl⟩
theorem RelM.lt {w : World} {b n : Nat} {f : Rel} (h : RelM w b n f) : b < w.heap.size := by obtain ⟨D, h, _⟩ := h; exact h.lt
theorem RelM.block {w w' : World} {b n : Nat} {f : Rel} (h : RelM w b n f) (e : w'.heap[b]? = w.heap[b]?) : RelM w' b n f := by obtain ⟨D, h, hf⟩ := h; exact ⟨D, owns_block h e, hf⟩
theorem RelM.later {w w' : World} {b n : Nat} {f : Rel} (h : RelM w b n f) (k : Later w w') : RelM w' b n f := h.block (k.block h.lt)
theorem RelM.mono {w : World} {b n m : Nat} {f : Rel} (h : RelM w b n f) (hn : n ≤ m) : RelM w b m f := by obtain ⟨D, h, hf⟩ := h; exact ⟨D, h.mono hn, hf⟩

set_option maxRecDepth 100000 in
theorem RelM.look {w : World} {b n : Nat} {f : Rel} (h : RelM w b n f) {x y : Bs} (hx : x.length ≤ maxLen) (hy : y.length ≤ maxLen) : (Instr.lookup 59 (.map (some b)) (pv x y) false).run Try.prog w = .ok (.bool (f x y)) w := by
  obtain ⟨D, hown, hf⟩ := h
  obtain ⟨v, ps, hrun, hv⟩ := hown.lookup pair_law Try.underlying59 (zeroBool w) (plainElem_bool Try.underlying4 false) (pair_key hx hy)
  rw [hf x y hx hy] at hv
  obtain ⟨z, rfl, hz⟩ := plainElem_bool_inv hv
  simp only [Prod.mk.injEq] at hz
  have hz := hz.1
  injection hz with hz
  injection hz with hz
  rw [hrun, hz]

theorem keyPl (a b : Bs) : WideAt.IsKeyLit (pl a b) := trivial

set_option maxRecDepth 100000 in
theorem RelM.store {w : World} {b n : Nat} {f : Rel} (h : RelM w b n f) (hn : n < maxLen) {x y : Bs} (hx : x.length ≤ maxLen) (hy : y.length ≤ maxLen) :
    ∃ w', (Instr.mapUpdate 59 (.map (some b)) (pv x y) (.bool true)).run Try.prog w = .ok () w' ∧ RelM w' b (n + 1) (f.put x y) ∧ w.grownBy w' (some b) := by
  obtain ⟨D, hown, hf⟩ := h
  obtain ⟨w', hrun, r1, r2⟩ := hown.update pair_law Try.underlying59 hn (pair_key hx hy) (plainElem_bool Try.underlying4 true)
  refine ⟨w', hrun, ⟨_, r1, fun s t hs ht => ?_⟩, r2⟩
  by_cases e : s = x ∧ t = y
  · obtain ⟨rfl, rfl⟩ := e
    rw [atKey_put_same hown.isMap (keyPl _ _), put_same]
  · rw [atKey_put_other (pl_ne hx hy hs ht e), hf s t hs ht]
    unfold Rel.put
    have : (decide (s = x) && decide (t = y)) = false := by
      rw [Bool.and_eq_false_iff]
      by_cases h1 : s = x
      · exact Or.inr (by simpa using fun h2 => e ⟨h1, h2⟩)
      · exact Or.inl (by simpa using h1)
    rw [this, Bool.or_false]

/-- Of what was there only these blocks may have turned. -/
structure ButP (S : Nat → Prop) (w w' : World) : Prop where
  os : w'.os = w.os
  tape : w'.tape = w.tape
  output : w'.output = w.output
  size : w.heap.size ≤ w'.heap.size
  block : ∀ k, k < w.heap.size → ¬ S k → w'.heap[k]? = w.heap[k]?

theorem ButP.refl (S : Nat → Prop) (w : World) : ButP S w w := ⟨rfl, rfl, rfl, Nat.le_refl _, fun _ _ _ => rfl⟩
theorem ButP.trans {S : Nat → Prop} {a b c : World} (h : ButP S a b) (k : ButP S b c) : ButP S a c :=
  ⟨k.os.trans h.os, k.tape.trans h.tape, k.output.trans h.output, Nat.le_trans h.size k.size, fun i hi ho => (k.block i (Nat.lt_of_lt_of_le hi h.size) ho).trans (h.block i hi ho)⟩
theorem ButP.of_below {S : Nat → Prop} {a b : World} (h : Below a.heap.size a b) : ButP S a b := ⟨h.os, h.tape, h.output, h.size, fun k hk _ => h.block k hk⟩
theorem ButP.of_grown {S : Nat → Prop} {p : Nat} {a b : World} (h : a.grownBy b (some p)) (hp : S p) : ButP S a b := ⟨h.os, h.tape, h.output, h.size, fun k hk hS => h.block k hk (fun e => by injection e with e; exact hS (e ▸ hp))⟩
theorem ButP.cell {S : Nat → Prop} {a b : World} (h : ButP S a b) {x : Addr} (hx : x.block < a.heap.size) (ho : ¬ S x.block) : b.cell? x = a.cell? x := World.cell?_of_block (w := a) (h.block _ hx ho)
theorem ButP.below {S : Nat → Prop} {n : Nat} {w a b : World} (h : ButP S a b) (hb : Below n w a) (hS : ∀ k, S k → n ≤ k) (hn : n ≤ a.heap.size) : Below n w b :=
  ⟨h.os.trans hb.os, h.tape.trans hb.tape, h.output.trans hb.output, Nat.le_trans hb.size h.size, fun k hk => (h.block k (by omega) (fun e => by have := hS k e; omega)).trans (hb.block k hk)⟩

end Go.Proofs.Ythngiikhgplldaa

/- The reference's levels, plain: they are the strata. Nothing of the program. -/
namespace Go.Proofs.Ythngiikhgplldaa

def levAtom (hd : Bs → Bool) (h : Bs) (lev : Bs → Nat) (a : AtomD) : Bs → Nat := fun s => if s = h then max (lev h) (if a.no && hd a.name then lev a.name + 1 else lev a.name) else lev s
def levRule (hd : Bs → Bool) (lev : Bs → Nat) (r : RuleD) : Bs → Nat := r.body.foldl (levAtom hd r.head.name) lev
def levAll (hd : Bs → Bool) (p : List RuleD) (lev : Bs → Nat) : Bs → Nat := p.foldl (levRule hd) lev
def levs (hd : Bs → Bool) (p : List RuleD) : Nat → (Bs → Nat) → Bs → Nat
  | 0, f => f
  | n + 1, f => levs hd p n (levAll hd p f)

theorem levAtom_eq {p : List RuleD} {hd : Bs → Bool} (hh : ∀ s, hd s = true ↔ isHead p s) {x : Nums × Bool} (hx : Doms p x.1) {h : Bs} (hH : isHead p h) (a : AtomD) : levAtom hd h (numOf x.1) a = numOf (liftAtom h x a).1 ∧ Doms p (liftAtom h x a).1 := by
  have hb : (if a.no && hd a.name then numOf x.1 a.name + 1 else numOf x.1 a.name) = behind x.1 a := by
    by_cases hc : isHead p a.name
    · rw [behind_eq hx a hc, (hh a.name).2 hc]
      unfold step
      cases a.no <;> simp
    · have h1 : hd a.name = false := by
        cases e : hd a.name with
        | false => rfl
        | true => exact absurd ((hh a.name).1 e) hc
      have h2 : x.1 a.name = none := by
        cases e : x.1 a.name with
        | none => rfl
        | some n => exact absurd ((hx a.name).1 (by rw [e]; rfl)) hc
      rw [behind_none hx a hc, h1]
      simp [numOf, h2]
  constructor
  · funext s
    unfold levAtom
    rw [hb]
    unfold liftAtom
    split
    · rename_i hs
      subst hs
      split
      · show _ = numOf (x.1.put _ _) _
        rw [numOf_put, if_pos rfl]; omega
      · omega
    · rename_i hs
      split
      · show _ = numOf (x.1.put _ _) _
        rw [numOf_put, if_neg hs]
      · rfl
  · unfold liftAtom
    split
    · exact hx.put hH _
    · exact hx

theorem levRule_eq {p : List RuleD} {hd : Bs → Bool} (hh : ∀ s, hd s = true ↔ isHead p s) {h : Bs} (hH : isHead p h) : ∀ (l : List AtomD) (x : Nums × Bool), Doms p x.1 → l.foldl (levAtom hd h) (numOf x.1) = numOf (l.foldl (liftAtom h) x).1 ∧ Doms p (l.foldl (liftAtom h) x).1
  | [], x, hx => ⟨rfl, hx⟩
  | a :: l, x, hx => by
    obtain ⟨e, hd'⟩ := levAtom_eq hh hx hH a
    rw [List.foldl_cons, List.foldl_cons, e]
    exact levRule_eq hh hH l _ hd'
theorem levAll_eq {p : List RuleD} {hd : Bs → Bool} (hh : ∀ s, hd s = true ↔ isHead p s) : ∀ (l : List RuleD) (x : Nums × Bool), (∀ r ∈ l, r ∈ p) → Doms p x.1 → l.foldl (levRule hd) (numOf x.1) = numOf (liftAll x l).1 ∧ Doms p (liftAll x l).1
  | [], x, _, hx => ⟨rfl, hx⟩
  | r :: l, x, hl, hx => by
    obtain ⟨e, hd'⟩ := levRule_eq hh ⟨r, hl r (by simp), rfl⟩ r.body x hx
    rw [List.foldl_cons]
    show l.foldl (levRule hd) (levRule hd (numOf x.1) r) = _ ∧ _
    have e' : levRule hd (numOf x.1) r = numOf (liftRule x r).1 := e
    rw [e']
    exact levAll_eq hh l (liftRule x r) (fun q hq => hl q (by simp [hq])) hd'

/-- Rounds of lifting, without a stop. -/
def lifts (p : List RuleD) : Nat → Nums → Nums
  | 0, m => m
  | n + 1, m => lifts p n (liftAll (m, false) p).1
theorem levs_eq {p : List RuleD} {hd : Bs → Bool} (hh : ∀ s, hd s = true ↔ isHead p s) : ∀ (n : Nat) (m : Nums), Doms p m → levs hd p n (numOf m) = numOf (lifts p n m)
  | 0, _, _ => rfl
  | n + 1, m, hm => by
    obtain ⟨e, hd'⟩ := levAll_eq hh p (m, false) (fun _ h => h) hm
    show levs hd p n (levAll hd p (numOf m)) = _
    have e' : levAll hd p (numOf m) = numOf (liftAll (m, false) p).1 := e
    rw [e']
    exact levs_eq hh n _ hd'

theorem lifts_still {p : List RuleD} {m : Nums} (h : liftAll (m, false) p = (m, false)) : ∀ n, lifts p n m = m
  | 0 => rfl
  | n + 1 => by show lifts p n (liftAll (m, false) p).1 = m; rw [h]; exact lifts_still h n
theorem lifts_go {p : List RuleD} : ∀ (n : Nat) (m m' : Nums) (k : Nat), strataGo p n m = some m' → n ≤ k → lifts p k m = m'
  | 0, m, m', k, h, _ => by cases h
  | n + 1, m, m', k, h, hk => by
    unfold strataGo at h
    split at h
    · obtain ⟨k, rfl⟩ : ∃ j, k = j + 1 := ⟨k - 1, by omega⟩
      exact lifts_go n _ m' k h (by omega)
    · rename_i hf
      obtain ⟨e, _⟩ := liftAll_rest p m (by simpa using hf)
      rw [e] at h
      cases h
      exact lifts_still e k

/-- THE LEVELS ARE THE STRATA. -/
theorem levs_strata {p : List RuleD} {hd : Bs → Bool} (hh : ∀ s, hd s = true ↔ isHead p s) (hw : (wrongP p).1 = 0) {σ : Bs → Nat} (h : Sol p σ) (f : Bs → Nat) (hf : ∀ s, f s = 0) : strataP p = (p.map fun r => levs hd p (p.length + 1) f r.head.name, 0, 0) := by
  obtain ⟨τ, hτ, hmin⟩ := least_sol h
  obtain ⟨m, hm⟩ := strataGo_ends hτ hmin (p.length + 1) (start p) (start_dom p) (start_least p) (by omega)
  have e0 : f = numOf (start p) := by funext s; rw [hf, start_zero]
  rw [e0, levs_eq hh _ _ (start_dom p), lifts_go _ _ _ _ hm (Nat.le_refl _)]
  unfold strataP
  rw [if_pos hw, hm]
  rfl

/-- WHERE SOMEBODY HANGS ON ITSELF OVER A STEP THERE ARE NONE. -/
theorem no_strata {p : List RuleD} (hw : (wrongP p).1 = 0) (h : ¬ ∃ σ, Sol p σ) : strataP p = ([], 10, 0) := by
  unfold strataP
  rw [if_pos hw]
  cases hc : strataGo p (p.length + 1) (start p) with
  | none => rfl
  | some m =>
    obtain ⟨d, _, hs⟩ := strataGo_some _ _ _ (start_dom p) (start_least p) hc
    exact absurd ⟨_, sol_of d hs⟩ h

end Go.Proofs.Ythngiikhgplldaa

/- The walks of check's behind, lifted and each. -/
namespace Go.Proofs.Ythngiikhgplldaa
open Go.RowKit Go.Sort Go.Maps

set_option maxRecDepth 100000 in
set_option maxHeartbeats 1000000 in
theorem behindC (b n c : Nat) (m : Nums) (a : AtomD) (v : Value) (w : World) (h : NumsM w b n m) (hv : termK.sl Anyw w v a.terms) (hs : a.name.length ≤ maxLen) (hc : numOf m a.name ≤ c) (hcc : c ≤ 1000000) :
    Calls Try.prog 30 #[.map (some b), .agg #[.bool a.no, .string (bs a.name), v]] w fun e w' => e = .returned (.int .i64 (behind m a : Nat)) ∧ Later w w' := by
  obtain ⟨sa, cap, rfl⟩ := Kind.slice hv
  clear hv
  have h1 := h.later ((Later.refl w).alloc (.cells #[.bool a.no, .string (bs a.name), .slice sa a.terms.length cap] 30))
  have hr := NumM.lookOk (T := 57) h1 Try.underlying9 Try.underlying3 Try.underlying57 (zeroInt _) hs
  clear h h1
  cases hm : m a.name with
  | none =>
    have e0 : numOf m a.name = 0 := by unfold numOf; rw [hm]; rfl
    have F : Hid (behind m a = 0) := by show _ = _; unfold behind; rw [hm]
    rw [hm, e0] at hr
    clear hm e0 hc
    generalize bs a.name = nm at *
    generalize a.no = no at *
    go_enter Try.func30, Try.ntmps30
    go_wp2
    go_ret
    exact ⟨by rw [F.out]; rfl, (Later.refl _).alloc _⟩
  | some k =>
    have e0 : numOf m a.name = k := by unfold numOf; rw [hm]; rfl
    have F : Hid (behind m a = if a.no then k + 1 else k) := by show _ = _; unfold behind; rw [hm]
    rw [hm, e0] at hr
    rw [e0] at hc
    clear hm e0
    generalize bs a.name = nm at *
    generalize a.no = no at *
    cases no
    · go_enter Try.func30, Try.ntmps30
      go_wp2
      go_ret
      exact ⟨by rw [F.out]; rfl, (Later.refl _).alloc _⟩
    · have F2 : Hid (((behind m a : Nat) : Int) = (k : Int) + 1) := by show _ = _; rw [F.out]; simp
      go_enter Try.func30, Try.ntmps30
      go_wp2
      go_ret
      exact ⟨by rw [F2.out]; rfl, (Later.refl _).alloc _⟩

theorem behind_le {m : Nums} {c : Nat} (h : ∀ s, numOf m s ≤ c) (a : AtomD) : behind m a ≤ c + 1 := by
  have := h a.name
  unfold numOf at this
  unfold behind
  cases hm : m a.name with
  | none => simp
  | some k => rw [hm] at this; simp at this; simp only; split <;> omega
theorem liftAtom_le {h : Bs} {x : Nums × Bool} {c : Nat} (hc : ∀ s, numOf x.1 s ≤ c) (a : AtomD) : ∀ s, numOf (liftAtom h x a).1 s ≤ c + 1 := by
  intro s
  unfold liftAtom
  split
  · show numOf (x.1.put _ _) s ≤ _
    rw [numOf_put]
    split
    · exact behind_le hc a
    · have := hc s; omega
  · have := hc s; omega

theorem foldAtom_step {l : List AtomD} {q : Nat} {a : AtomD} (h : l[q]? = some a) (s : Bs) (y : Nums × Bool) : (l.drop q).foldl (liftAtom s) y = (l.drop (q + 1)).foldl (liftAtom s) (liftAtom s y a) := by
  obtain ⟨h1, e1⟩ := List.getElem?_eq_some_iff.1 h
  rw [List.drop_eq_getElem_cons h1, e1]; rfl
theorem liftAll_step {p : List RuleD} {j : Nat} {r : RuleD} (h : p[j]? = some r) (x : Nums × Bool) : liftAll x (p.drop j) = liftAll (liftRule x r) (p.drop (j + 1)) := by
  obtain ⟨h1, e1⟩ := List.getElem?_eq_some_iff.1 h
  rw [List.drop_eq_getElem_cons h1, e1]; rfl

/-- Names that may be keys, and not too many atoms. -/
def fineR (r : RuleD) : Prop := r.head.name.length ≤ maxLen ∧ r.body.length ≤ 5 ∧ ∀ a ∈ r.body, a.name.length ≤ maxLen

set_option maxRecDepth 100000 in
set_option maxHeartbeats 4000000 in
theorem liftedC (b n c : Nat) (m : Nums) (p : List RuleD) (v : Value) (w : World) (h : NumsM w b n m) (hv : ruleK.sl (fun k => k ≠ b) w v p) (hf : ∀ r ∈ p, fineR r) (hp : p.length ≤ 16) (hc : ∀ s, numOf m s ≤ c) (hn : n ≤ 100000) (hcc : c ≤ 100000) :
    Calls Try.prog 21 #[.map (some b), v] w fun e w' => e = .returned (.bool (liftAll (m, false) p).2) ∧ NumsM w' b (n + 80) (liftAll (m, false) p).1 ∧ Tn b w w' ∧ ∀ s, numOf (liftAll (m, false) p).1 s ≤ c + 80 := by
  have hbw := h.lt
  obtain ⟨sa, cap, rfl⟩ := Kind.slice hv
  have HV := hide hv
  have HF := hide hf
  have H0 := hide h
  have HC0 := hide hc
  clear hv hf h hc
  go_enter Try.func21, Try.ntmps21
  go_wp2
  go_loopg [5, 13] p.length (fun k s5 i wr => ∃ j : Nat, j + k = p.length ∧ i = .int .i64 j ∧ ∃ x : Nums × Bool, s5 = .bool x.2 ∧ Hid (liftAll (m, false) p = liftAll x (p.drop j)) ∧ Hid (NumsM wr b (n + 5 * j) x.1) ∧ Hid (Tn b w wr) ∧ Hid (∀ s, numOf x.1 s ≤ c + 5 * j))
  case atStart => exact ⟨0, by omega, rfl, (m, false), rfl, (rfl : _ = _), H0, Tn.refl _ _, HC0⟩
  case round =>
    obtain ⟨j, hj, rfl, x, rfl, HE, HM, HT, HC⟩ := hrel
    have hwr := HT.out.size
    by_cases hlt : j < p.length
    · obtain ⟨r, hr⟩ : ∃ x, p[j]? = some x := ⟨_, List.getElem?_eq_getElem hlt⟩
      obtain ⟨b1, o1, _, rfl, hb1, hbne, ⟨sv, su, rfl, hsv, hsu⟩, hcl⟩ := Kind.sl_atB HV.out hr
      have d0 : wr.cell? ⟨b1, o1 + j * 4, none⟩ = some (.bool r.head.no) := by rw [HT.out.cell hb1 hbne]; exact hcl 0 _ rfl
      have d1 : wr.cell? ⟨b1, o1 + j * 4 + 1, none⟩ = some (.string (bs r.head.name)) := by rw [HT.out.cell hb1 hbne]; exact hcl 1 _ rfl
      have d2 : wr.cell? ⟨b1, o1 + j * 4 + 2, none⟩ = some sv := by rw [HT.out.cell hb1 hbne]; exact hcl 2 _ rfl
      have d3 : wr.cell? ⟨b1, o1 + j * 4 + 3, none⟩ = some su := by rw [HT.out.cell hb1 hbne]; exact hcl 3 _ rfl
      obtain ⟨f1, f2, f3⟩ := HF.out r (List.mem_of_getElem? hr)
      have HS := hide (liftAll_step hr x)
      obtain ⟨a2, c2, rfl⟩ := Kind.slice hsv
      obtain ⟨a3, c3, rfl⟩ := Kind.slice hsu
      have HSU := hide hsu
      have HF3 := hide f3
      have hbl : r.body.length ≤ 5 := f2
      have hjp : j < 16 := by omega
      have hbr : b1 < wr.heap.size := by omega
      clear hcl hr hsv hsu f3 f2
      have hbwr : b < wr.heap.size := by omega
      have HM1 := hide (HM.out.later ((Later.refl wr).alloc (.cells #[.bool r.head.no, .string (bs r.head.name), .slice a2 r.head.terms.length c2, .slice a3 r.body.length c3] 33)))
      have HT1 := hide (HT.out.alloc (.cells #[.bool r.head.no, .string (bs r.head.name), .slice a2 r.head.terms.length c2, .slice a3 r.body.length c3] 33))
      have HZ1 : Hid ((wr.alloc (.cells #[.bool r.head.no, .string (bs r.head.name), .slice a2 r.head.terms.length c2, .slice a3 r.body.length c3] 33)).cell? ⟨wr.heap.size, 1, none⟩ = some (.string (bs r.head.name))) := by show _ = _; simp
      have hR1 : wr.heap.size < (wr.alloc (.cells #[.bool r.head.no, .string (bs r.head.name), .slice a2 r.head.terms.length c2, .slice a3 r.body.length c3] 33)).heap.size := by simp
      generalize hnm : bs r.head.name = nm at *
      have HNM := hide hnm
      clear hnm
      generalize r.head.no = no at *
      generalize hR : wr.heap.size = R at *
      clear HM HT
      go_wp2
      go_loopg [5, 20] r.body.length (fun k s5 i wr2 => ∃ q : Nat, q + k = r.body.length ∧ i = .int .i64 q ∧ ∃ y : Nums × Bool, s5 = .bool y.2 ∧ Hid (liftRule x r = (r.body.drop q).foldl (liftAtom r.head.name) y) ∧ Hid (NumsM wr2 b (n + 5 * j + q) y.1) ∧ Hid (Tn b w wr2) ∧ R < wr2.heap.size ∧ wr2.cell? ⟨R, 1, none⟩ = some (.string nm) ∧ Hid (∀ s, numOf y.1 s ≤ c + 5 * j + q))
      case atStart =>
        refine ⟨0, by omega, rfl, x, rfl, (rfl : _ = _), ?_, ?_, ?_, ?_, HC⟩
        · first | exact HM1 | (subst hR; exact HM1)
        · first | exact HT1 | (subst hR; exact HT1)
        · first | exact hR1 | (subst hR; exact hR1)
        · first | exact HZ1.out | (subst hR; exact HZ1.out)
      case round =>
        obtain ⟨q, hq, rfl, y, rfl, HE2, HMy, HTy, hRs, z1, HCy⟩ := hrel
        clear HM1 HT1 HZ1 hR1 d0 d1 d2 d3
        have hwr2 := HTy.out.size
        by_cases hlq : q < r.body.length
        · obtain ⟨a, ha⟩ : ∃ x, r.body[q]? = some x := ⟨_, List.getElem?_eq_getElem hlq⟩
          obtain ⟨b2, o2, _, rfl, hb2, hbne2, ⟨tv, rfl, htv⟩, hcl⟩ := Kind.sl_atB HSU.out ha
          have d0 : wr.cell? ⟨b2, o2 + q * 3, none⟩ = some (.bool a.no) := by rw [HTy.out.cell hb2 hbne2]; exact hcl 0 _ rfl
          have d1 : wr.cell? ⟨b2, o2 + q * 3 + 1, none⟩ = some (.string (bs a.name)) := by rw [HTy.out.cell hb2 hbne2]; exact hcl 1 _ rfl
          have d2 : wr.cell? ⟨b2, o2 + q * 3 + 2, none⟩ = some tv := by rw [HTy.out.cell hb2 hbne2]; exact hcl 2 _ rfl
          have hbr2 : b2 < wr.heap.size := by omega
          have hst := foldAtom_step ha r.head.name y
          have hle := liftAtom_le (h := r.head.name) HCy.out a
          have HLE := hide hle
          clear hle
          have HBh : Hid (Calls Try.prog 30 #[.map (some b), .agg #[.bool a.no, .string (bs a.name), tv]] (wr.alloc (.cells #[.bool a.no, .string (bs a.name), tv] 30)) fun e w2 => e = .returned (.int .i64 (behind y.1 a : Nat)) ∧
              (Instr.lookup 57 (.map (some b)) (.string nm) false).run Try.prog w2 = .ok (.int .i64 (numOf y.1 r.head.name : Nat)) w2 ∧ Hid (NumsM w2 b (n + 5 * j + q) y.1) ∧ Hid (Tn b w w2) ∧ R < w2.heap.size ∧ w2.cell? ⟨R, 1, none⟩ = some (.string nm)) := by
            have hbz : b ≠ R := by omega
            refine (behindC b (n + 5 * j + q) (c + 5 * j + q) y.1 a tv _ (HMy.out.later ((Later.refl _).alloc _)) (Kind.sl_below (Kind.sl_any (Kind.sl_tnb htv HTy.out)) ((Later.refl _).alloc _).below) (HF3.out a (List.mem_of_getElem? ha)) (HCy.out a.name) (by omega)).mono fun e w2 ⟨he, hL⟩ => ?_
            have hLL := ((Later.refl wr).alloc (.cells #[.bool a.no, .string (bs a.name), tv] 30)).trans hL
            have hM2 := HMy.out.later hLL
            refine ⟨he, ?_, hM2, HTy.out.trans (Tn.of_below hLL.below), Nat.lt_of_lt_of_le hRs hLL.size, by rw [hLL.cell (p := ⟨R, 1, none⟩) hRs]; exact z1⟩
            rw [← HNM.out]
            exact NumM.look (T := 57) hM2 Try.underlying9 Try.underlying3 Try.underlying57 (zeroInt _) f1
          obtain ⟨a4, c4, rfl⟩ := Kind.slice htv
          by_cases hlf : numOf y.1 r.head.name < behind y.1 a
          · have E3 : Hid (liftAtom r.head.name y a = (y.1.put r.head.name (behind y.1 a), true)) := by show _ = _; unfold liftAtom; rw [if_pos hlf]
            have HST : Hid (∀ w2, Hid (NumsM w2 b (n + 5 * j + q) y.1) → Hid (Tn b w w2) → R < w2.heap.size → w2.cell? ⟨R, 1, none⟩ = some (.string nm) → ∃ w3, (Instr.mapUpdate 57 (.map (some b)) (.string nm) (.int .i64 (behind y.1 a : Nat))).run Try.prog w2 = .ok () w3 ∧ Hid (NumsM w3 b (n + 5 * j + (q + 1)) (y.1.put r.head.name (behind y.1 a))) ∧ Hid (Tn b w w3) ∧ R < w3.heap.size ∧ w3.cell? ⟨R, 1, none⟩ = some (.string nm)) := fun w2 hM2 hT2 hs2 hz2 => by
              have hbh := behind_le HCy.out a
              obtain ⟨w3, hrun, hM3, hg⟩ := NumM.store (T := 57) hM2.out Try.underlying9 Try.underlying3 Try.underlying57 (by simp [maxLen]; omega) f1 (x := behind y.1 a) (wf_len (by omega))
              rw [HNM.out] at hrun
              exact ⟨w3, hrun, hM3, hT2.out.trans (Tn.of_grown hg), Nat.lt_of_lt_of_le hs2 hg.size, by rw [(Tn.of_grown hg).cell (x := ⟨R, 1, none⟩) hs2 (by show R ≠ b; omega)]; exact hz2⟩
            have E4 : Hid (liftRule x r = (r.body.drop (q + 1)).foldl (liftAtom r.head.name) (y.1.put r.head.name (behind y.1 a), true)) := by show _ = _; rw [HE2.out, hst, E3.out]
            have HLE2 : Hid (∀ s, numOf (y.1.put r.head.name (behind y.1 a)) s ≤ c + 5 * j + (q + 1)) := by intro s; have := HLE.out s; rw [E3.out] at this; exact this
            have hlz : ((numOf y.1 r.head.name : Nat) : Int) < ((behind y.1 a : Nat) : Int) := by omega
            clear hcl ha htv hst HE2 HMy HTy HCy HLE E3 hlf
            generalize y.1.put r.head.name (behind y.1 a) = m3 at *
            generalize behind y.1 a = be at *
            generalize numOf y.1 r.head.name = nu at *
            generalize bs a.name = na at *
            generalize a.no = an at *
            go_wp2_with (first
              | (go_at_call 30; refine HBh.out.mono ?_; rintro e w2 ⟨rfl, hlk, hM2, hT2, hs2, hz2⟩; obtain ⟨w3, hup, hM3, hT3, hs3, hz3⟩ := HST.out w2 hM2 hT2 hs2 hz2; replace hlk := hide hlk; replace hup := hide hup; replace hz3 := hide hz3)
              | (at_lookup; refine wpList_run_lookup _ rfl _ _ _ _ rfl _ _ _ rfl rfl (unhide hlk) ?_)
              | (at_mapUpdate; refine wpList_run_update _ rfl _ _ _ _ rfl _ _ _ _ rfl rfl rfl (unhide hup) ?_)
              | go_in)
            go_roundg (r.body.length - (q + 1))
            case measure => omega
            case rel => exact ⟨q + 1, by omega, by go_num, (m3, true), rfl, E4, hM3, hT3, hs3, unhide hz3, HLE2⟩
          · have E3 : Hid (liftAtom r.head.name y a = y) := by show _ = _; unfold liftAtom; rw [if_neg hlf]
            have E4 : Hid (liftRule x r = (r.body.drop (q + 1)).foldl (liftAtom r.head.name) y) := by show _ = _; rw [HE2.out, hst, E3.out]
            have HLE2 : Hid (∀ s, numOf y.1 s ≤ c + 5 * j + (q + 1)) := by intro s; have := HCy.out s; omega
            have hlz : ¬ ((numOf y.1 r.head.name : Nat) : Int) < ((behind y.1 a : Nat) : Int) := by omega
            clear hcl ha htv hst HE2 HMy HTy HCy HLE E3 hlf
            generalize behind y.1 a = be at *
            generalize numOf y.1 r.head.name = nu at *
            generalize bs a.name = na at *
            generalize a.no = an at *
            go_wp2_with (first
              | (go_at_call 30; refine HBh.out.mono ?_; rintro e w2 ⟨rfl, hlk, hM2, hT2, hs2, hz2⟩; replace hlk := hide hlk)
              | (at_lookup; refine wpList_run_lookup _ rfl _ _ _ _ rfl _ _ _ rfl rfl (unhide hlk) ?_)
              | go_in)
            go_roundg (r.body.length - (q + 1))
            case measure => omega
            case rel => exact ⟨q + 1, by omega, by go_num, y, rfl, E4, hM2.out.mono (by omega), hT2, hs2, hz2, HLE2⟩
        · have E3 : Hid (liftRule x r = y) := by show _ = _; rw [HE2.out, List.drop_eq_nil_of_le (by omega)]; rfl
          have E4 : Hid (liftAll (m, false) p = liftAll y (p.drop (j + 1))) := by show _ = _; rw [HE.out, HS.out, E3.out]
          go_wp2
          go_roundg (p.length - (j + 1))
          case measure => omega
          case rel => exact ⟨j + 1, by omega, by go_num, y, rfl, E4, HMy.out.mono (by omega), HTy, fun s => by have := HCy.out s; omega⟩
    · have E2 : Hid (liftAll (m, false) p = x) := by show _ = _; rw [HE.out, List.drop_eq_nil_of_le (by omega)]; rfl
      go_wp2
      go_ret
      exact ⟨by rw [E2.out]; rfl, by rw [E2.out]; exact HM.out.mono (by omega), HT.out, by rw [E2.out]; intro s; have := HC.out s; omega⟩

end Go.Proofs.Ythngiikhgplldaa
