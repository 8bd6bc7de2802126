import Derived.Test.YtbohggoeebhdmaaGreatDoorJ22
import Derived.Shelf.SlSortCmp.QuietGrown
import Derived.Test.YtbohggoeebhdmaaGreatDoorJ23
import Derived.Deep.RegionWith
import Derived.Laws.EntriesVeiled
import Derived.Test.YtbohggoeebhdmaaGreatDoorJ24
import Derived.Lib.SliceRun
import Derived.Laws.StructEq
import Derived.RegionTactic
import Derived.ChangeAlike
/- What all that follows is good for, plain: no rule makes anything more; each fact was told, or is made of what is there; told more there is no less; rules in whatever order. Nothing of the program. -/
namespace Go.Proofs.YtbohggoeebhdmaaGreatDoor

theorem heads_mem {r : RuleD} {fs x : List FactB} (hc : Covers r.body) (h : headsP r fs = some x) (f : FactB) : f ∈ x ↔ ∃ env, FitsB (fun _ => fs) r.body env ∧ fillB r.head env = some f := by
  unfold headsP at h
  cases e : allB (fun _ => fs) r.body with
  | none => rw [e] at h; cases h
  | some R =>
    rw [e] at h
    cases h
    rw [mem_setF, List.mem_filterMap]
    exact ⟨fun ⟨l, hl, hf⟩ => ⟨l, (all_mem hc e l).1 hl, hf⟩, fun ⟨l, hl, hf⟩ => ⟨l, (all_mem hc e l).2 hl, hf⟩⟩

theorem fill_name {a : AtomD} {l : List BindD} {f : FactB} (h : fillB a l = some f) : f.1 = bs a.name ∧ fillArgs l a.terms = some f.2 := by
  unfold fillB at h
  cases e : fillArgs l a.terms with
  | none => rw [e] at h; cases h
  | some r => rw [e] at h; cases h; exact ⟨rfl, rfl⟩

theorem fits_sub {fs gs : List FactB} {body : List AtomD} {env : List BindD} (hpos : ∀ a ∈ body, a.no = false → ∀ f : FactB, f.1 = bs a.name → f ∈ fs → f ∈ gs)
    (hneg : ∀ a ∈ body, a.no = true → ∀ f : FactB, f.1 = bs a.name → f ∈ gs → f ∈ fs) (h : FitsB (fun _ => fs) body env) : FitsB (fun _ => gs) body env := by
  obtain ⟨h1, h2, h3, h4⟩ := h
  refine ⟨h1, h2, h3, SoB_const.2 fun a ha => ?_⟩
  obtain ⟨f, hf, hi⟩ := SoB_const.1 h4 a ha
  refine ⟨f, hf, ?_⟩
  have hn := (fill_name hf).1
  cases hno : a.no with
  | false =>
    rw [hno] at hi
    exact inB_iff.2 (hpos a ha hno f hn (inB_iff.1 hi))
  | true =>
    rw [hno] at hi
    cases e : inB gs f with
    | false => rfl
    | true => rw [inB_iff.2 (hneg a ha hno f hn (inB_iff.1 e))] at hi; cases hi

/-- A fact with which nothing is wrong. -/
def RightF (f : FactB) : Prop := isNamed (raw f.1) = true ∧ f.2.length ≤ 4 ∧ ∀ s ∈ f.2, isNamed (raw s) = true

theorem fillArgs_to {l : List BindD} : ∀ {ts : List TermD} {r : List ByteArray}, fillArgs l ts = some r → ∀ t ∈ ts, ∃ u ∈ r, worthB l t = some u
  | [], _, _ => fun _ h => by cases h
  | t :: ts, r, h => fun u hu => by
    simp only [fillArgs] at h
    cases e : worthB l t with
    | none => rw [e] at h; cases h
    | some s =>
      rw [e] at h
      dsimp only at h
      cases e2 : fillArgs l ts with
      | none => rw [e2] at h; cases h
      | some q =>
        rw [e2] at h
        cases h
        rcases List.mem_cons.1 hu with rfl | hu
        · exact ⟨s, by simp, e⟩
        · obtain ⟨v, hv, hw⟩ := fillArgs_to e2 u hu
          exact ⟨v, by simp [hv], hw⟩

theorem fillArgs_from {l : List BindD} : ∀ {ts : List TermD} {r : List ByteArray}, fillArgs l ts = some r → ∀ u ∈ r, ∃ t ∈ ts, worthB l t = some u
  | [], _, h => fun _ hu => by cases h; cases hu
  | t :: ts, r, h => fun u hu => by
    simp only [fillArgs] at h
    cases e : worthB l t with
    | none => rw [e] at h; cases h
    | some s =>
      rw [e] at h
      dsimp only at h
      cases e2 : fillArgs l ts with
      | none => rw [e2] at h; cases h
      | some q =>
        rw [e2] at h
        cases h
        rcases List.mem_cons.1 hu with rfl | hu
        · exact ⟨t, by simp, e⟩
        · obtain ⟨v, hv, hw⟩ := fillArgs_from e2 u hu
          exact ⟨v, by simp [hv], hw⟩

theorem env_right {fs : List FactB} {body : List AtomD} {env : List BindD} (hr : ∀ f ∈ fs, RightF f) (h : FitsB (fun _ => fs) body env) {v s : ByteArray} (hg : getB env v = some s) : isNamed (raw s) = true := by
  obtain ⟨_, _, h3, h4⟩ := h
  have hk0 : v ∈ keysB env := List.mem_map.2 ⟨_, getB_mem hg, rfl⟩
  obtain ⟨k, hk, rfl⟩ := List.mem_map.1 ((h3 v).1 hk0)
  rcases (mem_posVars body).1 hk with hk | ⟨a, ha, hno, t, ht, ht1, rfl⟩
  · cases hk
  obtain ⟨f, hf, hi⟩ := SoB_const.1 h4 a ha
  rw [hno] at hi
  obtain ⟨u, hu, hw⟩ := fillArgs_to (fill_name hf).2 t ht
  unfold worthB at hw
  rw [if_pos ht1, hg] at hw
  cases hw
  exact (hr f (inB_iff.1 hi)).2.2 _ hu

theorem atom_zero {a : AtomD} (h : wrongAtom a = 0) : isNamed a.name = true ∧ a.terms.length ≤ 4 ∧ ∀ t ∈ a.terms, wrongTerm t = false := by
  unfold wrongAtom at h
  split at h
  · cases h
  · rename_i h1
    split at h
    · cases h
    · rename_i h2
      split at h
      · cases h
      · rename_i h3
        refine ⟨by simpa using h1, by omega, fun t ht => ?_⟩
        cases e : wrongTerm t with
        | false => rfl
        | true => exact absurd (List.any_eq_true.2 ⟨t, ht, e⟩) h3

theorem head_right {r : RuleD} {fs : List FactB} {env : List BindD} {f : FactB} (hR : RightR r) (hr : ∀ f ∈ fs, RightF f) (h : FitsB (fun _ => fs) r.body env) (hf : fillB r.head env = some f) :
    RightF f ∧ f.1 = bs r.head.name ∧ f.2.length = r.head.terms.length := by
  obtain ⟨h1, h2⟩ := fill_name hf
  obtain ⟨h3, h4, h5⟩ := atom_zero hR.head
  have hl := fillArgs_len h2
  refine ⟨⟨by rw [h1, raw_bs]; exact h3, by omega, fun s hs => ?_⟩, h1, hl⟩
  obtain ⟨t, ht, hw⟩ := fillArgs_from h2 s hs
  unfold worthB at hw
  split at hw
  · exact env_right hr h hw
  · rename_i ht1
    cases hw
    have := h5 t ht
    unfold wrongTerm at this
    rw [if_neg ht1] at this
    rw [raw_bs]
    simpa using this

/-- Facts with which nothing is wrong, and that go with a program. -/
structure GoodS (p : List RuleD) (L : List FactB) : Prop where
  up : Up L
  right : ∀ f ∈ L, RightF f
  few : L.length ≤ 200
  fit : ∀ f ∈ L, fitF p f = true

theorem fitF_iff {p : List RuleD} {f : FactB} : fitF p f = true ↔ ∀ a ∈ atomsP p, bs a.name = f.1 → a.terms.length = f.2.length := by
  unfold fitF atomsP
  simp only [List.all_eq_true, Bool.or_eq_true, Bool.not_eq_true', decide_eq_false_iff_not, decide_eq_true_eq, List.mem_flatMap]
  constructor
  · rintro h a ⟨r, hr, ha⟩ e
    exact (h r hr a ha).resolve_left fun hn => hn e
  · intro h r hr a ha
    by_cases e : bs a.name = f.1
    · exact Or.inr (h a ⟨r, hr, ha⟩ e)
    · exact Or.inl e

theorem head_fit {p : List RuleD} (hp : RightP p) {r : RuleD} (hr : r ∈ p) {f : FactB} (h1 : f.1 = bs r.head.name) (h2 : f.2.length = r.head.terms.length) : fitF p f = true :=
  fitF_iff.2 fun a ha e => by
    rw [h2]
    exact hp.even a ha r.head (List.mem_flatMap.2 ⟨r, hr, by simp⟩) (bs_inj (e.trans h1))

theorem covers_right {r : RuleD} (h : RightR r) : Covers r.body := covers_of h.body

/-! ### one round -/

theorem onceGo_ok {n : Int} {fs : List FactB} (σ : RuleD → Nat) : ∀ {p : List RuleD} {acc S : List FactB}, onceGo n fs p (p.map σ) acc = (0, S) →
    (∀ r ∈ p, (σ r : Int) = n → ∃ x, headsP r fs = some x ∧ ∀ f ∈ x, f ∈ S) ∧ (∀ f ∈ acc, f ∈ S) ∧ (∀ f ∈ S, f ∈ acc ∨ ∃ r ∈ p, (σ r : Int) = n ∧ ∃ x, headsP r fs = some x ∧ f ∈ x) ∧ Up S ∧ ((setF acc).length ≤ 200 → S.length ≤ 200)
  | [], acc, S, h => by
    simp only [onceGo, Prod.mk.injEq, true_and] at h
    subst h
    exact ⟨fun _ h => (by cases h), fun f hf => mem_setF.2 hf, fun f hf => Or.inl (mem_setF.1 hf), setF_up _, id⟩
  | r :: p, acc, S, h => by
    simp only [onceGo, List.map_cons] at h
    split at h
    · rename_i hs
      split at h
      · simp at h
      · rename_i x hx
        split at h
        · simp at h
        · rename_i hlen
          obtain ⟨h1, h2, h3, h4, h5⟩ := onceGo_ok σ h
          refine ⟨fun q hq hqn => ?_, fun f hf => h2 f (by simp [hf]), fun f hf => ?_, h4, fun _ => h5 (by omega)⟩
          · rcases List.mem_cons.1 hq with rfl | hq
            · exact ⟨x, hx, fun f hf => h2 f (by simp [hf])⟩
            · exact h1 q hq hqn
          · rcases h3 f hf with hf | ⟨q, hq, hqn, y, hy, hf⟩
            · rcases List.mem_append.1 hf with hf | hf
              · exact Or.inl hf
              · exact Or.inr ⟨r, by simp, hs, x, hx, hf⟩
            · exact Or.inr ⟨q, by simp [hq], hqn, y, hy, hf⟩
    · rename_i hs
      obtain ⟨h1, h2, h3, h4, h5⟩ := onceGo_ok σ h
      refine ⟨fun q hq hqn => ?_, h2, fun f hf => ?_, h4, h5⟩
      · rcases List.mem_cons.1 hq with rfl | hq
        · exact absurd hqn hs
        · exact h1 q hq hqn
      · rcases h3 f hf with hf | ⟨q, hq, hqn, y, hy, hf⟩
        · exact Or.inl hf
        · exact Or.inr ⟨q, by simp [hq], hqn, y, hy, hf⟩

theorem onceGo_of {n : Int} {fs : List FactB} (σ : RuleD → Nat) {T : List FactB} (hT : T.length ≤ 200) : ∀ {p : List RuleD} {acc : List FactB}, (∀ r ∈ p, (σ r : Int) = n → ∃ x, headsP r fs = some x ∧ ∀ f ∈ x, f ∈ T) → (∀ f ∈ acc, f ∈ T) →
    (onceGo n fs p (p.map σ) acc).1 = 0
  | [], acc, _, _ => rfl
  | r :: p, acc, h, ha => by
    simp only [onceGo, List.map_cons]
    split
    · rename_i hs
      obtain ⟨x, hx, hxT⟩ := h r (by simp) hs
      rw [hx]
      have hsub : ∀ f ∈ acc ++ x, f ∈ T := fun f hf => (List.mem_append.1 hf).elim (ha f) (hxT f)
      have hlen := up_le (setF_up (acc ++ x)) fun f hf => hsub f (mem_setF.1 hf)
      dsimp only
      rw [if_neg (by omega)]
      exact onceGo_of σ hT (fun q hq => h q (by simp [hq])) hsub
    · exact onceGo_of σ hT (fun q hq => h q (by simp [hq])) ha

theorem onceGo_err {n : Int} {fs : List FactB} : ∀ {p : List RuleD} {ss : List Nat} {acc : List FactB}, (onceGo n fs p ss acc).1 = 0 ∨ onceGo n fs p ss acc = (4, []) ∨ onceGo n fs p ss acc = (5, [])
  | [], _, _ => Or.inl rfl
  | _ :: _, [], _ => Or.inl rfl
  | r :: p, s :: ss, acc => by
    simp only [onceGo]
    split
    · split
      · exact Or.inr (Or.inl rfl)
      · split
        · exact Or.inr (Or.inr rfl)
        · exact onceGo_err
    · exact onceGo_err

theorem once_good {p : List RuleD} (hp : RightP p) (σ : RuleD → Nat) {n : Int} {L S : List FactB} (hL : GoodS p L) (h : onceP p (p.map σ) n L = (0, S)) : GoodS p S ∧ ∀ f ∈ L, f ∈ S := by
  obtain ⟨h1, h2, h3, h4, h5⟩ := onceGo_ok σ h
  have key : ∀ f ∈ S, f ∈ L ∨ (RightF f ∧ fitF p f = true) := fun f hf => by
    rcases h3 f hf with hf | ⟨r, hr, _, x, hx, hf⟩
    · exact Or.inl hf
    · obtain ⟨env, he, hfill⟩ := (heads_mem (covers_right (hp.rules r hr)) hx f).1 hf
      obtain ⟨a, b, c⟩ := head_right (hp.rules r hr) hL.right he hfill
      exact Or.inr ⟨a, head_fit hp hr b c⟩
  refine ⟨⟨h4, fun f hf => (key f hf).elim (hL.right f) (·.1), h5 (by rw [setF_up_self hL.up]; exact hL.few), fun f hf => (key f hf).elim (hL.fit f) (·.2)⟩, h2⟩

/-! ### a stratum -/

inductive Walks (p : List RuleD) (ss : List Nat) (n : Int) : List FactB → List FactB → Prop
  | stop {L : List FactB} : onceP p ss n L = (0, L) → Walks p ss n L L
  | go {L L' M : List FactB} : onceP p ss n L = (0, L') → Walks p ss n L' M → Walks p ss n L M

theorem over_walks {p : List RuleD} (hp : RightP p) (σ : RuleD → Nat) {n : Int} : ∀ (k : Nat) {L M : List FactB}, GoodS p L → overGo p (p.map σ) n k L = (0, M) → 200 < L.length + k → Walks p (p.map σ) n L M
  | 0, L, M, hL, _, hk => by have := hL.few; omega
  | k + 1, L, M, hL, h, hk => by
    unfold overGo at h
    obtain ⟨e, x, hx⟩ : ∃ e x, onceP p (p.map σ) n L = (e, x) := ⟨_, _, rfl⟩
    rw [hx] at h
    dsimp only at h
    split at h
    · rename_i he
      simp at h
      exact absurd h.1 he
    · rename_i he
      have he : e = 0 := by simpa using he
      subst he
      obtain ⟨g1, g2⟩ := once_good hp σ hL hx
      split at h
      · rename_i hlen
        have e : L = x := up_same hL.up g1.up g2 (by omega)
        simp at h
        subst h
        subst e
        exact .stop hx
      · rename_i hlen
        have := up_le hL.up g2
        exact .go hx (over_walks hp σ k g1 h (by omega))

theorem walks_inv {p : List RuleD} (hp : RightP p) (σ : RuleD → Nat) {n : Int} {P : List FactB → Prop} (hP : ∀ L L', GoodS p L → P L → onceP p (p.map σ) n L = (0, L') → P L') {L M : List FactB} (h : Walks p (p.map σ) n L M) :
    GoodS p L → P L → GoodS p M ∧ P M ∧ onceP p (p.map σ) n M = (0, M) ∧ ∀ f ∈ L, f ∈ M := by
  induction h with
  | stop h => exact fun hL hPL => ⟨hL, hPL, h, fun _ h => h⟩
  | go h _ ih =>
    intro hL hPL
    obtain ⟨g1, g2⟩ := once_good hp σ hL h
    obtain ⟨a, b, c, d⟩ := ih g1 (hP _ _ hL hPL h)
    exact ⟨a, b, c, fun f hf => d f (g2 f hf)⟩

/-! ### all strata -/

theorem run_inv {p : List RuleD} (hp : RightP p) (σ : RuleD → Nat) {P : Nat → List FactB → Prop} (hP : ∀ (n : Nat) L M, GoodS p L → P n L → Walks p (p.map σ) n L M → P (n + 1) M) :
    ∀ (c n : Nat) {L M : List FactB}, GoodS p L → P n L → runGo p (p.map σ) c n L = (0, M) → GoodS p M ∧ P (n + c) M ∧ ∀ f ∈ L, f ∈ M
  | 0, n, L, M, hL, hPL, h => by
    simp [runGo] at h
    subst h
    exact ⟨hL, hPL, fun _ h => h⟩
  | c + 1, n, L, M, hL, hPL, h => by
    unfold runGo at h
    obtain ⟨e, x, hx⟩ : ∃ e x, overGo p (p.map σ) n 201 L = (e, x) := ⟨_, _, rfl⟩
    rw [hx] at h
    dsimp only at h
    split at h
    · rename_i he
      simp at h
      exact absurd h.1 he
    · rename_i he
      have he : e = 0 := by simpa using he
      subst he
      have hw := over_walks hp σ 201 hL hx (by omega)
      obtain ⟨g1, _, _, g2⟩ := walks_inv hp σ (P := fun _ => True) (fun _ _ _ _ _ => trivial) hw hL trivial
      obtain ⟨a, b, d⟩ := run_inv hp σ hP c (n + 1) g1 (hP n L x hL hPL hw) h
      exact ⟨a, by rw [show n + (c + 1) = n + 1 + c by omega]; exact b, fun f hf => d f (g2 f hf)⟩

/-- What holds on the way: n: the strata that are closed; m: those of which there may be something. -/
structure Way (p : List RuleD) (τ : Bs → Nat) (l : List FactB) (n m : Nat) (L : List FactB) : Prop where
  told : ∀ f ∈ l, f ∈ L
  of : ∀ f ∈ L, f ∉ l → ∃ r ∈ p, τ r.head.name < m ∧ f.1 = bs r.head.name
  closed : ∀ r ∈ p, τ r.head.name < n → ∀ env f, FitsB (fun _ => L) r.body env → fillB r.head env = some f → f ∈ L
  made : ∀ f ∈ L, f ∉ l → ∃ r ∈ p, τ r.head.name < m ∧ ∃ env, FitsB (fun _ => L) r.body env ∧ fillB r.head env = some f

theorem way_once {p : List RuleD} (hp : RightP p) {τ : Bs → Nat} (hτ : Sol p τ) {l : List FactB} {n : Nat} {L L' : List FactB} (hw : Way p τ l n (n + 1) L) (h : onceP p (p.map fun r => τ r.head.name) n L = (0, L')) : Way p τ l n (n + 1) L' := by
  obtain ⟨h1, h2, h3, h4, h5⟩ := onceGo_ok (fun r => τ r.head.name) h
  have hnew : ∀ f ∈ L', f ∈ L ∨ ∃ r ∈ p, τ r.head.name = n ∧ ∃ env, FitsB (fun _ => L) r.body env ∧ fillB r.head env = some f ∧ f.1 = bs r.head.name := fun f hf => by
    rcases h3 f hf with hf | ⟨r, hr, hn, x, hx, hf⟩
    · exact Or.inl hf
    · obtain ⟨env, he, hfill⟩ := (heads_mem (covers_right (hp.rules r hr)) hx f).1 hf
      exact Or.inr ⟨r, hr, Int.ofNat.inj hn, env, he, hfill, (fill_name hfill).1⟩
  have hold : ∀ r ∈ p, ∀ a ∈ r.body, τ r.head.name < n + step a → ∀ f : FactB, f.1 = bs a.name → f ∈ L' → f ∈ L := fun r hr a ha hlt f hfn hf => by
    rcases hnew f hf with hf | ⟨q, hq, hqn, _, _, _, hqf⟩
    · exact hf
    · exfalso
      have e : a.name = q.head.name := bs_inj (hfn.symm.trans hqf)
      have := hτ r hr a ha ⟨q, hq, e.symm⟩
      rw [e] at this
      omega
  have hfits : ∀ r ∈ p, τ r.head.name < n + 1 → ∀ env, FitsB (fun _ => L) r.body env → FitsB (fun _ => L') r.body env := fun r hr hrn env he =>
    fits_sub (fun a _ _ f _ hf => h2 f hf) (fun a ha hno f hfn hf => hold r hr a ha (by simp only [step, hno, if_true]; omega) f hfn hf) he
  refine ⟨fun f hf => h2 f (hw.told f hf), fun f hf hfl => ?_, fun r hr hrn env f he hfill => ?_, fun f hf hfl => ?_⟩
  · rcases hnew f hf with hf | ⟨q, hq, hqn, _, _, _, hqf⟩
    · exact hw.of f hf hfl
    · exact ⟨q, hq, by omega, hqf⟩
  · refine h2 f (hw.closed r hr hrn env f (fits_sub (fun a ha hno f hfn hf => hold r hr a ha (by omega) f hfn hf) (fun a _ _ f _ hf => h2 f hf) he) hfill)
  · rcases hnew f hf with hf | ⟨q, hq, hqn, env, he, hfill, _⟩
    · obtain ⟨r, hr, hrn, env, he, hfill⟩ := hw.made f hf hfl
      exact ⟨r, hr, hrn, env, hfits r hr hrn env he, hfill⟩
    · exact ⟨q, hq, by omega, env, hfits q hq (by omega) env he, hfill⟩

theorem way_walks {p : List RuleD} (hp : RightP p) {τ : Bs → Nat} (hτ : Sol p τ) {l : List FactB} {n : Nat} {L M : List FactB} (hL : GoodS p L) (hw : Way p τ l n n L) (h : Walks p (p.map fun r => τ r.head.name) n L M) : Way p τ l (n + 1) (n + 1) M := by
  have h0 : Way p τ l n (n + 1) L := ⟨hw.told, fun f hf hn => by obtain ⟨r, hr, h1, h2⟩ := hw.of f hf hn; exact ⟨r, hr, by omega, h2⟩, hw.closed, fun f hf hn => by obtain ⟨r, hr, h1, h2⟩ := hw.made f hf hn; exact ⟨r, hr, by omega, h2⟩⟩
  obtain ⟨g, hm, hfix, _⟩ := walks_inv hp (fun r => τ r.head.name) (P := Way p τ l n (n + 1)) (fun L L' _ hw ho => way_once hp hτ hw ho) h hL h0
  obtain ⟨h1, _⟩ := onceGo_ok (fun r => τ r.head.name) hfix
  refine ⟨hm.told, hm.of, fun r hr hrn env f he hfill => ?_, hm.made⟩
  by_cases e : τ r.head.name < n
  · exact hm.closed r hr e env f he hfill
  · have e2 : τ r.head.name = n := by omega
    obtain ⟨x, hx, hxm⟩ := h1 r hr (by rw [e2])
    exact hxm f ((heads_mem (covers_right (hp.rules r hr)) hx f).2 ⟨env, he, hfill⟩)

/-- ALL THAT FOLLOWS. -/
theorem run_way {p : List RuleD} (hp : RightP p) {τ : Bs → Nat} (hτ : Sol p τ) {l m : List FactB} (hl : GoodS p l) (h : runGo p (p.map fun r => τ r.head.name) (countP (p.map fun r => τ r.head.name)) 0 l = (0, m)) :
    GoodS p m ∧ Way p τ l (countP (p.map fun r => τ r.head.name)) (countP (p.map fun r => τ r.head.name)) m := by
  have h0 : Way p τ l 0 0 l := ⟨fun _ h => h, fun f hf hn => absurd hf hn, fun r _ h => by omega, fun f hf hn => absurd hf hn⟩
  obtain ⟨a, b, _⟩ := run_inv hp (fun r => τ r.head.name) (P := fun n => Way p τ l n n) (fun n L M hL hw hW => way_walks hp hτ hL hw hW) _ 0 hl h0 h
  exact ⟨a, by rw [Nat.zero_add] at b; exact b⟩

theorem run_model {p : List RuleD} (hp : RightP p) {τ : Bs → Nat} (hτ : Sol p τ) {l m : List FactB} (hl : GoodS p l) (h : runGo p (p.map fun r => τ r.head.name) (countP (p.map fun r => τ r.head.name)) 0 l = (0, m)) :
    (∀ f ∈ l, f ∈ m) ∧ ∀ r ∈ p, ∀ x, headsP r m = some x → ∀ f ∈ x, f ∈ m := by
  obtain ⟨_, hw⟩ := run_way hp hτ hl h
  refine ⟨hw.told, fun r hr x hx f hf => ?_⟩
  obtain ⟨env, he, hfill⟩ := (heads_mem (covers_right (hp.rules r hr)) hx f).1 hf
  exact hw.closed r hr (lt_countP (List.mem_map.2 ⟨r, hr, rfl⟩)) env f he hfill

theorem run_needed {p : List RuleD} (hp : RightP p) {τ : Bs → Nat} (hτ : Sol p τ) {l m : List FactB} (hl : GoodS p l) (h : runGo p (p.map fun r => τ r.head.name) (countP (p.map fun r => τ r.head.name)) 0 l = (0, m)) (hs : ∀ r ∈ p, ∃ x, headsP r m = some x) :
    ∀ f, f ∈ m ↔ f ∈ l ∨ ∃ r ∈ p, ∃ x, headsP r m = some x ∧ f ∈ x := by
  obtain ⟨_, hw⟩ := run_way hp hτ hl h
  obtain ⟨m1, m2⟩ := run_model hp hτ hl h
  intro f
  constructor
  · intro hf
    by_cases hfl : f ∈ l
    · exact Or.inl hfl
    · obtain ⟨r, hr, _, env, he, hfill⟩ := hw.made f hf hfl
      obtain ⟨x, hx⟩ := hs r hr
      exact Or.inr ⟨r, hr, x, hx, (heads_mem (covers_right (hp.rules r hr)) hx f).2 ⟨env, he, hfill⟩⟩
  · rintro (hf | ⟨r, hr, x, hx, hf⟩)
    · exact m1 f hf
    · exact m2 r hr x hx f hf

/-! ### told more -/

theorem run_least {p : List RuleD} (hp : RightP p) (hno : ∀ r ∈ p, ∀ a ∈ r.body, a.no = false) {l l' m m' : List FactB} (hl : GoodS p l) (hl' : GoodS p l') (hs : ∀ f ∈ l, f ∈ l')
    (h : runGo p (p.map fun _ => 0) (countP (p.map fun _ => 0)) 0 l = (0, m)) (h' : runGo p (p.map fun _ => 0) (countP (p.map fun _ => 0)) 0 l' = (0, m')) : ∀ f ∈ m, f ∈ m' := by
  have hτ : Sol p (fun _ => 0) := fun r hr a ha _ => by simp [step, hno r hr a ha]
  obtain ⟨_, hw⟩ := run_way (τ := fun _ => 0) hp hτ hl' h'
  have hP : ∀ L L', GoodS p L → (∀ f ∈ L, f ∈ m') → onceP p (p.map fun _ => 0) (0 : Nat) L = (0, L') → ∀ f ∈ L', f ∈ m' := fun L L' hL hsub ho f hf => by
    obtain ⟨_, _, h3, _⟩ := onceGo_ok (fun _ => 0) ho
    rcases h3 f hf with hf | ⟨r, hr, _, x, hx, hf⟩
    · exact hsub f hf
    · obtain ⟨env, he, hfill⟩ := (heads_mem (covers_right (hp.rules r hr)) hx f).1 hf
      exact hw.closed r hr (lt_countP (List.mem_map.2 ⟨r, hr, rfl⟩)) env f (fits_sub (fun a _ _ f _ hf => hsub f hf) (fun a ha hn => by rw [hno r hr a ha] at hn; cases hn) he) hfill
  cases p with
  | nil =>
    simp [runGo, countP] at h h'
    subst h; subst h'
    exact hs
  | cons r p =>
    have hc : countP ((r :: p).map fun _ => 0) = 1 := by
      have : ∀ q : List RuleD, countP (q.map fun _ => 0) ≤ 1 := fun q => by
        induction q with
        | nil => simp [countP]
        | cons a q ih => simp only [List.map_cons, countP]; omega
      have h1 := this (r :: p)
      have h2 := lt_countP (ss := (r :: p).map fun _ => 0) (s := 0) (by simp)
      omega
    rw [hc] at h
    unfold runGo at h
    obtain ⟨e, x, hx⟩ : ∃ e x, overGo (r :: p) ((r :: p).map fun _ => 0) (0 : Nat) 201 l = (e, x) := ⟨_, _, rfl⟩
    rw [hx] at h
    dsimp only at h
    split at h
    · rename_i he
      simp at h
      exact absurd h.1 he
    · rename_i he
      have he : e = 0 := by simpa using he
      subst he
      simp [runGo] at h
      subst h
      obtain ⟨_, b, _⟩ := walks_inv hp (fun _ => 0) hP (over_walks hp (fun _ => 0) 201 hl hx (by omega)) hl (fun f hf => hw.told f (hs f hf))
      exact b

/-- Told what follows, nothing more follows. -/
theorem run_again {p : List RuleD} (hp : RightP p) (hno : ∀ r ∈ p, ∀ a ∈ r.body, a.no = false) {l m : List FactB} (hl : GoodS p l)
    (h : runGo p (p.map fun _ => 0) (countP (p.map fun _ => 0)) 0 l = (0, m)) : ∃ e x, runGo p (p.map fun _ => 0) (countP (p.map fun _ => 0)) 0 m = (e, x) ∧ (e = 0 → x = m) ∧ (e = 0 ∨ e = 4) := by
  have hτ : Sol p (fun _ => 0) := fun r hr a ha _ => by simp [step, hno r hr a ha]
  cases p with
  | nil => exact ⟨0, m, rfl, fun _ => rfl, Or.inl rfl⟩
  | cons r p =>
    have hc : countP ((r :: p).map fun _ => 0) = 1 := by
      have : ∀ q : List RuleD, countP (q.map fun _ => 0) ≤ 1 := fun q => by
        induction q with
        | nil => simp [countP]
        | cons a q ih => simp only [List.map_cons, countP]; omega
      have h1 := this (r :: p)
      have h2 := lt_countP (ss := (r :: p).map fun _ => 0) (s := 0) (by simp)
      omega
    rw [hc] at h ⊢
    unfold runGo at h ⊢
    obtain ⟨e, x, hx⟩ : ∃ e x, overGo (r :: p) ((r :: p).map fun _ => 0) (0 : Nat) 201 l = (e, x) := ⟨_, _, rfl⟩
    rw [hx] at h
    dsimp only at h
    split at h
    · rename_i he
      simp at h
      exact absurd h.1 he
    · rename_i he
      have he : e = 0 := by simpa using he
      subst he
      simp [runGo] at h
      subst h
      obtain ⟨_, _, hfix, _⟩ := walks_inv hp (fun _ => 0) (P := fun _ => True) (fun _ _ _ _ _ => trivial) (over_walks hp (fun _ => 0) 201 hl hx (by omega)) hl trivial
      have ho : overGo (r :: p) ((r :: p).map fun _ => 0) (0 : Nat) 201 x = (0, x) := by
        unfold overGo
        rw [hfix]
        simp
      rw [ho]
      exact ⟨0, x, by simp [runGo], fun _ => rfl, Or.inl rfl⟩

/-! ### rules in whatever order -/

theorem once_same {p q : List RuleD} (hpq : ∀ r, r ∈ p ↔ r ∈ q) (σ : RuleD → Nat) {n : Int} {L : List FactB} (hL : L.length ≤ 200) (hu : Up L) (h4 : (onceP p (p.map σ) n L).1 ≠ 4) (h4' : (onceP q (q.map σ) n L).1 ≠ 4) :
    onceP p (p.map σ) n L = onceP q (q.map σ) n L := by
  have one : ∀ {p q : List RuleD}, (∀ r, r ∈ p ↔ r ∈ q) → (onceP p (p.map σ) n L).1 = 0 → (onceP q (q.map σ) n L).1 = 0 := fun {p q} hpq h => by
    obtain ⟨S, hS⟩ : ∃ S, onceP p (p.map σ) n L = (0, S) := ⟨_, Prod.ext h rfl⟩
    obtain ⟨h1, h2, _, _, h5⟩ := onceGo_ok σ hS
    exact onceGo_of σ (h5 (by rw [setF_up_self hu]; exact hL)) (fun r hr => h1 r ((hpq r).2 hr)) h2
  rcases onceGo_err (n := n) (fs := L) (p := p) (ss := p.map σ) (acc := L) with h | h | h
  · have h' := one hpq h
    obtain ⟨S, hS⟩ : ∃ S, onceP p (p.map σ) n L = (0, S) := ⟨_, Prod.ext h rfl⟩
    obtain ⟨T, hT⟩ : ∃ T, onceP q (q.map σ) n L = (0, T) := ⟨_, Prod.ext h' rfl⟩
    obtain ⟨s1, s2, s3, s4, _⟩ := onceGo_ok σ hS
    obtain ⟨t1, t2, t3, t4, _⟩ := onceGo_ok σ hT
    rw [hS, hT]
    refine Prod.ext rfl (up_ext s4 t4 fun f => ⟨fun hf => ?_, fun hf => ?_⟩)
    · rcases s3 f hf with hf | ⟨r, hr, hn, x, hx, hf⟩
      · exact t2 f hf
      · obtain ⟨y, hy, hyT⟩ := t1 r ((hpq r).1 hr) hn
        rw [hx] at hy; cases hy
        exact hyT f hf
    · rcases t3 f hf with hf | ⟨r, hr, hn, x, hx, hf⟩
      · exact s2 f hf
      · obtain ⟨y, hy, hyS⟩ := s1 r ((hpq r).2 hr) hn
        rw [hx] at hy; cases hy
        exact hyS f hf
  · exact absurd (by unfold onceP; rw [h]) h4
  · rcases onceGo_err (n := n) (fs := L) (p := q) (ss := q.map σ) (acc := L) with h' | h' | h'
    · have := one (fun r => (hpq r).symm) h'
      unfold onceP at this
      rw [h] at this
      simp at this
    · exact absurd (by unfold onceP; rw [h']) h4'
    · unfold onceP; rw [h, h']

theorem over_same {p q : List RuleD} (hp : RightP p) (hpq : ∀ r, r ∈ p ↔ r ∈ q) (σ : RuleD → Nat) {n : Int} : ∀ (k : Nat) {L : List FactB}, GoodS p L → (overGo p (p.map σ) n k L).1 ≠ 4 → (overGo q (q.map σ) n k L).1 ≠ 4 →
    overGo p (p.map σ) n k L = overGo q (q.map σ) n k L
  | 0, _, _, _, _ => rfl
  | k + 1, L, hL, h4, h4' => by
    have e : onceP p (p.map σ) n L = onceP q (q.map σ) n L := by
      refine once_same hpq σ hL.few hL.up (fun h => h4 ?_) (fun h => h4' ?_)
      · unfold overGo; rw [if_pos (by rw [h]; decide)]; exact h
      · unfold overGo; rw [if_pos (by rw [h]; decide)]; exact h
    unfold overGo at h4 h4' ⊢
    rw [← e] at h4' ⊢
    obtain ⟨er, x, hx⟩ : ∃ e x, onceP p (p.map σ) n L = (e, x) := ⟨_, _, rfl⟩
    rw [hx] at h4 h4' ⊢
    dsimp only at h4 h4' ⊢
    split
    · rfl
    · rename_i he
      have he' : er = 0 := by simpa using he
      subst he'
      rw [if_neg he] at h4 h4'
      split
      · rfl
      · rename_i hl
        rw [if_neg hl] at h4 h4'
        exact over_same hp hpq σ k (once_good hp σ hL hx).1 h4 h4'

theorem run_same {p q : List RuleD} (hp : RightP p) (hpq : ∀ r, r ∈ p ↔ r ∈ q) (σ : RuleD → Nat) : ∀ (c n : Nat) {L : List FactB}, GoodS p L → (runGo p (p.map σ) c n L).1 ≠ 4 → (runGo q (q.map σ) c n L).1 ≠ 4 →
    runGo p (p.map σ) c n L = runGo q (q.map σ) c n L
  | 0, _, _, _, _, _ => rfl
  | c + 1, n, L, hL, h4, h4' => by
    have e : overGo p (p.map σ) n 201 L = overGo q (q.map σ) n 201 L := by
      refine over_same hp hpq σ 201 hL (fun h => h4 ?_) (fun h => h4' ?_)
      · unfold runGo; rw [if_pos (by rw [h]; decide)]; exact h
      · unfold runGo; rw [if_pos (by rw [h]; decide)]; exact h
    unfold runGo at h4 h4' ⊢
    rw [← e] at h4' ⊢
    obtain ⟨er, x, hx⟩ : ∃ e x, overGo p (p.map σ) n 201 L = (e, x) := ⟨_, _, rfl⟩
    rw [hx] at h4 h4' ⊢
    dsimp only at h4 h4' ⊢
    split
    · rfl
    · rename_i he
      have he' : er = 0 := by simpa using he
      subst he'
      rw [if_neg he] at h4 h4'
      obtain ⟨g, _⟩ := walks_inv hp σ (P := fun _ => True) (fun _ _ _ _ _ => trivial) (over_walks hp σ 201 hL hx (by omega)) hL trivial
      exact run_same hp hpq σ c (n + 1) g h4 h4'

theorem sol_turned {p : List RuleD} {τ : Bs → Nat} (h : Sol p τ) : Sol p.reverse τ := fun r hr a ha ⟨q, hq, e⟩ => h r (List.mem_reverse.1 hr) a ha ⟨q, List.mem_reverse.1 hq, e⟩

/-- The strata of a program turned around are those of the program, turned around. -/
theorem strata_turned {p : List RuleD} (hp : RightP p) : (strataP p.reverse).2.1 = (strataP p).2.1 ∧ ((strataP p).2.1 = 0 → ∃ τ, Sol p τ ∧ (strataP p).1 = p.map (fun r => τ r.head.name) ∧ (strataP p.reverse).1 = p.reverse.map fun r => τ r.head.name) := by
  have hp' := hp.turned
  have w1 := rightP_iff.2 hp
  have w2 := rightP_iff.2 hp'
  have errs : ∀ {q : List RuleD}, (wrongP q).1 = 0 → (strataP q).2.1 = 0 ∨ (strataP q).2.1 = 10 := fun {q} h => by
    unfold strataP; rw [if_pos h]; split <;> simp
  have ok : ∀ {q : List RuleD}, (strataP q).2.1 = 0 → ∃ m, (strataP q).1 = each m q ∧ Least q m ∧ Sol q (numOf m) := fun {q} h => by
    obtain ⟨_, m, h1, _, h3, h4⟩ := strataP_ok (p := q) (l := (strataP q).1) (k := (strataP q).2.2) (by rw [← h])
    exact ⟨m, h1, h3, h4⟩
  have back : ∀ τ, Sol p.reverse τ → Sol p τ := fun τ h => by have := sol_turned h; rwa [List.reverse_reverse] at this
  by_cases h : (strataP p).2.1 = 0
  · obtain ⟨m, e1, l1, s1⟩ := ok h
    obtain ⟨l, hl⟩ := strataP_of w2 (sol_turned s1)
    have h' : (strataP p.reverse).2.1 = 0 := by rw [hl]
    obtain ⟨m', e2, l2, s2⟩ := ok h'
    refine ⟨by rw [h, h'], fun _ => ⟨numOf m, s1, e1, ?_⟩⟩
    rw [e2]
    unfold each
    refine List.map_congr_left fun r _ => Nat.le_antisymm (l2 _ (sol_turned s1) _) (l1 _ (back _ s2) _)
  · refine ⟨?_, fun h' => absurd h' h⟩
    rcases errs w1 with h1 | h1
    · exact absurd h1 h
    · rcases errs w2 with h2 | h2
      · obtain ⟨m', _, _, s2⟩ := ok h2
        obtain ⟨l, hl⟩ := strataP_of w1 (back _ s2)
        rw [hl] at h; exact absurd rfl h
      · rw [h1, h2]

end Go.Proofs.YtbohggoeebhdmaaGreatDoor

/- The walks of slices.BinarySearchFunc at facts, fact.among and its closure, fact.In. -/
namespace Go.Proofs.YtbohggoeebhdmaaGreatDoor
open Go.RowKit Go.Sort

theorem mixed : Tryz.prog.follows .mixedOrders = true := by kernel_rfl

/-- A fact of a slice, in every later world. -/
theorem Facts.grown {w : World} {b off n cap : Nat} {l : List FactD} (h : Facts w (.slice (some ⟨b, off, none⟩) n cap) l) {k : Nat} (hk : k < l.length) :
    ∃ a len c, (∀ q os, (grow (w.drewN q) os).cell? ⟨b, off + k * 2, none⟩ = some (.string (l.getD k noFact).1)) ∧ (∀ q os, (grow (w.drewN q) os).cell? ⟨b, off + k * 2 + 1, none⟩ = some (.slice a len c)) ∧ FactV w (.agg #[.string (l.getD k noFact).1, .slice a len c]) (l.getD k noFact) := by
  obtain ⟨hb, a, len, c, g1, g2, hf⟩ := h.at hk
  exact ⟨a, len, c, fun q os => by rw [Later.cell ⟨q, os, rfl⟩ (p := ⟨b, off + k * 2, none⟩) hb]; exact g1, fun q os => by rw [Later.cell ⟨q, os, rfl⟩ (p := ⟨b, off + k * 2 + 1, none⟩) hb]; exact g2, hf⟩

theorem inFrom_iff {l : List FactD} {f : FactD} : inFrom l f 0 = true ↔ f ∈ l := by
  unfold inFrom
  rw [List.drop_zero, List.any_eq_true]
  exact ⟨fun ⟨x, h1, h2⟩ => by rw [sameF_iff.1 h2] at h1; exact h1, fun h => ⟨f, h, sameF_iff.2 rfl⟩⟩

/-- Where the halves meet, there the fact is, or nowhere. -/
theorem meet {l : List FactD} {g : FactD} (hr : Rises l) {m : Nat} (hm : m ≤ l.length) (ha : ∀ t, t < m → cmpF (l.getD t noFact) g < 0) (hb : ∀ t, m ≤ t → t < l.length → 0 ≤ cmpF (l.getD t noFact) g) :
    inFrom l g 0 = (decide (m < l.length) && decide (cmpF (l.getD m noFact) g = 0)) := by
  rw [Bool.eq_iff_iff, inFrom_iff, Bool.and_eq_true, decide_eq_true_eq, decide_eq_true_eq]
  constructor
  · intro h
    obtain ⟨t, ht, rfl⟩ := List.getElem_of_mem h
    have e : l.getD t noFact = l[t] := by rw [List.getD_eq_getElem?_getD, List.getElem?_eq_getElem ht]; rfl
    have h1 : m ≤ t := Nat.not_lt.1 fun n => by have := ha t n; rw [e, three_cmpF.refl] at this; omega
    have h2 : m = t := by
      refine Classical.byContradiction fun n => ?_
      have h3 := List.pairwise_iff_getElem.1 hr m t (by omega) ht (by omega)
      have h4 := hb m (Nat.le_refl _) (by omega)
      rw [List.getD_eq_getElem?_getD, List.getElem?_eq_getElem (by omega)] at h4
      have h5 : (0 : Int) ≤ cmpF l[m] l[t] := h4
      omega
    subst h2
    exact ⟨ht, by rw [e, three_cmpF.refl]⟩
  · rintro ⟨h1, h2⟩
    rw [← three_cmpF.zero _ _ h2, List.getD_eq_getElem?_getD, List.getElem?_eq_getElem h1]
    exact List.getElem_mem h1

theorem ret_two {x : Value} {a b : Bool} (h : a = b) : Ending.returned (.tuple #[x, .bool a]) = .returned (.tuple #[x, .bool b]) := by rw [h]

theorem cell_later {w w' : World} (hL : Later w w') {p : Addr} {v : Value} (hb : p.block < w.heap.size) (h : w.cell? p = some v) : ∀ q os, (grow (w'.drewN q) os).cell? p = some v := fun q os => by
  rw [(hL.trans ⟨q, os, rfl⟩).cell hb]; exact h

set_option maxHeartbeats 1000000 in
theorem search (v t : Value) (l : List FactD) (g : FactD) (w : World) (hf : Facts w v l) (ht : FactV w t g) (hr : Rises l) :
    Calls Tryz.prog 88 #[v, t, .func (.func 30) #[] #[]] w fun e w' => ∃ n : Int, e = .returned (.tuple #[.int .i64 n, .bool (inFrom l g 0)]) ∧ Later w w' := by
  have mx := mixed
  have HF := hide hf
  have HT := hide ht
  have HR := hide hr
  obtain ⟨a, cap, rfl, hn, hz⟩ := hf.addr
  obtain ⟨s2, rfl, l2, a2, c2, rfl, _⟩ := ht
  clear hf hr
  go_enter Tryz.func88, Tryz.ntmps88
  go_wp2
  go_loopw [9, 10] (fun i j wr => ∃ lo hi : Nat, lo ≤ hi ∧ hi ≤ l.length ∧ i = .int .i64 lo ∧ j = .int .i64 hi ∧ Later (w.alloc (.cells #[.string g.1, .slice a2 g.2.length c2] 54)) wr ∧ Hid (∀ t, t < lo → cmpF (l.getD t noFact) g < 0) ∧ Hid (∀ t, hi ≤ t → t < l.length → 0 ≤ cmpF (l.getD t noFact) g)) (fun i j _ => (intOf j).toNat - (intOf i).toNat)
  case atStart => exact ⟨0, l.length, by omega, by omega, rfl, rfl, Later.refl _, fun t ht => absurd ht (Nat.not_lt_zero _), fun t h1 h2 => by omega⟩
  case round =>
    obtain ⟨lo, hi, hlh, hin, rfl, rfl, hL, HA, HB⟩ := hrel
    have hL0 : Later w wr := ((Later.refl _).alloc _).trans hL
    have z0 := cell_later hL (p := ⟨w.heap.size, 0, none⟩) (v := .string g.1) (by simp) (by simp)
    have z1 := cell_later hL (p := ⟨w.heap.size, 1, none⟩) (v := .slice a2 g.2.length c2) (by simp) (by simp)
    by_cases hlt : lo < hi
    · rcases hz with rfl | ⟨b, off, rfl⟩
      · simp at hin; omega
      obtain ⟨m, hm⟩ : ∃ m, m = (lo + hi) / 2 := ⟨_, rfl⟩
      have hml : m < l.length := by omega
      have hlm : lo ≤ m := by omega
      have hmh : m < hi := by omega
      have em : ((lo : Int) + (hi : Int)) / 2 = (m : Int) := by omega
      clear hm
      have hltz : (lo : Int) < (hi : Int) := by omega
      have hmz : (m : Int) < (l.length : Int) := by omega
      obtain ⟨ax, lx, cx, g1, g2, fx⟩ := (HF.out.later hL0).grown hml
      have hC : ∀ q os, Calls Tryz.prog 30 #[.agg #[.string (l.getD m noFact).1, .slice ax lx cx], .agg #[.string g.1, .slice a2 g.2.length c2]] (grow (wr.drewN q) os) fun e w'' => e = .returned (.int .i64 (cmpF (l.getD m noFact) g)) ∧ Later (grow (wr.drewN q) os) w'' :=
        fun q os => compareF _ _ _ _ _ (fx.later ⟨q, os, rfl⟩) ((HT.out.later hL0).later ⟨q, os, rfl⟩)
      have HC := hide hC
      clear hC fx
      have hlow := HR.out
      have hstep1 : cmpF (l.getD m noFact) g < 0 → ∀ t, t < m + 1 → cmpF (l.getD t noFact) g < 0 := fun h t ht => by
        by_cases e : t = m
        · rw [e]; exact h
        · have h3 := List.pairwise_iff_getElem.1 hlow t m (by omega) hml (by omega)
          refine three_cmpF.trans _ (l.getD m noFact) _ ?_ h
          rw [List.getD_eq_getElem?_getD, List.getElem?_eq_getElem (by omega), List.getD_eq_getElem?_getD, List.getElem?_eq_getElem hml]
          exact h3
      have hstep2 : 0 ≤ cmpF (l.getD m noFact) g → ∀ t, m ≤ t → t < l.length → 0 ≤ cmpF (l.getD t noFact) g := fun h t h1 h2 => by
        by_cases e : t = m
        · rw [e]; exact h
        · have h3 := List.pairwise_iff_getElem.1 hlow m t (by omega) h2 (by omega)
          refine Int.not_lt.1 fun n => ?_
          have h4 := three_cmpF.trans (l.getD m noFact) (l.getD t noFact) g (by
            rw [List.getD_eq_getElem?_getD, List.getElem?_eq_getElem (by omega), List.getD_eq_getElem?_getD, List.getElem?_eq_getElem h2]
            exact h3) n
          omega
      have H1 := hide hstep1
      have H2 := hide hstep2
      clear hstep1 hstep2 hlow
      generalize hcm : cmpF (l.getD m noFact) g = cm at *
      have HCM := hide hcm
      clear hcm
      generalize (l.getD m noFact).1 = nm at *
      by_cases hneg : cm < 0
      · go_wp2
        go_quiet_grown ((go_at_call 30; exact Calls.grown_of (HC.out _ _)))
        go_wp2
        go_roundw
        case rel => exact ⟨m + 1, hi, by omega, hin, by go_num, rfl, hL.trans ⟨_, _, rfl⟩, H1.out hneg, HB⟩
        case measure => simp [intOf]; omega
      · go_wp2
        go_quiet_grown ((go_at_call 30; exact Calls.grown_of (HC.out _ _)))
        go_wp2
        go_roundw
        case rel => exact ⟨lo, m, by omega, by omega, rfl, rfl, hL.trans ⟨_, _, rfl⟩, HA, H2.out (by omega)⟩
        case measure => simp [intOf]; omega
    · obtain rfl : lo = hi := by omega
      have hfin := meet HR.out hin HA.out HB.out
      by_cases hll : lo < l.length
      · rcases hz with rfl | ⟨b, off, rfl⟩
        · simp at hll
        have hmz : (lo : Int) < (l.length : Int) := by omega
        obtain ⟨ax, lx, cx, g1, g2, fx⟩ := (HF.out.later hL0).grown hll
        have hC : ∀ q os, Calls Tryz.prog 30 #[.agg #[.string (l.getD lo noFact).1, .slice ax lx cx], .agg #[.string g.1, .slice a2 g.2.length c2]] (grow (wr.drewN q) os) fun e w'' => e = .returned (.int .i64 (cmpF (l.getD lo noFact) g)) ∧ Later (grow (wr.drewN q) os) w'' :=
          fun q os => compareF _ _ _ _ _ (fx.later ⟨q, os, rfl⟩) ((HT.out.later hL0).later ⟨q, os, rfl⟩)
        have HC := hide hC
        rw [decide_eq_true hll] at hfin
        have HFN := hide hfin
        clear hC fx hfin
        generalize hcm : cmpF (l.getD lo noFact) g = cm at *
        generalize (l.getD lo noFact).1 = nm at *
        have HCM := hide hcm
        clear hcm
        go_wp2
        go_quiet_grown ((go_at_call 30; exact Calls.grown_of (HC.out _ _)))
        go_wp2
        go_ret2
        exact ⟨(lo : Int), ret_two (by rw [HFN.out, Bool.true_and, Bool.eq_iff_iff]; simp), hL0.trans ⟨_, _, rfl⟩⟩
      · rw [decide_eq_false hll] at hfin
        have HFN := hide hfin
        clear hfin
        have hd : decide ((lo : Int) < (l.length : Int)) = false := by rw [decide_eq_false_iff_not]; omega
        go_wp2
        go_quiet (fail)
        go_wp2
        go_ret2
        exact ⟨(lo : Int), ret_two (by rw [HFN.out]; rfl), hL0.drewN _⟩

end Go.Proofs.YtbohggoeebhdmaaGreatDoor

/- The walks of fact.among and its closure, fact.In, fact.Less. -/
namespace Go.Proofs.YtbohggoeebhdmaaGreatDoor
open Go.RowKit Go.Sort

set_option maxHeartbeats 400000 in
theorem among (a : Option Addr) (n cap : Nat) (w : World) : Calls Tryz.prog 52 #[.slice a n cap] w fun e w' =>
    e = .returned (.func (.func 87) #[] #[.pointer (some ⟨w.heap.size, 0, none⟩)]) ∧ w' = w.alloc (.cells #[.slice a n cap] 24) := by
  go_enter Tryz.func52, Tryz.ntmps52
  go_wp2
  go_ret
  exact ⟨rfl, rfl⟩

set_option maxHeartbeats 400000 in
theorem among1 (c : Nat) (v t : Value) (l : List FactD) (g : FactD) (w : World) (hc : w.cell? ⟨c, 0, none⟩ = some v) (hb : c < w.heap.size) (hf : Facts w v l) (ht : FactV w t g) (hr : Rises l) :
    Calls Tryz.prog 87 #[t, .pointer (some ⟨c, 0, none⟩)] w fun e w' => e = .returned (.bool (inFrom l g 0)) ∧ Later w w' := by
  have hS := fun w' (hw : Later w w') => search v t l g w' (hf.later hw) (ht.later hw) hr
  have HS := hide hS
  obtain ⟨a, cap, rfl⟩ := sliceFacts hf
  obtain ⟨s2, rfl, l2, a2, c2, rfl, _⟩ := ht
  clear hS hf hr
  go_enter Tryz.func87, Tryz.ntmps87
  go_wp2_with (go_at_call 88; refine (HS.out _ ((Later.refl _).alloc _)).mono ?_; rintro e w1 ⟨n, rfl, hL⟩)
  go_ret
  exact ⟨rfl, ((Later.refl _).alloc _).trans hL⟩

set_option maxHeartbeats 1000000 in
theorem inC (v t : Value) (l : List FactD) (g : FactD) (w : World) (hf : Facts w v l) (ht : FactV w t g) (hr : Rises l) :
    Calls Tryz.prog 31 #[v, t] w fun e w' => e = .returned (.bool (inFrom l g 0)) ∧ Later w w' := by
  have hA := fun c w' hc hb (hw : Later w w') => among1 c v t l g w' hc hb (hf.later hw) (ht.later hw) hr
  have HA := hide hA
  obtain ⟨a, cap, rfl⟩ := sliceFacts hf
  obtain ⟨s2, rfl, l2, a2, c2, rfl, _⟩ := ht
  clear hA hf hr
  go_enter Tryz.func31, Tryz.ntmps31
  go_wp2
  go_region_with (first
    | (go_at_call 52; refine (among _ _ _ _).mono ?_; rintro e w1 ⟨rfl, rfl⟩)
    | (go_at_call 87; refine (HA.out (w.heap.size + 1) _ (by simp) (by simp) (by repeat (first | exact Later.refl _ | assumption | refine Later.drewN ?_ _ | refine Later.drew ?_ | refine Later.alloc ?_ _ | refine Later.grow ?_ _))).mono ?_; rintro e w2 ⟨rfl, hL⟩))
  all_goals
    go_wp2
    go_ret
    exact ⟨rfl, Later.trans (by repeat (first | exact Later.refl _ | assumption | refine Later.drewN ?_ _ | refine Later.drew ?_ | refine Later.alloc ?_ _ | refine Later.grow ?_ _)) hL⟩

set_option maxHeartbeats 400000 in
theorem less1 (c d : Nat) (v t : Value) (l : List FactD) (g : FactD) (w : World) (hc : w.cell? ⟨c, 0, none⟩ = some v) (hb : c < w.heap.size) (hd : w.cell? ⟨d, 0, none⟩ = some (.func (.func 87) #[] #[.pointer (some ⟨c, 0, none⟩)])) (hdb : d < w.heap.size) (hf : Facts w v l) (ht : FactV w t g) (hr : Rises l) :
    Calls Tryz.prog 54 #[t, .pointer (some ⟨d, 0, none⟩)] w fun e w' => e = .returned (.bool (!inFrom l g 0)) ∧ Later w w' := by
  have hA := fun w' (hw : Later w w') => among1 c v t l g w' (by rw [hw.cell (p := ⟨c, 0, none⟩) hb]; exact hc) (Nat.lt_of_lt_of_le hb hw.size) (hf.later hw) (ht.later hw) hr
  have HA := hide hA
  obtain ⟨s2, rfl, l2, a2, c2, rfl, _⟩ := ht
  clear hA hf hr hc
  generalize inFrom l g 0 = r at *
  go_enter Tryz.func54, Tryz.ntmps54
  go_wp2_with (go_at_call 87; refine (HA.out _ ((Later.refl _).alloc _)).mono ?_; rintro e w1 ⟨rfl, hL⟩)
  go_ret
  exact ⟨rfl, ((Later.refl _).alloc _).trans hL⟩

set_option maxHeartbeats 400000 in
/-- fact.Less: those of the one that are not in the other, in memory of their own. -/
theorem lessC (va vb : Value) (la lb : List FactD) (w : World) (ha : Facts w va la) (hb : Facts w vb lb) (hr : Rises lb) :
    Calls Tryz.prog 23 #[va, vb] w fun e w' => ∃ v', e = .returned v' ∧ OwnF w' w.heap.size v' (la.filter fun f => !inFrom lb f 0) ∧ Later w w' := by
  have HA := hide ha
  have HB := hide hb
  have HR := hide hr
  obtain ⟨a1, c1, rfl⟩ := sliceFacts ha
  obtain ⟨a2, c2, rfl⟩ := sliceFacts hb
  clear ha hb hr
  go_enter Tryz.func23, Tryz.ntmps23
  go_wp2_with (go_at_call 52; refine (among _ _ _ _).mono ?_; rintro e w1 ⟨rfl, rfl⟩)
  have hL : Later w ((w.alloc (.cells #[.slice a2 lb.length c2] 24)).alloc (.cells #[.func (.func 87) #[] #[.pointer (some ⟨w.heap.size, 0, none⟩)]] 72)) := (by repeat (first | exact Later.refl _ | assumption | refine Later.drewN ?_ _ | refine Later.drew ?_ | refine Later.alloc ?_ _ | refine Later.grow ?_ _))
  have hz : w.heap.size + 1 < ((w.alloc (.cells #[.slice a2 lb.length c2] 24)).alloc (.cells #[.func (.func 87) #[] #[.pointer (some ⟨w.heap.size, 0, none⟩)]] 72)).heap.size := by simp
  have y0 : ((w.alloc (.cells #[.slice a2 lb.length c2] 24)).alloc (.cells #[.func (.func 87) #[] #[.pointer (some ⟨w.heap.size, 0, none⟩)]] 72)).cell? ⟨w.heap.size, 0, none⟩ = some (.slice a2 lb.length c2) := by simp
  have y1 : ((w.alloc (.cells #[.slice a2 lb.length c2] 24)).alloc (.cells #[.func (.func 87) #[] #[.pointer (some ⟨w.heap.size, 0, none⟩)]] 72)).cell? ⟨w.heap.size + 1, 0, none⟩ = some (.func (.func 87) #[] #[.pointer (some ⟨w.heap.size, 0, none⟩)]) := by simp
  generalize ((w.alloc (.cells #[.slice a2 lb.length c2] 24)).alloc (.cells #[.func (.func 87) #[] #[.pointer (some ⟨w.heap.size, 0, none⟩)]] 72)) = W at *
  refine (keep 54 #[.pointer (some ⟨w.heap.size + 1, 0, none⟩)] enters_less1 W.heap.size W.heap.size W W _ la (fun k => !inFrom lb (la.getD k noFact) 0) (fun _ _ => True) (HA.out.later hL) (Later.refl _) (Nat.le_refl _) (Nat.le_refl _)
    ⟨fun k w' t hk hw _ _ hf => (less1 w.heap.size (w.heap.size + 1) _ t lb (la.getD k noFact) w' (by rw [hw.cell (p := ⟨w.heap.size, 0, none⟩) (by show w.heap.size < _; omega)]; exact y0) (by have := hw.size; omega)
        (by rw [hw.cell (p := ⟨w.heap.size + 1, 0, none⟩) hz]; exact y1) (by have := hw.size; omega) ((HB.out.later hL).later hw) (hf.later hw) HR.out).mono fun e w'' ⟨he, hL'⟩ => ⟨he, hL'.only, trivial⟩,
      fun _ _ _ _ _ _ => trivial⟩ trivial).mono ?_
  rintro e w1 ⟨v', rfl, hO, hW, _⟩
  have e := pick_filter (fun f => !inFrom lb f 0) la la.length (Nat.le_refl _)
  rw [List.take_length] at e
  rw [e] at hO
  have HO := hide hO
  clear hO e
  go_wp2
  go_ret
  exact ⟨v', rfl, HO.out.base hL.size, hL.trans (hW.later (Later.refl _) (Nat.le_refl _))⟩

end Go.Proofs.YtbohggoeebhdmaaGreatDoor

/- The walks of match.barred and of match.With's closure. -/
namespace Go.Proofs.YtbohggoeebhdmaaGreatDoor
open Go.RowKit Go.Sort Go.Maps

theorem in_eq (l : List FactD) (f : FactD) : inFrom l f 0 = inB l f := by
  rw [Bool.eq_iff_iff, inFrom_iff, inB_iff]

/-- What one atom bars. -/
def barOne (fs : List FactD) (a : AtomD) (l : List BindD) : Bool := match fillB a l with
  | some f => inB fs f
  | none => false

theorem barredB_step {pick : Nat → List FactB} {body : List AtomD} {j : Nat} {a : AtomD} (h : body[j]? = some a) (l : List BindD) : barredB pick j (body.drop j) l = ((a.no && barOne (pick j) a l) || barredB pick (j + 1) (body.drop (j + 1)) l) := by
  obtain ⟨h1, e1⟩ := List.getElem?_eq_some_iff.1 h
  rw [List.drop_eq_getElem_cons h1, e1]; rfl

set_option maxRecDepth 100000 in
set_option maxHeartbeats 4000000 in
theorem barredC (body : List AtomD) (v u : Value) (l : List BindD) (g : Nat) (cb : Array Value) (eg : ∀ args w, (callFunc g args).run Tryz.prog w = .ok (.enter g args) w) (pick : Nat → List FactD) (w : World) (hv : atomK.sl Anyw w v body) (hu : bindK.sl Anyw w u l) (hp : Picks g cb pick w.heap.size w) (hb : body.length ≤ 5) (hr : ∀ n, Rises (pick n)) :
    Calls Tryz.prog 107 #[v, .func (.func g) #[] cb, u] w fun e w' => e = .returned (.bool (barredB pick 0 body l)) ∧ Later w w' := by
  obtain ⟨sa, cap, rfl⟩ := Kind.slice hv
  obtain ⟨ua, ucap, rfl⟩ := Kind.slice hu
  have HV := hide hv
  have HU := hide hu
  have HP := hide hp
  have HR := hide hr
  clear hv hu hp hr
  generalize hR : barredB pick 0 body l = R at *
  have H0 : Hid (R = barredB pick 0 (body.drop 0) l) := hR.symm
  clear hR
  go_enter Tryz.func107, Tryz.ntmps107
  go_wp2
  go_loopg [13] body.length (fun gg i wr => ∃ j : Nat, j + gg = body.length ∧ i = .int .i64 j ∧ Hid (R = barredB pick j (body.drop j) l) ∧ Hid (Later w wr))
  case atStart => exact ⟨0, by omega, rfl, H0, ((by repeat (first | exact Later.refl _ | assumption | refine Later.drewN ?_ _ | refine Later.drew ?_ | refine Later.alloc ?_ _ | refine Later.grow ?_ _)) : Later _ _)⟩
  case round =>
    obtain ⟨j, hj, rfl, HE, HL⟩ := hrel
    by_cases hlt : j < body.length
    · obtain ⟨a, hx⟩ : ∃ x, body[j]? = some x := ⟨_, List.getElem?_eq_getElem hlt⟩
      obtain ⟨b1, o1, _, rfl, hb1, ⟨sv, rfl, hsv⟩, hc⟩ := Kind.sl_at HV.out hx
      have d0 : wr.cell? ⟨b1, o1 + j * 3, none⟩ = some (.bool a.no) := by rw [HL.out.cell hb1]; exact hc 0 _ rfl
      have d1 : wr.cell? ⟨b1, o1 + j * 3 + 1, none⟩ = some (.string (bs a.name)) := by rw [HL.out.cell hb1]; exact hc 1 _ rfl
      have d2 : wr.cell? ⟨b1, o1 + j * 3 + 2, none⟩ = some sv := by rw [HL.out.cell hb1]; exact hc 2 _ rfl
      have hbr : b1 < wr.heap.size := Nat.lt_of_lt_of_le hb1 HL.out.size
      have HS := hide (barredB_step (pick := pick) hx l)
      obtain ⟨sva, svc, rfl⟩ := Kind.slice hsv
      have HSV := hide hsv
      clear hc hx hsv
      cases hno : a.no
      · have HS1 : Hid (R = barredB pick (j + 1) (body.drop (j + 1)) l) := by
          show _ = _
          rw [HE.out, HS.out, hno]; rfl
        rw [hno] at d0
        clear HE HS hno
        generalize bs a.name = nm at *
        go_wp2
        go_roundg (body.length - (j + 1))
        case measure => omega
        case rel => exact ⟨j + 1, by omega, by go_num, HS1, HL.out.alloc _⟩
      · have HS1 : Hid (R = (barOne (pick j) a l || barredB pick (j + 1) (body.drop (j + 1)) l)) := by
          show _ = _
          rw [HE.out, HS.out, hno]; rfl
        rw [hno] at d0
        have hLt : Later w (wr.alloc (.cells #[.bool true, .string (bs a.name), .slice sva a.terms.length svc] 40)) := HL.out.alloc _
        have HFc := hide (fillC a _ (.slice ua l.length ucap) l (wr.alloc (.cells #[.bool true, .string (bs a.name), .slice sva a.terms.length svc] 40)) (Kind.sl_later HSV.out hLt) (Kind.sl_later HU.out hLt))
        rw [hno] at HFc
        have hbo : barOne (pick j) a l = match fillB a l with | some f => inB (pick j) f | none => false := rfl
        unfold filled at HFc
        have HLt := hide hLt
        clear HE HS hLt hno
        cases hf : fillB a l with
        | none =>
          rw [hf] at HFc hbo
          have HS2 : Hid (R = barredB pick (j + 1) (body.drop (j + 1)) l) := by show _ = _; rw [HS1.out, hbo]; rfl
          simp only [Option.isSome_none, Option.getD_none] at HFc
          clear HS1 hbo hf
          generalize bs a.name = nm at *
          go_wp2_with fail
          refine HFc.out.mono ?_
          rintro e w2 ⟨fv, rfl, hfv, hL2⟩
          obtain ⟨s, rfl, hs⟩ := hfv
          obtain ⟨sA, sC, rfl⟩ := sliceStr hs
          have HL2 := hide (HLt.out.trans hL2)
          clear hs hL2 HFc
          go_wp2
          refine wp_region_held_drew (S := fun w' => Later w w') (by kernel_rfl) ((HL2.out.alloc _).drew) (fun hHeld => ?_)
          refine take_at (i := 0) (d := some 27) (v := ?_) rfl rfl (by kernel_rfl) (by kernel_rfl) (by kernel_rfl) (fun _ _ _ h => h) (Or.inl ⟨by rfl, ?_⟩) hHeld ?_
          rotate_left
          · intro w hSw; (try dsimp only at hSw);  go_simp; try with_reducible rfl
          simp only [Act.put, List.setIfInBounds_toArray, List.set_cons_zero, List.set_cons_succ]
          refine take_at (i := 1) (d := some 28) (v := ?_) rfl rfl (by kernel_rfl) (by kernel_rfl) (by kernel_rfl) (fun _ _ _ h => h) (Or.inl ⟨by rfl, ?_⟩) hHeld ?_
          rotate_left
          · intro w hSw; (try dsimp only at hSw);  go_simp; try with_reducible rfl
          simp only [Act.put, List.setIfInBounds_toArray, List.set_cons_zero, List.set_cons_succ]
          refine take_at (i := 2) (d := some 29) (v := undef) rfl rfl (by kernel_rfl) (by kernel_rfl) (by kernel_rfl) (fun _ _ _ h => h) (Or.inr ⟨by rfl, rfl⟩) hHeld ?_
          simp only [Act.put, List.setIfInBounds_toArray, List.set_cons_zero, List.set_cons_succ]
          refine take_at (i := 3) (d := some 30) (v := undef) rfl rfl (by kernel_rfl) (by kernel_rfl) (by kernel_rfl) (fun _ _ _ h => h) (Or.inr ⟨by rfl, rfl⟩) hHeld ?_
          simp only [Act.put, List.setIfInBounds_toArray, List.set_cons_zero, List.set_cons_succ]
          refine take_at (i := 4) (d := some 31) (v := undef) rfl rfl (by kernel_rfl) (by kernel_rfl) (by kernel_rfl) (fun _ _ _ h => h) (Or.inr ⟨by rfl, rfl⟩) hHeld ?_
          simp only [Act.put, List.setIfInBounds_toArray, List.set_cons_zero, List.set_cons_succ]
          refine take_at (i := 5) (d := some 32) (v := undef) rfl rfl (by kernel_rfl) (by kernel_rfl) (by kernel_rfl) (fun _ _ _ h => h) (Or.inr ⟨by rfl, rfl⟩) hHeld ?_
          simp only [Act.put, List.setIfInBounds_toArray, List.set_cons_zero, List.set_cons_succ]
          refine take_at (i := 6) (d := some 33) (v := undef) rfl rfl (by kernel_rfl) (by kernel_rfl) (by kernel_rfl) (fun _ _ _ h => h) (Or.inr ⟨by rfl, rfl⟩) hHeld ?_
          simp only [Act.put, List.setIfInBounds_toArray, List.set_cons_zero, List.set_cons_succ]
          refine take_at (i := 7) (d := some 34) (v := ?_) rfl rfl (by kernel_rfl) (by kernel_rfl) (by kernel_rfl) (fun _ _ _ h => h) (Or.inl ⟨by rfl, ?_⟩) hHeld ?_
          rotate_left
          · intro w hSw; (try dsimp only at hSw);  go_simp; try with_reducible rfl
          simp only [Act.put, List.setIfInBounds_toArray, List.set_cons_zero, List.set_cons_succ]
          refine wpAnyH_done (by kernel_rfl) ?_ _
          go_wp2
          go_roundg (body.length - (j + 1))
          case measure => omega
          case rel => exact ⟨j + 1, by omega, by go_num, HS2, hHeld⟩
        | some f =>
          rw [hf] at HFc hbo
          have HS2 : Hid (R = (inFrom (pick j) f 0 || barredB pick (j + 1) (body.drop (j + 1)) l)) := by show _ = _; rw [HS1.out, hbo, in_eq]
          simp only [Option.isSome_some, Option.getD_some] at HFc
          clear HS1 hbo hf
          generalize bs a.name = nm at *
          go_wp2_with fail
          refine HFc.out.mono ?_
          rintro e w2 ⟨fv, rfl, hfv, hL2⟩
          have HFV := hide hfv
          obtain ⟨s, rfl, hs⟩ := hfv
          obtain ⟨sA, sC, rfl⟩ := sliceStr hs
          have HL2 := hide (HLt.out.trans hL2)
          obtain ⟨fn, fargs⟩ := f
          dsimp only at *
          obtain ⟨wb, hwb⟩ : ∃ wb, wb = w2.alloc (.cells #[.string fn, .slice sA fargs.length sC] 54) := ⟨_, rfl⟩
          have hLb : Later w wb := by rw [hwb]; exact HL2.out.alloc _
          have hFb : FactV wb (.agg #[.string fn, .slice sA fargs.length sC]) (fn, fargs) := by rw [hwb]; exact HFV.out.later ((Later.refl _).alloc _)
          have z : wb.cell? ⟨w2.heap.size, 0, none⟩ = some (.string fn) ∧ wb.cell? ⟨w2.heap.size, 1, none⟩ = some (.slice sA fargs.length sC) := by rw [hwb]; simp
          have hsb : w2.heap.size < wb.heap.size := by rw [hwb]; simp
          have CELL : Hid (∀ w', Later wb w' → w'.cell? ⟨w2.heap.size, 0, none⟩ = some (.string fn) ∧ w'.cell? ⟨w2.heap.size, 1, none⟩ = some (.slice sA fargs.length sC)) := fun w' hL =>
            ⟨by rw [hL.cell hsb]; exact z.1, by rw [hL.cell hsb]; exact z.2⟩
          have HFr : Hid (∀ w', Later wb w' → Calls Tryz.prog g (#[.int .i64 j] ++ cb) w' fun e w2 => ∃ v, e = .returned v ∧ Facts w2 v (pick j) ∧ Later w' w2) := fun w' hL =>
            HP.out w' j (hLb.trans hL).below (by omega)
          have HIn : Hid (∀ w' x, Later wb w' → Facts w' x (pick j) → Calls Tryz.prog 31 #[x, .agg #[.string fn, .slice sA fargs.length sC]] w' fun e w3 => e = .returned (.bool (inFrom (pick j) (fn, fargs) 0)) ∧ Later w' w3) := fun w' x hL hx =>
            inC x _ (pick j) (fn, fargs) w' hx (hFb.later hL) (HR.out j)
          have HWB := hide hwb
          clear hs hL2 HFc hwb z hsb HFV hFb
          go_wp2
          rw [← HWB.out]
          generalize inFrom (pick j) (fn, fargs) 0 = bb at *
          refine wp_region_held_drew (S := fun w' => Later wb w') (by kernel_rfl) (Later.refl _).drew (fun hHeld => ?_)
          refine take_at (i := 0) (d := some 27) (v := ?_) rfl rfl (by kernel_rfl) (by kernel_rfl) (by kernel_rfl) (fun _ _ _ h => h) (Or.inl ⟨by rfl, ?_⟩) hHeld ?_
          rotate_left
          · intro w hSw; (try dsimp only at hSw);  go_simp; try with_reducible rfl
          simp only [Act.put, List.setIfInBounds_toArray, List.set_cons_zero, List.set_cons_succ]
          refine take_at (i := 1) (d := some 28) (v := ?_) rfl rfl (by kernel_rfl) (by kernel_rfl) (by kernel_rfl) (fun _ _ _ h => h) (Or.inl ⟨by rfl, ?_⟩) hHeld ?_
          rotate_left
          · intro w hSw; (try dsimp only at hSw);  go_simp; try with_reducible rfl
          simp only [Act.put, List.setIfInBounds_toArray, List.set_cons_zero, List.set_cons_succ]
          refine take_at (i := 2) (d := some 29) (v := ?_) rfl rfl (by kernel_rfl) (by kernel_rfl) (by kernel_rfl) (fun _ _ _ h => h) (Or.inl ⟨by rfl, ?_⟩) hHeld ?_
          rotate_left
          · intro w hSw; (try dsimp only at hSw);  go_simp; try with_reducible rfl
          simp only [Act.put, List.setIfInBounds_toArray, List.set_cons_zero, List.set_cons_succ]
          refine take_at (i := 3) (d := some 30) (v := ?_) rfl rfl (by kernel_rfl) (by kernel_rfl) (by kernel_rfl) (fun _ _ _ h => h) (Or.inl ⟨by rfl, ?_⟩) hHeld ?_
          rotate_left
          · intro w hSw; (try dsimp only at hSw);  go_simp; try with_reducible rfl
          simp only [Act.put, List.setIfInBounds_toArray, List.set_cons_zero, List.set_cons_succ]
          refine take_at (i := 5) (d := some 32) (v := ?_) rfl rfl (by kernel_rfl) (by kernel_rfl) (by kernel_rfl) (fun _ _ _ h => h) (Or.inl ⟨by rfl, ?_⟩) hHeld ?_
          rotate_left
          · intro w hSw; (try dsimp only at hSw); obtain ⟨q0, q1⟩ := CELL.out w hSw; go_simp; try with_reducible rfl
          simp only [Act.put, List.setIfInBounds_toArray, List.set_cons_zero, List.set_cons_succ]
          refine wpAnyH_ready (rs := [4]) (by kernel_rfl) (by simp) ?_
          refine AllReadyH.cons rfl (fun K hK => ?_) AllReadyH.nil
          go_simp
          refine (HFr.out _ hHeld).mono ?_
          rintro e u1 ⟨x, rfl, hx, hU1⟩
          dsimp only
          have hU1' : Later wb u1 := Later.trans hHeld hU1
          refine hK.out _ _ hU1' (fun hHeld => ?_)
          clear hK K
          refine wpAnyH_ready (rs := [6]) (by kernel_rfl) (by simp) ?_
          refine AllReadyH.cons rfl (fun K hK => ?_) AllReadyH.nil
          go_simp
          refine (HIn.out _ x hU1' hx).mono ?_
          rintro e u2 ⟨rfl, hU2⟩
          dsimp only
          have hU2' : Later wb u2 := hU1'.trans hU2
          refine hK.out _ _ hU2' (fun hHeld => ?_)
          clear hK K
          refine take_at (i := 7) (d := some 34) (v := ?_) rfl rfl (by kernel_rfl) (by kernel_rfl) (by kernel_rfl) (fun _ _ _ h => h) (Or.inl ⟨by rfl, ?_⟩) hHeld ?_
          rotate_left
          · intro w hSw; (try dsimp only at hSw);  go_simp; try with_reducible rfl
          simp only [Act.put, List.setIfInBounds_toArray, List.set_cons_zero, List.set_cons_succ]
          refine wpAnyH_done (by kernel_rfl) ?_ _
          have HLu := hide (hLb.trans hU2')
          cases bb
          · have HS3 : Hid (R = barredB pick (j + 1) (body.drop (j + 1)) l) := by show _ = _; rw [HS2.out]; rfl
            clear HS2
            go_wp2
            go_roundg (body.length - (j + 1))
            case measure => omega
            case rel => exact ⟨j + 1, by omega, by go_num, HS3, HLu⟩
          · have HS3 : Hid (R = true) := by show _ = _; rw [HS2.out]; rfl
            clear HS2
            go_wp2
            go_ret
            exact ⟨by rw [HS3.out]; rfl, HLu.out⟩
    · have HS3 : Hid (R = false) := by show _ = _; rw [HE.out, List.drop_eq_nil_of_le (by omega)]; rfl
      clear HE
      go_wp2
      go_ret
      exact ⟨by rw [HS3.out]; rfl, HL.out⟩

theorem enters_with1 : ∀ args w, (callFunc 106 args).run Tryz.prog w = .ok (.enter 106 args) w := enters_of Tryz.func106 (by kernel_rfl) rfl

/-- What is asked of a closure that takes lists away: in whatever world leaves all below n as it was. -/
def Dels (g : Nat) (cb : Array Value) (p : List BindD → Bool) (n : Nat) (w0 : World) : Prop := ∀ (W : World) (u : Value) (l : List BindD), Below n w0 W → bindK.sl Anyw W u l →
  Calls Tryz.prog g (#[u] ++ cb) W fun e w' => e = .returned (.bool (p l)) ∧ Later W w'

set_option maxHeartbeats 1000000 in
theorem with1C (cB cF : Nat) (body : List AtomD) (v : Value) (g : Nat) (cb : Array Value) (eg : ∀ args w, (callFunc g args).run Tryz.prog w = .ok (.enter g args) w) (pick : Nat → List FactD) (n : Nat) (w0 : World) (hv : atomK.sl Anyw w0 v body) (hp : Picks g cb pick n w0) (hb : body.length ≤ 5) (hr : ∀ n, Rises (pick n))
    (h0 : w0.cell? ⟨cB, 0, none⟩ = some v) (h1 : w0.cell? ⟨cF, 0, none⟩ = some (.func (.func g) #[] cb)) (b0 : cB < n) (b1 : cF < n) (hn : n = w0.heap.size) :
    Dels 106 #[.pointer (some ⟨cB, 0, none⟩), .pointer (some ⟨cF, 0, none⟩)] (barredB pick 0 body) n w0 := by
  intro W u l hW hu
  have hW' : Below w0.heap.size w0 W := by rw [← hn]; exact hW
  have hs : n ≤ W.heap.size := by have := hW.size; omega
  have z0 : W.cell? ⟨cB, 0, none⟩ = some v := by rw [hW.cell b0]; exact h0
  have z1 : W.cell? ⟨cF, 0, none⟩ = some (.func (.func g) #[] cb) := by rw [hW.cell b1]; exact h1
  have s0 : cB < W.heap.size := by omega
  have s1 : cF < W.heap.size := by omega
  have HC := hide (barredC body v u l g cb eg pick W (Kind.sl_below hv hW') hu (hp.below hW hs) hb hr)
  obtain ⟨a, cap, rfl⟩ := Kind.slice hv
  obtain ⟨ua, ucap, rfl⟩ := Kind.slice hu
  clear hv hu hp hr h0 h1 hW' hW
  generalize barredB pick 0 body l = bb at *
  show Calls _ _ #[.slice ua l.length ucap, .pointer (some ⟨cB, 0, none⟩), .pointer (some ⟨cF, 0, none⟩)] _ _
  go_enter Tryz.func106, Tryz.ntmps106
  go_wp2_with (go_at_call 107; refine HC.out.mono ?_; rintro e w2 ⟨rfl, hL2⟩; replace hL2 := hide hL2)
  go_ret
  exact ⟨rfl, unhide hL2⟩

end Go.Proofs.YtbohggoeebhdmaaGreatDoor

/- The walks of slices.IndexFunc and slices.DeleteFunc at lists of binds. -/
namespace Go.Proofs.YtbohggoeebhdmaaGreatDoor
open Go.RowKit Go.Sort Go.Maps

theorem OnlyB.setCell {p : Option Nat} {a b : World} (h : OnlyB p a b) {x : Addr} (hx : p = some x.block) (v : Value) : OnlyB p a (b.setCell x v) :=
  ⟨h.os, h.tape, h.output, h.drawn, by simpa [World.setCell] using h.size, fun k hk ho => by
    rw [Below.heap_setCell _ _ _ _ (fun e => ho (by rw [hx, e]))]; exact h.block k hk ho⟩

theorem setCells_only (g : Nat) : ∀ (vs : List Value) (o : Nat) (w : World), OnlyB (some g) w (w.setCells g o vs)
  | [], _, _ => OnlyB.refl _ _
  | v :: r, o, w => ((OnlyB.refl (some g) w).setCell (x := ⟨g, o, none⟩) rfl v).trans (setCells_only g r (o + 1) _)

theorem setCells_row (g : Nat) : ∀ (vs : List Value) (o : Nat) (w : World) (cur : Array Value) (t : TypeId) (fr : Nat × Nat), w.heap[g]? = some (.cells cur t fr) →
    ∃ cur', (w.setCells g o vs).heap[g]? = some (.cells cur' t fr) ∧ cur'.size = cur.size ∧ ∀ q, q < o → cur'[q]? = cur[q]?
  | [], _, w, cur, t, fr, h => ⟨cur, h, rfl, fun _ _ => rfl⟩
  | v :: r, o, w, cur, t, fr, h => by
    obtain ⟨cur', h1, h2, h3⟩ := setCells_row g r (o + 1) (w.setCell ⟨g, o, none⟩ v) (cur.setIfInBounds o v) t fr (set_at h v)
    refine ⟨cur', h1, by rw [h2]; simp, fun q hq => ?_⟩
    rw [h3 q (by omega), Array.getElem?_setIfInBounds_ne (by omega)]

set_option maxHeartbeats 1000000 in
theorem indexL (v : Value) (ls : List (List BindD)) (g : Nat) (cb : Array Value) (eg : ∀ args w, (callFunc g args).run Tryz.prog w = .ok (.enter g args) w) (p : List BindD → Bool) (n : Nat) (w0 w : World) (hd : Dels g cb p n w0) (hw : Below n w0 w) (hn : n ≤ w.heap.size) (hv : listK.sl Anyw w v ls) :
    Calls Tryz.prog 139 #[v, .func (.func g) #[] cb] w fun e w' => ∃ r : Int, e = .returned (.int .i64 r) ∧ ((r = -1 ∧ ∀ l ∈ ls, p l = false) ∨ ∃ k l, r = (k : Nat) ∧ ls[k]? = some l ∧ p l = true ∧ ∀ l ∈ ls.take k, p l = false) ∧ Later w w' := by
  obtain ⟨a, cap, rfl⟩ := Kind.slice hv
  have hl := hv.1.1
  have HV := hide hv
  have HC : Hid (∀ w' u l, Later w w' → bindK.sl Anyw w' u l → Calls Tryz.prog g (#[u] ++ cb) w' fun e w'' => e = .returned (.bool (p l)) ∧ Hid (Later w w'')) := fun w' u l hL hu =>
    (hd w' u l (below_trans hw hL.below hn) hu).mono fun e w'' ⟨he, hL2⟩ => ⟨he, hL.trans hL2⟩
  clear hv hd hw
  go_enter Tryz.func139, Tryz.ntmps139
  go_wp2
  go_loopg [8] ls.length (fun gg i wr => ∃ k : Nat, k + gg = ls.length ∧ i = .int .i64 k ∧ Hid (∀ l ∈ ls.take k, p l = false) ∧ Hid (Later w wr))
  case atStart => exact ⟨0, by omega, rfl, (fun l hl => by simp at hl), Later.refl _⟩
  case round =>
    obtain ⟨k, hk, rfl, HE, HL⟩ := hrel
    by_cases hlt : k < ls.length
    · obtain ⟨l, hx⟩ : ∃ x, ls[k]? = some x := ⟨_, List.getElem?_eq_getElem hlt⟩
      obtain ⟨b1, o1, _, rfl, hb1, ⟨u, rfl, hu⟩, hcl⟩ := Kind.sl_at HV.out hx
      have d0 : wr.cell? ⟨b1, o1 + k, none⟩ = some u := by rw [HL.out.cell hb1]; simpa [slK] using hcl 0 _ rfl
      have hbr : b1 < wr.heap.size := Nat.lt_of_lt_of_le hb1 HL.out.size
      have HCk := hide (HC.out wr u l HL.out (Kind.sl_later hu HL.out))
      obtain ⟨ua, uc, rfl⟩ := Kind.slice hu
      have HX := hide hx
      clear hcl hx hu
      cases hq : p l
      · have HE1 : Hid (∀ l ∈ ls.take (k + 1), p l = false) := fun x hx' => by
          rw [List.take_add_one, HX.out] at hx'
          rcases List.mem_append.1 hx' with h | h
          · exact HE.out x h
          · simp at h; rw [h]; exact hq
        rw [hq] at HCk
        clear hq HE
        go_wp2_with fail
        refine HCk.out.mono ?_
        rintro e w2 ⟨rfl, hL2⟩
        go_wp2
        go_roundg (ls.length - (k + 1))
        case measure => omega
        case rel => exact ⟨k + 1, by omega, by go_num, HE1, hL2⟩
      · have HQ := hide hq
        rw [hq] at HCk
        clear hq
        go_wp2_with fail
        refine HCk.out.mono ?_
        rintro e w2 ⟨rfl, hL2⟩
        go_wp2
        go_ret
        exact ⟨_, rfl, Or.inr ⟨k, l, rfl, HX.out, HQ.out, HE.out⟩, hL2.out⟩
    · have HE1 : Hid (∀ l ∈ ls, p l = false) := by
        have := HE.out
        rw [List.take_of_length_le (by omega)] at this
        exact this
      go_wp2
      go_ret
      exact ⟨_, rfl, Or.inl ⟨rfl, HE1.out⟩, HL.out⟩

theorem zeroBinds : ∀ w, (zeroValue 58).run Tryz.prog w = .ok (.slice none 0 0) w := Tryz.zeroValue58

/-- Those that are kept. -/
def keptL (p : List BindD → Bool) (ps : List (Value × List BindD)) : List (Value × List BindD) := ps.filter fun q => !p q.2

theorem keptL_step {p : List BindD → Bool} {ps : List (Value × List BindD)} {j : Nat} {q : Value × List BindD} (h : ps[j]? = some q) : keptL p (ps.take (j + 1)) = if p q.2 then keptL p (ps.take j) else keptL p (ps.take j) ++ [q] := by
  unfold keptL
  rw [List.take_add_one, h, List.filter_append]
  cases e : p q.2 <;> simp [e]

theorem keptL_le (p : List BindD → Bool) (ps : List (Value × List BindD)) (j : Nat) : (keptL p (ps.take j)).length ≤ j := by
  have := List.length_filter_le (fun q : Value × List BindD => !p q.2) (ps.take j)
  rw [List.length_take] at this
  unfold keptL
  omega

set_option maxRecDepth 100000 in
set_option maxHeartbeats 4000000 in
theorem deleteC (v : Value) (ps : List (Value × List BindD)) (g : Nat) (cb : Array Value) (eg : ∀ args w, (callFunc g args).run Tryz.prog w = .ok (.enter g args) w) (p : List BindD → Bool) (n lo : Nat) (w0 w : World) (hd : Dels g cb p n w0) (hw : Below n w0 w) (hn : n ≤ lo) (hlo : lo ≤ w.heap.size) (hv : Lists 58 147 lo w v ps) (hl : ps.length ≤ 20000) (hs : ∀ q ∈ ps, q.2.length ≤ 20) :
    Calls Tryz.prog 105 #[v, .func (.func g) #[] cb] w fun e w' => ∃ v', e = .returned v' ∧ Lists 58 147 lo w' v' (keptL p ps) ∧ v'.ownBlock = v.ownBlock ∧ OnlyB v.ownBlock w w' := by
  have HI := hide (indexL v (ps.map (·.2)) g cb eg p n w0 w hd hw (by omega) (Kind.sl_any (hv.sl (by omega) fun q hq => by have := hs q hq; omega)))
  obtain ⟨a, cap, rfl⟩ := hv.slice
  have HV := hide hv
  have HD : Hid (∀ w' u l, OnlyB (Value.slice a ps.length cap).ownBlock w w' → bindK.sl Anyw w' u l → Calls Tryz.prog g (#[u] ++ cb) w' fun e w'' => e = .returned (.bool (p l)) ∧ Later w' w'') := fun w' u l hO hu => by
    refine hd w' u l (below_trans hw ⟨hO.os, hO.tape, hO.output, hO.size, fun k hk => hO.block k (by omega) fun e => ?_⟩ (Nat.le_refl _)) hu
    have := hv.lo_le k e
    omega
  have HS := hide hs
  clear hv hd hw hs
  go_enter Tryz.func105, Tryz.ntmps105
  go_wp2_with fail
  refine HI.out.mono ?_
  rintro e w1 ⟨r, rfl, h, hL1⟩
  have HL1 := hide hL1
  clear HI hL1
  rcases h with ⟨rfl, h⟩ | ⟨k0, l0, rfl, hk0, hp0, hbe⟩
  · have HK : Hid (keptL p ps = ps) := by
      show _ = _
      unfold keptL
      rw [List.filter_eq_self]
      intro q hq
      rw [h q.2 (List.mem_map.2 ⟨q, hq, rfl⟩)]; rfl
    clear h
    go_wp2
    go_ret
    exact ⟨_, rfl, by rw [HK.out]; exact HV.out.later HL1.out, rfl, OnlyB.of_later HL1.out⟩
  · have hk0l : k0 < ps.length := by simpa using (List.getElem?_eq_some_iff.1 hk0).1
    obtain ⟨q0, hq0⟩ : ∃ q, ps[k0]? = some q := ⟨_, List.getElem?_eq_getElem hk0l⟩
    have hq02 : q0.2 = l0 := by
      rw [List.getElem?_map, hq0] at hk0
      simpa using hk0
    have HKs : Hid (keptL p (ps.take (k0 + 1)) = ps.take k0) := by
      show _ = _
      rw [keptL_step hq0, hq02, hp0, if_pos rfl]
      unfold keptL
      rw [List.filter_eq_self]
      intro q hq
      rw [hbe q.2 (by rw [← List.map_take]; exact List.mem_map.2 ⟨q, hq, rfl⟩)]; rfl
    obtain ⟨ho, hpw⟩ := HV.out
    rcases ho.2 with ⟨e, e'⟩ | ⟨gb, cap', cur, e, hbg, hg, hnc, hcm, hcs, htk⟩
    · omega
    · simp only [Value.slice.injEq] at e
      obtain ⟨rfl, _, rfl⟩ := e
      have hgl : gb < w.heap.size := (Array.getElem?_eq_some_iff.1 hg).1
      have hne1 : ((k0 : Int) == -1) = false := beq_eq_false_iff_ne.2 (by omega)
      have HPW := hide hpw
      have hcur : ∀ q, q < ps.length → cur[q]? = some ((ps.map (·.1))[q]?.getD (.slice none 0 0)) := fun q hq => by
        have e1 : (cur.toList.take (ps.length * 1))[q]? = (ps.map (·.1))[q]? := by rw [htk]
        rw [List.getElem?_take, if_pos (by omega)] at e1
        rw [← Array.getElem?_toList, e1, List.getElem?_eq_getElem (by simpa using hq)]; rfl
      have HCur := hide hcur
      have HG := hide hg
      have HCS := hide hcs
      clear hk0 hp0 hbe hq0 hq02 ho hpw hg hcs htk hcur
      go_wp2
      go_loopg [5, 6, 7] ps.length (fun gg s5 s6 _ wr => ∃ (i j : Nat) (cr : Array Value), s5 = .int .i64 i ∧ s6 = .int .i64 j ∧ (ps.length ≤ j + gg ∧ j ≤ ps.length) ∧ i < j ∧ Hid (i = (keptL p (ps.take j)).length) ∧ Hid (wr.heap[gb]? = some (.cells cr 58 (0, 0))) ∧ Hid (cr.size = cap) ∧
        Hid (∀ q, q < i → cr[q]? = some (((keptL p (ps.take j)).map (·.1))[q]?.getD (.slice none 0 0))) ∧ Hid (∀ q, j ≤ q → q < ps.length → cr[q]? = some ((ps.map (·.1))[q]?.getD (.slice none 0 0))) ∧ Hid (OnlyB (some gb) w wr))
      case atStart =>
        refine ⟨k0, k0 + 1, cur, rfl, by go_num, by omega, by omega, ?_, ((HL1.out.block hgl).trans HG.out : _ = _), (by rw [HCS.out]; omega : _ = _), ?_, (fun q _ hq => HCur.out q hq), OnlyB.of_later HL1.out⟩
        · show _ = _
          rw [HKs.out, List.length_take]; omega
        · intro q hq
          rw [HKs.out, List.map_take, List.getElem?_take, if_pos hq]
          exact HCur.out q (by omega)
      case round =>
        clear HL1 HKs HG HCS HCur
        obtain ⟨i, j, cr, rfl, rfl, hj, hij, HI, HB, HZ, HLo, HHi, HO⟩ := hrel
        have hcr := HZ.out
        have hgr : gb < wr.heap.size := Nat.lt_of_lt_of_le hgl HO.out.size
        have ownr : ∀ q ∈ ps, bindK.own 147 lo wr q.1 q.2 := fun q hq => own_block (HPW.out.1 q hq).1 fun k e => HO.out.block k (Kind.own_lt (HPW.out.1 q hq).1 e).2 (fun e' => (HPW.out.1 q hq).2 k e e')
        have HOw := hide ownr
        clear ownr
        by_cases hlt : j < ps.length
        · obtain ⟨q, hq⟩ : ∃ q, ps[j]? = some q := ⟨_, List.getElem?_eq_getElem hlt⟩
          have hqm := List.mem_of_getElem? hq
          have hcj : cr[j]? = some q.1 := by
            rw [HHi.out j (Nat.le_refl _) hlt, List.getElem?_map, hq]; rfl
          have hci : ∃ old, cr[i]? = some old := ⟨_, Array.getElem?_eq_getElem (by omega)⟩
          obtain ⟨old, hci⟩ := hci
          have cj : wr.cell? ⟨gb, j, none⟩ = some q.1 := by rw [cell_of_row _ _ _ _ _ _ HB.out]; exact hcj
          have HSt := hide (keptL_step (p := p) hq)
          have HCl := hide (HD.out wr q.1 q.2 HO.out (Kind.sl_any (Kind.own_sl (HOw.out q hqm) (by have := HS.out q hqm; omega))))
          obtain ⟨ua, un, uc, hqu⟩ : ∃ a n c, q.1 = .slice a n c := by obtain ⟨a, c, e⟩ := Kind.own_slice (HOw.out q hqm); exact ⟨a, _, c, e⟩
          rw [hqu] at cj HCl hcj
          have HQ1 := hide hqu
          have HCI := hide hci
          have HQ := hide hq
          have hltz : (j : Int) < (ps.length : Int) := by omega
          clear hq hqm hqu hcj hci
          cases hpq : p q.2
          · rw [hpq] at HCl HSt
            have HSt1 : Hid (keptL p (ps.take (j + 1)) = keptL p (ps.take j) ++ [q]) := HSt.out
            clear hpq HSt
            go_wp2_with fail
            refine HCl.out.mono ?_
            rintro e w2 ⟨rfl, hL2⟩
            have HB2 := hide ((hL2.block hgr).trans HB.out)
            have ci : w2.cell? ⟨gb, i, none⟩ = some old := by rw [cell_of_row _ _ _ _ _ _ HB2.out]; exact HCI.out
            have fi : w2.frozen? ⟨gb, i, none⟩ = false := frozen_rw i HB2.out
            have hg2 : gb < w2.heap.size := (Array.getElem?_eq_some_iff.1 HB2.out).1
            have HO2 := hide (HO.out.trans (OnlyB.of_later hL2))
            have hiz : (i : Int) < (ps.length : Int) := by omega
            clear hL2 HCl
            go_wp2
            go_roundg (ps.length - (j + 1))
            case measure => omega
            case rel =>
              refine ⟨i + 1, j + 1, cr.setIfInBounds i (.slice ua un uc), by go_num, by go_num, by omega, by omega, ?_, (set_at HB2.out _ : _ = _), (by simpa using hcr : _ = _), ?_, ?_, (HO2.out.setCell (x := ⟨gb, i, none⟩) rfl _ : OnlyB _ _ _)⟩
              · show _ = _
                rw [HSt1.out, List.length_append, ← HI.out]; rfl
              · intro t ht
                rw [HSt1.out, List.map_append]
                by_cases hti : t = i
                · subst hti
                  rw [Array.getElem?_setIfInBounds_self_of_lt (by omega), List.getElem?_append_right (by rw [List.length_map, ← HI.out]; omega), List.length_map, ← HI.out, Nat.sub_self]
                  simp [HQ1.out]
                · rw [Array.getElem?_setIfInBounds_ne (by omega), HLo.out t (by omega), List.getElem?_append_left (by rw [List.length_map, ← HI.out]; omega)]
              · intro t h1 h2
                rw [Array.getElem?_setIfInBounds_ne (by omega)]
                exact HHi.out t (by omega) h2
          · rw [hpq] at HCl HSt
            have HSt1 : Hid (keptL p (ps.take (j + 1)) = keptL p (ps.take j)) := HSt.out
            clear hpq HSt
            go_wp2_with fail
            refine HCl.out.mono ?_
            rintro e w2 ⟨rfl, hL2⟩
            have HB2 := hide ((hL2.block hgr).trans HB.out)
            have HO2 := hide (HO.out.trans (OnlyB.of_later hL2))
            clear hL2 HCl
            go_wp2
            go_roundg (ps.length - (j + 1))
            case measure => omega
            case rel =>
              refine ⟨i, j + 1, cr, rfl, by go_num, by omega, by omega, ?_, HB2, HZ, ?_, (fun t h1 h2 => HHi.out t (by omega) h2), HO2⟩
              · show _ = _
                rw [HSt1.out]; exact HI.out
              · show ∀ t, _
                rw [HSt1.out]; exact HLo.out
        · obtain rfl : j = ps.length := by omega
          have hltz : ¬ (ps.length : Int) < (ps.length : Int) := by omega
          have hcl : ∀ ty, (Builtin.clear_ #[55] ty #[.slice (some ⟨gb, i, none⟩) (ps.length - i) (cap - i)]).run Tryz.prog wr = .ok (.tuple #[]) (wr.setCells gb i (List.replicate (ps.length - i) (.slice none 0 0))) := fun ty =>
            Lib.run_clear_slice wr _ _ ty _ Tryz.underlying55 zeroBinds rfl rfl gb i _ _ (by omega) (fun t ht => by rw [cell_of_row _ _ _ _ _ _ HB.out, Array.getElem?_eq_getElem (by omega)]; rfl) (fun t ht => frozen_rw _ HB.out)
          have hiz : (i : Int) ≤ (ps.length : Int) := by omega
          have hic : (i : Int) ≤ (cap : Int) := by omega
          have hicn : ¬ cap = i := by omega
          have hpz : (ps.length : Int) ≤ (cap : Int) := by omega
          go_wp2
          go_ret
          obtain ⟨cr', h1, h2, h3⟩ := setCells_row gb (List.replicate (ps.length - i) (.slice none 0 0)) i wr cr _ _ HB.out
          have hO2 := HO.out.trans (setCells_only gb (List.replicate (ps.length - i) (.slice none 0 0)) i wr)
          have hk : keptL p (ps.take ps.length) = keptL p ps := by rw [List.take_length]
          have hil : i = (keptL p ps).length := by rw [← hk]; exact HI.out
          refine ⟨.slice (some ⟨gb, 0, none⟩) i cap, rfl, ⟨?_, fun q hq => ?_, ?_⟩, rfl, hO2⟩
          · rw [← hil]
            refine ⟨by rw [List.length_map, ← hil]; omega, Or.inr ⟨gb, cap, cr', rfl, hbg, h1, by omega, hcm, by rw [h2]; omega, ?_⟩⟩
            apply List.ext_getElem?
            intro t
            rw [Nat.mul_one, List.getElem?_take]
            by_cases ht : t < i
            · rw [if_pos ht, Array.getElem?_toList, h3 t ht, HLo.out t ht, hk, List.getElem?_eq_getElem (by rw [List.length_map, ← hil]; exact ht)]; rfl
            · rw [if_neg ht, List.getElem?_eq_none (by rw [List.length_map, ← hil]; omega)]
          · have hqm : q ∈ ps := (List.mem_filter.1 hq).1
            exact ⟨own_block (HPW.out.1 q hqm).1 fun k e => hO2.block k (Kind.own_lt (HPW.out.1 q hqm).1 e).2 (fun e' => (HPW.out.1 q hqm).2 k e e'), (HPW.out.1 q hqm).2⟩
          · exact HPW.out.2.filter _

end Go.Proofs.YtbohggoeebhdmaaGreatDoor

/- The walk of fact.Set. -/
namespace Go.Proofs.YtbohggoeebhdmaaGreatDoor
open Go.RowKit Go.Sort

/-- The first fault from fact k on: what, and at which. -/
def faultFrom (l : List FactD) : Nat → Nat → Int × Int
  | 0, _ => (0, 0)
  | n + 1, k => if wrongF (l.getD k noFact) ≠ 0 then (wrongF (l.getD k noFact), k) else if 0 < k ∧ 0 ≤ cmpF (l.getD (k - 1) noFact) (l.getD k noFact) then (2, k) else faultFrom l n (k + 1)

def setFault (l : List FactD) : Int × Int := if 200 < l.length then (5, 0) else faultFrom l l.length 0

theorem faultFrom_step (l : List FactD) {k : Nat} (h : k < l.length) : faultFrom l (l.length - k) k =
    if wrongF (l.getD k noFact) ≠ 0 then (wrongF (l.getD k noFact), (k : Int)) else if 0 < k ∧ 0 ≤ cmpF (l.getD (k - 1) noFact) (l.getD k noFact) then (2, (k : Int)) else faultFrom l (l.length - (k + 1)) (k + 1) := by
  obtain ⟨n, hn⟩ : ∃ n, l.length - k = n + 1 := ⟨l.length - k - 1, by omega⟩
  rw [hn, show l.length - (k + 1) = n by omega]
  rfl

theorem wrap_nat (j : Nat) (h : j ≤ 3518437208883) : IntKind.i64.wrap (j : Int) = (j : Int) := by
  simp [IntKind.wrap, IntKind.bits, IntKind.signed]; omega

theorem fault_cells {w : World} {R : Nat} {u0 u1 : Value} {t : TypeId} {fr : Nat × Nat} (h : w.heap[R]? = some (.cells #[u0, u1] t fr)) (x y : Value) :
    ((w.setCell ⟨R, 0, none⟩ x).setCell ⟨R, 1, none⟩ y).cell? ⟨R, 0, none⟩ = some x ∧ ((w.setCell ⟨R, 0, none⟩ x).setCell ⟨R, 1, none⟩ y).cell? ⟨R, 1, none⟩ = some y := by
  have h2 := heap_setCell_at (j := 1) (heap_setCell_at (j := 0) h x) y
  exact ⟨by rw [cell_of_row _ _ _ _ _ _ h2]; rfl, by rw [cell_of_row _ _ _ _ _ _ h2]; rfl⟩

theorem ret_fault {a b c d : Int} (h : (a, b) = (c, d)) : Ending.returned (.agg #[.int .i64 a, .int .i64 b]) = .returned (.agg #[.int .i64 c, .int .i64 d]) := by
  cases h; rfl

set_option maxHeartbeats 2000000 in
theorem setC (v : Value) (l : List FactD) (w : World) (hf : Facts w v l) :
    Calls Tryz.prog 24 #[v] w fun e w' => e = .returned (.agg #[.int .i64 (setFault l).1, .int .i64 (setFault l).2]) ∧ Later w w' := by
  have mx := mixed
  have HF := hide hf
  obtain ⟨a, cap, rfl, hn, hz⟩ := hf.addr
  clear hf
  by_cases hbig : 200 < l.length
  · have e : setFault l = (5, 0) := by unfold setFault; rw [if_pos hbig]
    rw [e]
    go_enter Tryz.func24, Tryz.ntmps24
    go_wp2
    exact bodyPost_ret (v := .agg #[.int .i64 5, .int .i64 0]) (by simp [results, Tryz.results24, go_sem]) rfl ⟨rfl, (by repeat (first | exact Later.refl _ | assumption | refine Later.drewN ?_ _ | refine Later.drew ?_ | refine Later.alloc ?_ _ | refine Later.grow ?_ _))⟩
  · have e : setFault l = faultFrom l l.length 0 := by unfold setFault; rw [if_neg hbig]
    rw [e]
    clear e
    go_enter Tryz.func24, Tryz.ntmps24
    go_wp2
    go_loopw [12] (fun i wr => ∃ k : Nat, k ≤ l.length ∧ i = .int .i64 k ∧ Later (w.alloc (.cells #[.int .i64 0, .int .i64 0] 27)) wr ∧ Hid (faultFrom l l.length 0 = faultFrom l (l.length - k) k)) (fun i _ => l.length - (intOf i).toNat)
    case atStart => exact ⟨0, by omega, rfl, Later.refl _, (rfl : _ = _)⟩
    case round =>
      obtain ⟨k, hk, rfl, hL, HE⟩ := hrel
      have hL0 : Later w wr := ((Later.refl _).alloc _).trans hL
      have hsz : w.heap.size < wr.heap.size := by have := hL.size; simp at this; omega
      by_cases hlt : k < l.length
      · rcases hz with rfl | ⟨b, off, rfl⟩
        · simp at hlt
        have hltz : (k : Int) < (l.length : Int) := by omega
        obtain ⟨hb, ax, lx, cx, g1, g2, fx⟩ := (HF.out.later hL0).at hlt
        have hst := faultFrom_step l hlt
        have HWr : Hid (∀ w', Later wr w' → Calls Tryz.prog 55 #[.agg #[.string (l.getD k noFact).1, .slice ax lx cx]] w' fun e w'' => e = .returned (.int .i64 (wrongF (l.getD k noFact))) ∧ Later w' w'') :=
          fun w' hw => wrong _ _ w' (fx.later hw)
        have FX := hide fx
        clear fx
        by_cases hwz : wrongF (l.getD k noFact) = 0
        · rw [if_neg (by omega)] at hst
          rw [hwz] at HWr
          by_cases hk0 : k = 0
          · have F : Hid (faultFrom l l.length 0 = faultFrom l (l.length - (k + 1)) (k + 1)) := by show _ = _; rw [HE.out, hst, if_neg (by omega)]
            have hd : decide (0 < k) = false := by rw [decide_eq_false_iff_not]; omega
            clear hk0
            generalize (l.getD k noFact).1 = nk at *
            clear hst
            go_wp2_with fail
            refine (HWr.out _ ((Later.refl _).alloc _)).mono ?_
            rintro e w1 ⟨rfl, hL1⟩
            go_wp2
            go_quiet (fail)
            go_wp2
            go_roundw
            case rel => exact ⟨k + 1, by omega, by go_num, (hL.trans (((Later.refl _).alloc _).trans hL1)).drewN _, F⟩
            case measure => simp [intOf]; omega
          · obtain ⟨j, rfl⟩ : ∃ j, k = j + 1 := ⟨k - 1, by omega⟩
            rw [Nat.add_sub_cancel] at hst
            have hjl : j < l.length := by omega
            have hjz : (j : Int) < (l.length : Int) := by omega
            have hd : (0 : Int) < (j : Int) + 1 := by omega
            have hwj : IntKind.i64.wrap (j : Int) = (j : Int) := wrap_nat j (by omega)
            generalize hfk : l.getD (j + 1) noFact = f at *
            have HFK := hide hfk
            clear hfk
            obtain ⟨nk, lk⟩ := f
            dsimp only at *
            go_wp2_with fail
            refine (HWr.out _ ((Later.refl _).alloc _)).mono ?_
            rintro e w1 ⟨rfl, hL1⟩
            have hLR : Later (w.alloc (.cells #[.int .i64 0, .int .i64 0] 27)) w1 := hL.trans (((Later.refl _).alloc _).trans hL1)
            have hL01 : Later w w1 := ((Later.refl _).alloc _).trans hLR
            have hR : w1.heap[w.heap.size]? = some (.cells #[.int .i64 0, .int .i64 0] 27 (0, 0)) := by rw [hLR.block (by simp), heap_alloc_new]
            have q0 : w1.cell? ⟨w.heap.size, 0, none⟩ = some (.int .i64 0) := by rw [cell_of_row _ _ _ _ _ _ hR]; rfl
            have q1 : w1.cell? ⟨w.heap.size, 1, none⟩ = some (.int .i64 0) := by rw [cell_of_row _ _ _ _ _ _ hR]; rfl
            have p0 : w1.frozen? ⟨w.heap.size, 0, none⟩ = false := frozen_of_row 0 hR
            have p1 : w1.frozen? ⟨w.heap.size, 1, none⟩ = false := frozen_of_row 1 hR
            have HRR := hide hR
            clear hR
            have hLw : Later wr w1 := ((Later.refl _).alloc _).trans hL1
            obtain ⟨ay, ly, cy, y1, y2, fy⟩ := (HF.out.later hL01).grown hjl
            have b0 := cell_later hL1 (p := ⟨wr.heap.size, 0, none⟩) (v := .string nk) (by simp) (by simp)
            have b1 := cell_later hL1 (p := ⟨wr.heap.size, 1, none⟩) (v := .slice ax lx cx) (by simp) (by simp)
            have hC : ∀ q os, Calls Tryz.prog 30 #[.agg #[.string (l.getD j noFact).1, .slice ay ly cy], .agg #[.string nk, .slice ax lx cx]] (grow (w1.drewN q) os) fun e w'' => e = .returned (.int .i64 (cmpF (l.getD j noFact) (nk, lk))) ∧ Later (grow (w1.drewN q) os) w'' :=
              fun q os => compareF _ _ _ _ _ (fy.later ⟨q, os, rfl⟩) ((FX.out.later hLw).later ⟨q, os, rfl⟩)
            have HC := hide hC
            clear hC fy
            generalize cmpF (l.getD j noFact) (nk, lk) = cm at *
            generalize (l.getD j noFact).1 = nj at *
            by_cases hcm : 0 ≤ cm
            · have F : Hid (faultFrom l l.length 0 = (2, ((j + 1 : Nat) : Int))) := by show _ = _; rw [HE.out, hst, if_pos ⟨by omega, hcm⟩]
              clear hst
              go_wp2
              go_quiet_grown ((go_at_call 30; exact Calls.grown_of (HC.out _ _)))
              dsimp only
              have hLW : Later w1 (grow (w1.drewN nq) osq) := ⟨_, _, rfl⟩
              generalize grow (w1.drewN nq) osq = w2 at hLW ⊢
              have hR : w2.heap[w.heap.size]? = some (.cells #[.int .i64 0, .int .i64 0] 27 (0, 0)) := by rw [hLW.block (by have := hLw.size; omega)]; exact HRR.out
              have q0 : w2.cell? ⟨w.heap.size, 0, none⟩ = some (.int .i64 0) := by rw [cell_of_row _ _ _ _ _ _ hR]; rfl
              have q1 : w2.cell? ⟨w.heap.size, 1, none⟩ = some (.int .i64 0) := by rw [cell_of_row _ _ _ _ _ _ hR]; rfl
              have p0 : w2.frozen? ⟨w.heap.size, 0, none⟩ = false := frozen_of_row 0 hR
              have p1 : w2.frozen? ⟨w.heap.size, 1, none⟩ = false := frozen_of_row 1 hR
              have HR2 := hide hR
              clear hR
              go_wp2
              obtain ⟨r0, r1⟩ := fault_cells HR2.out (.int .i64 2) (.int .i64 ((j : Int) + 1))
              refine bodyPost_ret (v := .agg #[.int .i64 2, .int .i64 ((j : Int) + 1)]) (by simp [results, Tryz.results24, go_sem, r0, r1]) rfl ⟨ret_fault (by rw [F.out]; simp), ?_⟩
              exact ((hL01.trans hLW).setCell (Nat.le_refl _) _).setCell (Nat.le_refl _) _
            · have F : Hid (faultFrom l l.length 0 = faultFrom l (l.length - (j + 1 + 1)) (j + 1 + 1)) := by show _ = _; rw [HE.out, hst, if_neg (fun h => hcm h.2)]
              clear hst
              go_wp2
              go_quiet_grown ((go_at_call 30; exact Calls.grown_of (HC.out _ _)))
              go_wp2
              go_roundw
              case rel => exact ⟨j + 1 + 1, by omega, by go_num, hLR.trans ⟨_, _, rfl⟩, F⟩
              case measure => simp [intOf]; omega
        · have F : Hid (faultFrom l l.length 0 = (wrongF (l.getD k noFact), (k : Int))) := by show _ = _; rw [HE.out, hst, if_pos hwz]
          have hwz' : (wrongF (l.getD k noFact) == 0) = false := by simpa using hwz
          generalize wrongF (l.getD k noFact) = we at *
          generalize (l.getD k noFact).1 = nk at *
          clear hst
          go_wp2_with fail
          refine (HWr.out _ ((Later.refl _).alloc _)).mono ?_
          rintro e w1 ⟨rfl, hL1⟩
          have hLR : Later (w.alloc (.cells #[.int .i64 0, .int .i64 0] 27)) w1 := hL.trans (((Later.refl _).alloc _).trans hL1)
          have hL01 : Later w w1 := ((Later.refl _).alloc _).trans hLR
          have hR : w1.heap[w.heap.size]? = some (.cells #[.int .i64 0, .int .i64 0] 27 (0, 0)) := by rw [hLR.block (by simp), heap_alloc_new]
          have q0 : w1.cell? ⟨w.heap.size, 0, none⟩ = some (.int .i64 0) := by rw [cell_of_row _ _ _ _ _ _ hR]; rfl
          have q1 : w1.cell? ⟨w.heap.size, 1, none⟩ = some (.int .i64 0) := by rw [cell_of_row _ _ _ _ _ _ hR]; rfl
          have p0 : w1.frozen? ⟨w.heap.size, 0, none⟩ = false := frozen_of_row 0 hR
          have p1 : w1.frozen? ⟨w.heap.size, 1, none⟩ = false := frozen_of_row 1 hR
          have HRR := hide hR
          clear hR
          go_wp2
          obtain ⟨r0, r1⟩ := fault_cells HRR.out (.int .i64 we) (.int .i64 k)
          refine bodyPost_ret (v := .agg #[.int .i64 we, .int .i64 k]) (by simp [results, Tryz.results24, go_sem, r0, r1]) rfl ⟨ret_fault (by rw [F.out]), ?_⟩
          exact (hL01.setCell (Nat.le_refl _) _).setCell (Nat.le_refl _) _
      · have F : Hid (faultFrom l l.length 0 = (0, 0)) := by show _ = _; rw [HE.out, show l.length - k = 0 by omega]; rfl
        have q0 : wr.cell? ⟨w.heap.size, 0, none⟩ = some (.int .i64 0) := by rw [hL.cell (by simp)]; simp
        have q1 : wr.cell? ⟨w.heap.size, 1, none⟩ = some (.int .i64 0) := by rw [hL.cell (by simp)]; simp
        have p0 : wr.frozen? ⟨w.heap.size, 0, none⟩ = false := by rw [hL.frozen (by simp)]; simp
        have p1 : wr.frozen? ⟨w.heap.size, 1, none⟩ = false := by rw [hL.frozen (by simp)]; simp
        go_wp2
        have hR : wr.heap[w.heap.size]? = some (.cells #[.int .i64 0, .int .i64 0] 27 (0, 0)) := by rw [hL.block (by simp), heap_alloc_new]
        obtain ⟨r0, r1⟩ := fault_cells hR (.int .i64 0) (.int .i64 0)
        refine bodyPost_ret (v := .agg #[.int .i64 0, .int .i64 0]) (by simp [results, Tryz.results24, go_sem, r0, r1]) rfl ⟨ret_fault (by rw [F.out]), ?_⟩
        exact (hL0.setCell (Nat.le_refl _) _).setCell (Nat.le_refl _) _

end Go.Proofs.YtbohggoeebhdmaaGreatDoor

/- The walks of match.risen, match.wrong, match.With and match.All. -/
namespace Go.Proofs.YtbohggoeebhdmaaGreatDoor
open Go.RowKit Go.Sort Go.Maps

theorem faultFrom_zero (l : List FactD) : ∀ (n k : Nat), (faultFrom l n k).1 = 0 → ∀ i, k ≤ i → i < k + n → wrongF (l.getD i noFact) = 0 ∧ (0 < i → cmpF (l.getD (i - 1) noFact) (l.getD i noFact) < 0)
  | 0, k, _, i, h1, h2 => by omega
  | n + 1, k, h, i, h1, h2 => by
    simp only [faultFrom] at h
    split at h
    · rename_i hw; exact absurd h hw
    · rename_i hw
      split at h
      · cases h
      · rename_i hc
        by_cases e : i = k
        · subst e
          refine ⟨Classical.byContradiction hw, fun h0 => ?_⟩
          exact Classical.byContradiction fun hn => hc ⟨h0, by omega⟩
        · exact faultFrom_zero l n (k + 1) h i (by omega) (by omega)

theorem rises_of {l : List FactD} (h : ∀ i, 0 < i → i < l.length → cmpF (l.getD (i - 1) noFact) (l.getD i noFact) < 0) : Rises l := by
  have key : ∀ (d i : Nat), i + d + 1 < l.length → cmpF (l.getD i noFact) (l.getD (i + d + 1) noFact) < 0 := by
    intro d
    induction d with
    | zero => intro i hi; have := h (i + 1) (by omega) (by omega); simpa using this
    | succ d ih =>
      intro i hi
      have h1 := ih i (by omega)
      have h2 := h (i + (d + 1) + 1) (by omega) hi
      have e : i + (d + 1) + 1 - 1 = i + d + 1 := by omega
      rw [e] at h2
      exact three_cmpF.trans _ _ _ h1 h2
  unfold Rises
  rw [List.pairwise_iff_getElem]
  intro i j hi hj hij
  have := key (j - i - 1) i (by omega)
  rw [show i + (j - i - 1) + 1 = j by omega] at this
  rw [List.getD_eq_getElem?_getD, List.getD_eq_getElem?_getD, List.getElem?_eq_getElem hi, List.getElem?_eq_getElem hj] at this
  exact this

/-- A set with which nothing is wrong. -/
theorem set_right {l : List FactD} (h : (setFault l).1 = 0) : l.length ≤ 200 ∧ Rises l ∧ ∀ f ∈ l, wrongF f = 0 := by
  unfold setFault at h
  split at h
  · simp at h
  · rename_i hl
    have hz := faultFrom_zero l l.length 0 h
    refine ⟨by omega, rises_of fun i h0 hi => (hz i (Nat.zero_le _) (by omega)).2 h0, fun f hf => ?_⟩
    obtain ⟨i, hi, e⟩ := List.getElem_of_mem hf
    have := (hz i (Nat.zero_le _) (by omega)).1
    rw [List.getD_eq_getElem?_getD, List.getElem?_eq_getElem hi] at this
    rw [← e]; exact this

theorem rises_nodup {l : List FactD} (h : Rises l) : l.Nodup := h.imp fun {a b} h1 e => by subst e; exact lt_irrefl h1

theorem row_block {lo : Nat} {ty : TypeId} {w w' : World} {v : Value} {n : Nat} {xs : List Value} (h : w.ownsRow lo ty 1 v n xs) (hk : ∀ k, v.ownBlock = some k → w'.heap[k]? = w.heap[k]?) : w'.ownsRow lo ty 1 v n xs := by
  refine ⟨h.1, ?_⟩
  rcases h.2 with e | ⟨g, cap, cur, rfl, hbg, hg, r⟩
  · exact Or.inl e
  · exact Or.inr ⟨g, cap, cur, rfl, hbg, by rw [hk g rfl]; exact hg, r⟩

set_option maxRecDepth 100000 in
set_option maxHeartbeats 2000000 in
theorem risenC (v : Value) (ps : List (Value × List BindD)) (lo : Nat) (w0 w : World) (h0 : Later w0 w) (hlo : w0.heap.size ≤ lo) (hv : Lists 58 147 lo w v ps) (hl : ps.length ≤ 20000) (hs : ∀ q ∈ ps, q.2.length ≤ 20) :
    Calls Tryz.prog 108 #[v] w fun e w' => e = .returned v ∧ listK.sl Anyw w' v (sortBy cmpBs (ps.map fun q => sortB q.2)) ∧ Later w0 w' := by
  obtain ⟨a, cap, rfl⟩ := hv.slice
  have hvl := fun k e => hv.lo_le k e
  obtain ⟨ho, hp, hpw⟩ := hv
  have HR := hide ho
  have HA : Hid (∀ q ∈ ps, apart q.1 (.slice a ps.length cap)) := fun q hq => (hp q hq).2
  have HOw : Hid (∀ q ∈ ps.drop 0, bindK.own 147 lo w q.1 q.2) := fun q hq => (hp q (by simpa using hq)).1
  have HPW := hide hpw
  have HS := hide hs
  have H0 := hide h0
  have HVL := hide hvl
  clear ho hp hpw hs h0 hvl
  go_enter Tryz.func108, Tryz.ntmps108
  go_wp2
  go_loopg [7] ps.length (fun gg i wr => ∃ j : Nat, j + gg = ps.length ∧ i = .int .i64 j ∧ Hid (wr.ownsRow lo 58 1 (.slice a ps.length cap) ps.length (ps.map (·.1))) ∧ Hid (∀ q ∈ ps.take j, bindK.sl (ofBlock q.1) wr q.1 (sortB q.2)) ∧ Hid (∀ q ∈ ps.drop j, bindK.own 147 lo wr q.1 q.2) ∧ Hid (Later w0 wr))
  case atStart => exact ⟨0, by omega, rfl, HR, (fun q hq => by simp at hq), HOw, H0⟩
  case round =>
    clear HR HOw H0
    obtain ⟨j, hj, rfl, HR, HT, HOw, HL⟩ := hrel
    by_cases hlt : j < ps.length
    · obtain ⟨q, hq⟩ : ∃ q, ps[j]? = some q := ⟨_, List.getElem?_eq_getElem hlt⟩
      have hdr : ps.drop j = q :: ps.drop (j + 1) := by
        obtain ⟨h1, e1⟩ := List.getElem?_eq_some_iff.1 hq
        rw [List.drop_eq_getElem_cons h1, e1]
      have hqo : bindK.own 147 lo wr q.1 q.2 := HOw.out q (by rw [hdr]; exact List.mem_cons_self)
      have hqm := List.mem_of_getElem? hq
      obtain ⟨b, hab, hcell, hbl⟩ : ∃ b, a = some ⟨b, 0, none⟩ ∧ wr.cell? ⟨b, j, none⟩ = some q.1 ∧ b < wr.heap.size := by
        rcases HR.out.2 with ⟨e, e'⟩ | ⟨g, cap', cur, e, hbg, hg, _⟩
        · omega
        · simp only [Value.slice.injEq] at e
          obtain ⟨rfl, _, rfl⟩ := e
          have := HR.out.cells (g := g) rfl j q.1 (by rw [List.getElem?_map, hq]; rfl)
          rw [Addr.add_lit, Nat.zero_add] at this
          exact ⟨g, rfl, this, (Array.getElem?_eq_some_iff.1 hg).1⟩
      subst hab
      have HSort := hide (sortBC lo q.1 q.2 wr hqo (by have := HS.out q hqm; omega))
      have hpair : (ps.take j ++ q :: ps.drop (j + 1)).Pairwise fun p q => apart p.1 q.1 := by rw [← hdr, List.take_append_drop]; exact HPW.out
      rw [List.pairwise_append] at hpair
      obtain ⟨_, hp2, hp3⟩ := hpair
      have hafter := (List.pairwise_cons.1 hp2).1
      have HBef : Hid (∀ p ∈ ps.take j, apart p.1 q.1) := fun p hp => hp3 p hp q List.mem_cons_self
      have HAft := hide hafter
      have HQA : Hid (apart q.1 (.slice (some ⟨b, 0, none⟩) ps.length cap)) := HA.out q hqm
      have HQO := hide hqo
      have HDr := hide hdr
      have HQ := hide hq
      obtain ⟨ua, un, uc, hqu⟩ : ∃ a n c, q.1 = .slice a n c := by obtain ⟨a, c, e⟩ := Kind.own_slice hqo; exact ⟨a, _, c, e⟩
      have HQU := hide hqu
      rw [hqu] at hcell HSort
      clear hq hdr hqo hqm hp2 hp3 hafter hqu
      go_wp2_with fail
      refine HSort.out.mono ?_
      rintro e w2 ⟨rfl, hsl, hO⟩
      have HSL : Hid (bindK.sl (ofBlock q.1) w2 q.1 (sortB q.2)) := by rw [HQU.out]; exact hsl
      have hO' : OnlyB q.1.ownBlock wr w2 := by rw [HQU.out]; exact hO
      have HO := hide hO'
      clear hsl hO hO' HSort
      go_wp2
      go_roundg (ps.length - (j + 1))
      case measure => omega
      case rel =>
        refine ⟨j + 1, by omega, by go_num, ?_, ?_, ?_, ?_⟩
        · exact row_block HR.out fun k e => HO.out.block k (HR.out.lt k e).2 (fun e' => HQA.out k e' e)
        · intro p hp
          rw [List.take_add_one, HQ.out] at hp
          rcases List.mem_append.1 hp with h | h
          · exact Kind.sl_kept (HT.out p h) HO.out.size fun k hk hB => HO.out.block k hk (fun e' => HBef.out p h k hB e')
          · simp at h; rw [h]; exact HSL.out
        · intro p hp
          have h1 := HOw.out p (by rw [HDr.out]; exact List.mem_cons_of_mem _ hp)
          exact own_block h1 fun k e => HO.out.block k (Kind.own_lt h1 e).2 (fun e' => HAft.out p hp k e' e)
        · exact HO.out.later HL.out fun k e => by have := (Kind.own_lt HQO.out e).1; omega
    · have e : j = ps.length := by omega
      have HT' : Hid (∀ q ∈ ps, bindK.sl (ofBlock q.1) wr q.1 (sortB q.2)) := by
        have := HT.out
        rw [e, List.take_length] at this
        exact this
      have hm1 : (ps.map fun q => (q.1, sortB q.2)).map (·.1) = ps.map (·.1) := by rw [List.map_map]; rfl
      have hm2 : (ps.map fun q => (q.1, sortB q.2)).map (·.2) = ps.map fun q => sortB q.2 := by rw [List.map_map]; rfl
      have HSort := sortLC lo 58 (.slice a ps.length cap) (ps.map fun q => (q.1, sortB q.2)) wr (by rw [hm1, List.length_map]; exact HR.out) (fun p hp => by
        obtain ⟨q, hq, rfl⟩ := List.mem_map.1 hp
        exact Kind.sl_mono (HT'.out q hq) fun k _ hB e => HA.out q hq k hB e) (by rw [List.length_map]; omega)
      rw [hm2] at HSort
      have HSo := hide HSort
      clear HSort hm1 hm2 e
      go_wp2_with fail
      refine HSo.out.mono ?_
      rintro e w2 ⟨rfl, hsl, hO⟩
      have HSL := hide (Kind.sl_any hsl)
      have HL2 := hide (hO.later HL.out fun k e => by have := HVL.out k e; omega)
      clear hsl hO HSo
      go_wp2
      go_ret
      exact ⟨rfl, HSL.out, HL2.out⟩

set_option maxRecDepth 100000 in
theorem errOf (a b : Int) (w : World) : (Instr.field 27 (.agg #[.int .i64 a, .int .i64 b]) 0).run Tryz.prog w = .ok (.int .i64 a) w := by
  first | kernel_rfl | (simp [Instr.field, run_underlying Tryz.underlying27]) | go_simp

/-- What is wrong with what With is handed. -/
def errW (body : List AtomD) (fs os : List FactD) : Int := if wrongBody body ≠ 0 then wrongBody body else if (setFault fs).1 ≠ 0 then (setFault fs).1 else (setFault os).1

set_option maxRecDepth 100000 in
set_option maxHeartbeats 1000000 in
theorem wrongWC (body : List AtomD) (v fv ov : Value) (fs os : List FactD) (w : World) (hv : atomK.sl Anyw w v body) (hf : Facts w fv fs) (ho : Facts w ov os) :
    Calls Tryz.prog 102 #[v, fv, ov] w fun e w' => e = .returned (.int .i64 (errW body fs os)) ∧ Below w.heap.size w w' := by
  have HB := hide (chkBodyC body v w hv)
  have HF : Hid (∀ w1, Below w.heap.size w w1 → Calls Tryz.prog 24 #[fv] w1 fun e w' => e = .returned (.agg #[.int .i64 (setFault fs).1, .int .i64 (setFault fs).2]) ∧ Hid (Below w.heap.size w w')) := fun w1 h1 =>
    (setC fv fs w1 (hf.below h1)).mono fun e w' ⟨he, hL⟩ => ⟨he, below_trans h1 hL.below h1.size⟩
  have HO : Hid (∀ w1, Below w.heap.size w w1 → Calls Tryz.prog 24 #[ov] w1 fun e w' => e = .returned (.agg #[.int .i64 (setFault os).1, .int .i64 (setFault os).2]) ∧ Hid (Below w.heap.size w w')) := fun w1 h1 =>
    (setC ov os w1 (ho.below h1)).mono fun e w' ⟨he, hL⟩ => ⟨he, below_trans h1 hL.below h1.size⟩
  obtain ⟨a, cap, rfl⟩ := Kind.slice hv
  obtain ⟨fa, fc, rfl⟩ := sliceFacts hf
  obtain ⟨oa, oc, rfl⟩ := sliceFacts ho
  clear hv hf ho
  have E : errW body fs os = if wrongBody body ≠ 0 then wrongBody body else if (setFault fs).1 ≠ 0 then (setFault fs).1 else (setFault os).1 := rfl
  generalize errW body fs os = R at *
  generalize wrongBody body = eb at *
  generalize setFault fs = ef at *
  generalize setFault os = eo at *
  obtain ⟨f1, f2⟩ := ef
  obtain ⟨o1, o2⟩ := eo
  dsimp only at *
  by_cases h0 : eb = 0
  · subst h0
    rw [if_neg (by simp)] at E
    by_cases h1 : f1 = 0
    · subst h1
      rw [if_neg (by simp)] at E
      have HE := hide E
      have hfe := errOf
      clear E
      go_enter Tryz.func102, Tryz.ntmps102
      go_wp2_with fail
      refine HB.out.mono ?_
      rintro e w1 ⟨rfl, hB1⟩
      have H1 := hide (HF.out w1 hB1)
      clear HB HF hB1
      go_wp2_with fail
      refine H1.out.mono ?_
      rintro e w2 ⟨rfl, hB2⟩
      have H2 := hide (HO.out (w2.alloc (.cells #[.int .i64 0, .int .i64 f2] 27)) (hB2.out.alloc hB2.out.size _))
      clear HO H1 hB2
      go_wp2_with fail
      refine H2.out.mono ?_
      rintro e w3 ⟨rfl, hB3⟩
      clear H2
      go_wp2
      go_ret
      exact ⟨by rw [HE.out]; rfl, hB3.out⟩
    · rw [if_pos h1] at E
      have HE := hide E
      have hq : (f1 != 0) = true := by simpa using h1
      clear E h1 HO
      go_enter Tryz.func102, Tryz.ntmps102
      go_wp2_with fail
      refine HB.out.mono ?_
      rintro e w1 ⟨rfl, hB1⟩
      have H1 := hide (HF.out w1 hB1)
      clear HB HF hB1
      go_wp2_with fail
      refine H1.out.mono ?_
      rintro e w2 ⟨rfl, hB2⟩
      clear H1
      go_wp2
      go_ret
      exact ⟨by rw [HE.out]; rfl, hB2.out.alloc hB2.out.size _⟩
  · rw [if_pos h0] at E
    have HE := hide E
    have hq : (eb != 0) = true := by simpa using h0
    clear E h0 HO HF
    go_enter Tryz.func102, Tryz.ntmps102
    go_wp2_with fail
    refine HB.out.mono ?_
    rintro e w1 ⟨rfl, hB1⟩
    have HB1 := hide hB1
    clear HB hB1
    go_wp2
    go_ret
    exact ⟨by rw [HE.out]; rfl, HB1.out⟩

/-- What With tells. -/
def WithT (w : World) (v : Value) (er : Int) (body : List AtomD) (fs : List FactD) (at_ : Int) (os : List FactD) : Prop :=
  if errW body fs os ≠ 0 then v = .slice none 0 0 ∧ er = errW body fs os else match allB (pickB fs at_ os) body with
    | none => v = .slice none 0 0 ∧ er = 4
    | some R => er = 0 ∧ listK.sl Anyw w v R

theorem errW_zero {body : List AtomD} {fs os : List FactD} (h : errW body fs os = 0) : wrongBody body = 0 ∧ (setFault fs).1 = 0 ∧ (setFault os).1 = 0 := by
  unfold errW at h
  split at h
  · rename_i h1; exact absurd h h1
  · rename_i h1
    split at h
    · rename_i h2; exact absurd h h2
    · rename_i h2
      exact ⟨Classical.byContradiction h1, Classical.byContradiction h2, h⟩

theorem wrongAtoms_all : ∀ {l : List AtomD}, wrongAtoms l = 0 → ∀ a ∈ l, wrongAtom a = 0
  | [], _, a, ha => by cases ha
  | b :: l, h, a, ha => by
    unfold wrongAtoms at h
    by_cases hb : wrongAtom b = 0
    · rcases List.mem_cons.1 ha with e | h1
      · rw [e]; exact hb
      · refine wrongAtoms_all ?_ a h1
        simpa [hb] using h
    · simp [hb] at h

theorem body_right {body : List AtomD} (h : wrongBody body = 0) : body.length ≤ 5 ∧ ∀ a ∈ body, wrongAtom a = 0 := by
  unfold wrongBody at h
  split at h
  · simp at h
  · split at h
    · rename_i h5 ha
      exact ⟨by omega, wrongAtoms_all ha⟩
    · rename_i hne; exact absurd h hne

theorem pick_right {fs os : List FactD} {at_ : Int} {P : List FactD → Prop} (h1 : P fs) (h2 : P os) (n : Nat) : P (pickB fs at_ os n) := by
  unfold pickB
  split
  · exact h2
  · exact h1

set_option maxRecDepth 100000 in
set_option maxHeartbeats 2000000 in
theorem withC (body : List AtomD) (v fv ov : Value) (fs os : List FactD) (at_ : Int) (w : World) (hv : atomK.sl Anyw w v body) (hf : Facts w fv fs) (ho : Facts w ov os) :
    Calls Tryz.prog 60 #[v, fv, .int .i64 at_, ov] w fun e w' => ∃ v' er, e = .returned (.tuple #[v', .int .i64 er]) ∧ WithT w' v' er body fs at_ os ∧ Below w.heap.size w w' := by
  obtain ⟨a, cap, hva⟩ := Kind.slice hv
  have HW : Hid (Calls Tryz.prog 102 #[v, fv, ov] (w.alloc (.cells #[v] 41)) fun e w' => e = .returned (.int .i64 (errW body fs os)) ∧ Below (w.alloc (.cells #[v] 41)).heap.size (w.alloc (.cells #[v] 41)) w') :=
    wrongWC body v fv ov fs os _ (Kind.sl_later hv ((Later.refl _).alloc _)) (hf.later ((Later.refl _).alloc _)) (ho.later ((Later.refl _).alloc _))
  have HV := hide hv
  have HF := hide hf
  have HO := hide ho
  obtain ⟨fa, fc, hfa⟩ := sliceFacts hf
  obtain ⟨oa, oc, hoa⟩ := sliceFacts ho
  subst hva hfa hoa
  clear hv hf ho
  by_cases h0 : errW body fs os = 0
  · rw [h0] at HW
    have H0 := hide h0
    obtain ⟨hw0, hf0, ho0⟩ := errW_zero h0
    obtain ⟨hb5, hba⟩ := body_right hw0
    obtain ⟨hfl, hfr, _⟩ := set_right hf0
    obtain ⟨hol, hor, _⟩ := set_right ho0
    have HPr : Hid (∀ n, Rises (pickB fs at_ os n)) := pick_right hfr hor
    have HPl : Hid (∀ n, (pickB fs at_ os n).length ≤ 200) := pick_right (P := fun l => l.length ≤ 200) hfl hol
    have HBa : Hid (∀ a ∈ body, a.terms.length ≤ 4) := fun a ha => (wrongAtom_zero (hba a ha)).2.1
    clear h0 hw0 hf0 ho0 hba hfl hol hfr hor
    go_enter Tryz.func60, Tryz.ntmps60
    go_wp2_with fail
    refine HW.out.mono ?_
    rintro e w1 ⟨rfl, hB1⟩
    have hBw : Below w.heap.size w w1 := below_trans ((Later.refl w).alloc _).below hB1 (by simp)
    have hs1 : w.heap.size < w1.heap.size := by have := hB1.size; simp at this; omega
    have z0 : w1.cell? ⟨w.heap.size, 0, none⟩ = some (.slice a body.length cap) := by rw [hB1.cell (by simp)]; simp
    have HSr := hide (sourceC _ _ fs os at_ w1 (HF.out.below hBw) (HO.out.below hBw))
    have HBw := hide hBw
    clear HW hB1 hBw
    go_wp2_with fail
    refine HSr.out.mono ?_
    rintro e w2 ⟨rfl, hL2, hs2, y0, y1, y2⟩
    have hB2 : Below w.heap.size w w2 := below_trans HBw.out hL2.below HBw.out.size
    obtain ⟨w3, hw3⟩ : ∃ w3, w3 = w2.alloc (.cells #[.func (.func 137) #[] #[.pointer (some ⟨w1.heap.size + 1, 0, none⟩), .pointer (some ⟨w1.heap.size + 2, 0, none⟩), .pointer (some ⟨w1.heap.size, 0, none⟩)]] 119) := ⟨_, rfl⟩
    have hL3 : Later w2 w3 := by rw [hw3]; exact (Later.refl _).alloc _
    have hB3 : Below w.heap.size w w3 := below_trans hB2 hL3.below hB2.size
    have hs3 : w3.heap.size = w2.heap.size + 1 := by rw [hw3]; simp
    have x0 : w3.cell? ⟨w.heap.size, 0, none⟩ = some (.slice a body.length cap) := by rw [(hL2.trans hL3).cell (by exact hs1)]; exact z0
    have x1 : w3.cell? ⟨w2.heap.size, 0, none⟩ = some (.func (.func 137) #[] #[.pointer (some ⟨w1.heap.size + 1, 0, none⟩), .pointer (some ⟨w1.heap.size + 2, 0, none⟩), .pointer (some ⟨w1.heap.size, 0, none⟩)]) := by rw [hw3]; simp
    have hPk : Picks 137 #[.pointer (some ⟨w1.heap.size + 1, 0, none⟩), .pointer (some ⟨w1.heap.size + 2, 0, none⟩), .pointer (some ⟨w1.heap.size, 0, none⟩)] (pickB fs at_ os) w3.heap.size w3 :=
      source1C w1.heap.size (w1.heap.size + 1) (w1.heap.size + 2) _ _ fs os at_ _ w3 (HF.out.below hB3) (HO.out.below hB3) (by rw [hL3.cell (by show w1.heap.size < w2.heap.size; omega)]; exact y0) (by rw [hL3.cell (by show w1.heap.size + 1 < w2.heap.size; omega)]; exact y1) (by rw [hL3.cell (by show w1.heap.size + 2 < w2.heap.size; omega)]; exact y2) (by omega) (by omega) (by omega) rfl
    have hDl := with1C w.heap.size w2.heap.size body _ 137 _ enters_source1 (pickB fs at_ os) w3.heap.size w3 (Kind.sl_below HV.out hB3) hPk hb5 HPr.out x0 x1 (by omega) (by omega) rfl
    have HMt := hide (metC body _ 137 _ enters_source1 (pickB fs at_ os) w3 (Kind.sl_below HV.out hB3) hPk hb5 HBa.out HPl.out)
    have HDl := hide hDl
    have HB3 := hide hB3
    have HW3 := hide hw3
    have u0 : w2.cell? ⟨w.heap.size, 0, none⟩ = some (.slice a body.length cap) := by rw [hL2.cell (by exact hs1)]; exact z0
    have hx0 : w.heap.size < w2.heap.size := by omega
    clear x0 x1
    have hAB : allB (pickB fs at_ os) body = match metGo (pickB fs at_ os) 0 body [[]] with | none => none | some ms => some (sortBy cmpBs ((ms.filter fun l => !barredB (pickB fs at_ os) 0 body l).map sortB)) := rfl
    generalize barredB (pickB fs at_ os) 0 body = bp at *
    clear HSr hL2 hB2 hL3 hB3 hPk hDl hw3 y0 y1 y2 z0 hs2 hs3 HPr HPl HBa HF HO HBw
    go_wp2_with fail
    rw [← HW3.out]
    refine HMt.out.mono ?_
    rintro e w4 ⟨v4, er, rfl, hMT, hL4⟩
    cases hmg : metGo (pickB fs at_ os) 0 body [[]] with
    | none =>
      rw [hmg] at hMT hAB
      obtain ⟨rfl, rfl⟩ := hMT
      dsimp only at hAB
      have HAB := hide hAB
      have HL4 := hide hL4
      clear hmg hAB HMt hL4
      go_wp2
      go_ret2
      refine ⟨.slice none 0 0, 4, rfl, ?_, below_trans HB3.out HL4.out.below HB3.out.size⟩
      unfold WithT
      rw [if_neg (fun h => h H0.out), HAB.out]
      exact ⟨rfl, rfl⟩
    | some ms =>
      rw [hmg] at hMT hAB
      obtain ⟨rfl, ps, hps, hpl, hpq, hLs⟩ := hMT
      dsimp only at hAB
      have hpl' : ps.length ≤ 20000 := by rw [← hps, List.length_map] at hpl; exact hpl
      have hpq' : ∀ q ∈ ps, q.2.length ≤ 20 := fun q hq => hpq _ (by rw [← hps]; exact List.mem_map.2 ⟨q, hq, rfl⟩)
      have HDe := hide (deleteC v4 ps 106 _ enters_with1 bp w3.heap.size w3.heap.size w3 w4 HDl.out hL4.below (Nat.le_refl _) hL4.size hLs hpl' hpq')
      obtain ⟨a4, n4, c4, rfl⟩ : ∃ a n c, v4 = .slice a n c := by obtain ⟨a, c, e⟩ := Lists.slice hLs; exact ⟨a, _, c, e⟩
      have HLo : Hid (∀ k, (Value.slice a4 n4 c4).ownBlock = some k → w3.heap.size ≤ k) := fun k e => hLs.lo_le k e
      have HAB := hide hAB
      have HL4 := hide hL4
      have HPS := hide hps
      have HPL := hide hpl'
      have HPQ := hide hpq'
      clear hmg hAB HMt hL4 hps hpl hpq hLs hpl' hpq'
      go_wp2_with fail
      refine HDe.out.mono ?_
      rintro e w5 ⟨v5, rfl, hLs5, hob, hO5⟩
      have hL5 : Later w3 w5 := hO5.later HL4.out fun k e => HLo.out k e
      have hkl : (keptL bp ps).length ≤ 20000 := Nat.le_trans (List.length_filter_le _ _) HPL.out
      have HRi := hide (risenC v5 (keptL bp ps) w3.heap.size w3 w5 hL5 (Nat.le_refl _) hLs5 hkl (fun q hq => HPQ.out q (List.mem_filter.1 hq).1))
      obtain ⟨a5, n5, c5, rfl⟩ : ∃ a n c, v5 = .slice a n c := by obtain ⟨a, c, e⟩ := Lists.slice hLs5; exact ⟨a, _, c, e⟩
      clear HDe hLs5 hob hO5 hL5 hkl
      go_wp2_with fail
      refine HRi.out.mono ?_
      rintro e w6 ⟨rfl, hsl, hL6⟩
      have HSL := hide hsl
      have HL6 := hide hL6
      clear HRi hsl hL6
      go_wp2
      go_ret2
      refine ⟨.slice a5 n5 c5, 0, rfl, ?_, below_trans HB3.out HL6.out.below HB3.out.size⟩
      unfold WithT
      rw [if_neg (fun h => h H0.out), HAB.out]
      have e : (ms.filter fun l => !bp l).map sortB = (keptL bp ps).map fun q => sortB q.2 := by
        rw [← HPS.out]
        unfold keptL
        rw [List.filter_map, List.map_map]
        rfl
      rw [e]
      exact ⟨rfl, HSL.out⟩
  · have hq : (errW body fs os != 0) = true := by simpa using h0
    have H0 := hide h0
    generalize her : errW body fs os = er at *
    have HER := hide her
    clear h0 HV HF HO her
    go_enter Tryz.func60, Tryz.ntmps60
    go_wp2_with fail
    refine HW.out.mono ?_
    rintro e w1 ⟨rfl, hB1⟩
    have HB := hide (below_trans ((Later.refl w).alloc (.cells #[.slice a body.length cap] 41)).below hB1 (by simp))
    clear HW hB1
    go_wp2
    go_ret2
    refine ⟨.slice none 0 0, er, rfl, ?_, HB.out⟩
    unfold WithT
    rw [HER.out, if_pos H0.out]
    exact ⟨rfl, rfl⟩

end Go.Proofs.YtbohggoeebhdmaaGreatDoor

/- The walks of the reference's LessBinds and SameBinds (where both hold the same), and of match.All. -/
namespace Go.Proofs.YtbohggoeebhdmaaGreatDoor
open Go.RowKit Go.Sort

theorem neqBind (x y : BindD) (w : World) : (binOp .neq 147 (.agg #[.string x.1, .string x.2]) (.agg #[.string y.1, .string y.2])).run Tryz.prog w = .ok (.bool (!decide (x = y))) w := by
  have e : decide (x = y) = (x.1.toList == y.1.toList && x.2.toList == y.2.toList) := by
    rw [eq_list, eq_list]
    obtain ⟨x1, x2⟩ := x
    obtain ⟨y1, y2⟩ := y
    rw [Bool.eq_iff_iff]; simp
  rw [e]
  generalize x.1 = a
  generalize x.2 = b
  generalize y.1 = c
  generalize y.2 = d
  go_simp
  by_cases h1 : a.toList = c.toList <;> by_cases h2 : b.toList = d.toList <;> simp [h1, h2]

def lessBs (l m : List BindD) : Bool := decide (cmpBs l m < 0)

theorem lessBs_step {l m : List BindD} {j : Nat} {x y : BindD} (hx : l[j]? = some x) (hy : m[j]? = some y) : lessBs (l.drop j) (m.drop j) = if x = y then lessBs (l.drop (j + 1)) (m.drop (j + 1)) else decide (cmpB x y < 0) := by
  obtain ⟨h1, e1⟩ := List.getElem?_eq_some_iff.1 hx
  obtain ⟨h2, e2⟩ := List.getElem?_eq_some_iff.1 hy
  rw [List.drop_eq_getElem_cons h1, List.drop_eq_getElem_cons h2, e1, e2]
  unfold lessBs
  show decide ((if cmpB x y ≠ 0 then cmpB x y else cmpX cmpB _ _) < 0) = _
  by_cases h : x = y
  · rw [if_pos h, if_neg (by rw [h, three_cmpB.refl]; simp)]
  · rw [if_neg h, if_pos (fun e => h (three_cmpB.zero _ _ e))]

theorem cmpB_lt (x y : BindD) : decide (cmpB x y < 0) = (Op.bytesLess x.1.toList y.1.toList || (x.1.toList == y.1.toList && Op.bytesLess x.2.toList y.2.toList)) := by
  unfold cmpB
  by_cases h : x.1.toList = y.1.toList
  · have h' : (x.1.toList == y.1.toList) = true := by simpa using h
    rw [if_neg (by rw [cmpS_eq h']; simp), cmpS_lt, h', h, bl_irrefl]; rfl
  · have h' : (x.1.toList == y.1.toList) = false := by simpa using h
    rw [if_pos (cmpS_ne h'), cmpS_lt, h']; simp

theorem facts_nil (w : World) : Facts w (.slice none 0 0) [] := ⟨by simp, none, 0, rfl, fun h => absurd rfl h⟩

set_option maxHeartbeats 1000000 in
theorem allC (body : List AtomD) (v fv : Value) (fs : List FactD) (w : World) (hv : atomK.sl Anyw w v body) (hf : Facts w fv fs) :
    Calls Tryz.prog 28 #[v, fv] w fun e w' => ∃ v' er, e = .returned (.tuple #[v', .int .i64 er]) ∧ WithT w' v' er body fs (-1) [] ∧ Below w.heap.size w w' := by
  have HW := hide (withC body v fv (.slice none 0 0) fs [] (-1) w hv hf (facts_nil w))
  obtain ⟨a, cap, rfl⟩ := Kind.slice hv
  obtain ⟨fa, fc, rfl⟩ := sliceFacts hf
  clear hv hf
  go_enter Tryz.func28, Tryz.ntmps28
  go_wp2_with fail
  refine HW.out.mono ?_
  rintro e w1 ⟨v', er, rfl, hT, hB⟩
  have HT := hide hT
  have HB := hide hB
  clear hT hB HW
  go_wp2
  go_ret2
  exact ⟨v', er, rfl, HT.out, HB.out⟩

theorem pick_all' {fs : List FactD} : pickB fs (-1) [] = fun _ => fs := by
  funext n
  unfold pickB
  rw [if_neg (by omega)]

end Go.Proofs.YtbohggoeebhdmaaGreatDoor

/- The walk of naive.Heads. -/
namespace Go.Proofs.YtbohggoeebhdmaaGreatDoor
open Go.RowKit Go.Sort Go.Maps

theorem meetAll_small (pick : Nat → List FactB) : ∀ (ats : List AtomD) (n : Nat) (ls ms : List (List BindD)), ls.length ≤ 20000 → metGo pick n ats ls = some ms → ms.length ≤ 20000
  | [], _, ls, ms, h, e => by cases e; exact h
  | a :: ats, n, ls, ms, h, e => by
    unfold metGo at e
    split at e
    · exact meetAll_small pick ats _ ls ms h e
    · split at e
      · cases e
      · exact meetAll_small pick ats _ _ ms (by omega) e
theorem allB_small {pick : Nat → List FactB} {body : List AtomD} {R : List (List BindD)} (h : allB pick body = some R) : R.length ≤ 20000 := by
  unfold allB at h
  cases e : metGo pick 0 body [[]] with
  | none => rw [e] at h; cases h
  | some ms =>
    rw [e] at h
    cases h
    have := meetAll_small pick body 0 [[]] ms (by simp) e
    rw [(sortBy_perm _).length_eq, List.length_map]
    exact Nat.le_trans (List.length_filter_le _ _) this

theorem pickB_all (fs : List FactD) : pickB fs (-1) [] = fun _ => fs := by
  funext n
  unfold pickB
  rw [if_neg (by omega)]

/-- What Heads tells. -/
def HeadsT (w : World) (v : Value) (er : Int) (r : RuleD) (fs : List FactB) : Prop :=
  if errW r.body fs [] ≠ 0 then v = .slice none 0 0 ∧ er = errW r.body fs [] else match headsP r fs with
    | none => v = .slice none 0 0 ∧ er = 4
    | some x => er = 0 ∧ Facts w v x

theorem one_fact {w : World} {g : Nat} {f : FactB} {s : Value} (h : w.heap[g]? = some (.cells #[.string f.1, s] 54 (0, 0))) (hs : Strs w s f.2) : Facts w (.slice (some ⟨g, 0, none⟩) 1 1) [f] := by
  refine ⟨by simp, _, 1, rfl, fun _ => ⟨g, 0, rfl, (Array.getElem?_eq_some_iff.1 h).1, fun i hi => ?_⟩⟩
  have : i = 0 := by simp at hi; omega
  subst this
  exact ⟨by rw [cell_of_row _ _ _ _ _ _ h]; rfl, s, by rw [cell_of_row _ _ _ _ _ _ h]; rfl, hs⟩

set_option maxHeartbeats 4000000 in
theorem headsC (r : RuleD) (tv bv fv : Value) (fs : List FactB) (w : World) (ht : termK.sl Anyw w tv r.head.terms) (hb : atomK.sl Anyw w bv r.body) (hf : Facts w fv fs)
    (hs : ∀ R, allB (fun _ => fs) r.body = some R → ∀ l ∈ R, ∀ f, fillB r.head l = some f → ShortF f) :
    Calls Tryz.prog 20 #[.agg #[.bool r.head.no, .string (bs r.head.name), tv, bv], fv] w fun e w' => ∃ v' er, e = .returned (.tuple #[v', .int .i64 er]) ∧ HeadsT w' v' er r fs ∧ Below w.heap.size w w' := by
  obtain ⟨ta, tc, rfl⟩ := Kind.slice ht
  obtain ⟨ba, bc, rfl⟩ := Kind.slice hb
  obtain ⟨fa, fc, rfl⟩ := sliceFacts hf
  obtain ⟨wb, hwb⟩ : ∃ wb, wb = w.alloc (.cells #[.bool r.head.no, .string (bs r.head.name), .slice ta r.head.terms.length tc, .slice ba r.body.length bc] 43) := ⟨_, rfl⟩
  have hLb : Later w wb := by rw [hwb]; exact (Later.refl w).alloc _
  have hrb : wb.heap[w.heap.size]? = some (.cells #[.bool r.head.no, .string (bs r.head.name), .slice ta r.head.terms.length tc, .slice ba r.body.length bc] 43 (0, 0)) := by rw [hwb]; exact heap_alloc_new w _
  have HA := hide (allC r.body (.slice ba r.body.length bc) (.slice fa fs.length fc) fs wb (Kind.sl_later hb hLb) (hf.later hLb))
  have HTm := hide (Kind.sl_later ht hLb)
  have HS := hide hs
  have HLb := hide hLb
  have HRb := hide hrb
  have c3 : wb.cell? ⟨w.heap.size, 3, none⟩ = some (.slice ba r.body.length bc) := by rw [cell_of_row _ _ _ _ _ _ hrb]; rfl
  have HWB := hide hwb
  clear ht hb hf hs hLb hrb
  go_enter Tryz.func20, Tryz.ntmps20
  rw [hwb] at c3
  clear hwb
  go_wp2_with fail
  rw [← HWB.out]
  clear c3
  refine HA.out.mono ?_
  rintro e w1 ⟨v1, er, rfl, hT, hB1⟩
  clear HA
  unfold WithT at hT
  rw [pickB_all] at hT
  have HB1 : Hid (Below w.heap.size w w1) := below_trans HLb.out.below hB1 HLb.out.size
  have hwlt : w.heap.size < wb.heap.size := (Array.getElem?_eq_some_iff.1 HRb.out).1
  have HR1 : Hid (w1.heap[w.heap.size]? = some (.cells #[.bool r.head.no, .string (bs r.head.name), .slice ta r.head.terms.length tc, .slice ba r.body.length bc] 43 (0, 0))) := by
    show _ = _; rw [hB1.block _ hwlt]; exact HRb.out
  have HT1 := hide (Kind.sl_below HTm.out hB1)
  clear hB1 HTm HRb HLb HWB hwlt
  by_cases h0 : errW r.body fs [] = 0
  · rw [if_neg (by simp [h0])] at hT
    cases hR : allB (fun _ => fs) r.body with
    | none =>
      rw [hR] at hT
      obtain ⟨rfl, rfl⟩ := hT
      have HH : Hid (∀ w', HeadsT w' (.slice none 0 0) 4 r fs) := fun w' => by unfold HeadsT headsP; rw [if_neg (by simp [h0]), hR]; exact ⟨rfl, rfl⟩
      clear h0 hR HS HR1 HT1
      go_wp2
      exact bodyPost_ret (v := .tuple #[.slice none 0 0, .int .i64 4]) (by simp [results, Tryz.results20, go_sem]) rfl ⟨_, 4, rfl, HH.out _, HB1.out⟩
    | some R =>
      rw [hR] at hT
      obtain ⟨rfl, hsl⟩ := hT
      have hsmall := allB_small hR
      have HSh := hide (HS.out R hR)
      have HH : Hid (∀ w' v', Facts w' v' (setF (R.filterMap fun l => fillB r.head l)) → HeadsT w' v' 0 r fs) := fun w' v' h => by unfold HeadsT headsP; rw [if_neg (by simp [h0]), hR]; exact ⟨rfl, h⟩
      have HRL := hide hsl
      obtain ⟨ra, rc, rfl⟩ := Kind.slice hsl
      clear h0 hR hsl HS
      have hmm := @run_makeMap Tryz.prog
      obtain ⟨w2, hw2⟩ : ∃ w2, w2 = w1.alloc (.map #[] 0) := ⟨_, rfl⟩
      have HK2 : Hid (KnN w2 w1.heap.size 0 ((R.take 0).filterMap fun l => fillB r.head l)) := by show KnN _ _ _ _; rw [hw2]; exact KnownM.made _ _ _
      have HB2 : Hid (Below w1.heap.size w1 w2) := by show Below _ _ _; rw [hw2]; exact ((Later.refl w1).alloc _).below
      have HW2 := hide hw2
      clear hw2
      go_wp2
      rw [← HW2.out]
      clear hmm HW2
      go_loopg [26] R.length (fun g i wr => ∃ j : Nat, j + g = R.length ∧ i = .int .i64 j ∧ Hid (KnN wr w1.heap.size j ((R.take j).filterMap fun l => fillB r.head l)) ∧ Hid (Below w1.heap.size w1 wr))
      case atStart => exact ⟨0, by omega, rfl, HK2, HB2⟩
      case round =>
        clear HK2 HB2
        obtain ⟨j, hj, rfl, HK, HBr⟩ := hrel
        by_cases hlt : j < R.length
        · obtain ⟨l, hx⟩ : ∃ x, R[j]? = some x := ⟨_, List.getElem?_eq_getElem hlt⟩
          obtain ⟨b1, o1, _, rfl, hb1, ⟨lv, rfl, hlv⟩, hc⟩ := Kind.sl_at HRL.out hx
          have d0 : wr.cell? ⟨b1, o1 + j, none⟩ = some lv := by rw [HBr.out.cell (p := ⟨b1, o1 + j, none⟩) hb1]; simpa [slK] using hc 0 _ rfl
          have HLV := hide hlv
          obtain ⟨la, lc, rfl⟩ := Kind.slice hlv
          have hbw : w.heap.size < w1.heap.size := (Array.getElem?_eq_some_iff.1 HR1.out).1
          have hrr : wr.heap[w.heap.size]? = some (.cells #[.bool r.head.no, .string (bs r.head.name), .slice ta r.head.terms.length tc, .slice ba r.body.length bc] 43 (0, 0)) := by rw [HBr.out.block _ hbw]; exact HR1.out
          have r0 : wr.cell? ⟨w.heap.size, 0, none⟩ = some (.bool r.head.no) := by rw [cell_of_row _ _ _ _ _ _ hrr]; rfl
          have r1 : wr.cell? ⟨w.heap.size, 0 + 1, none⟩ = some (.string (bs r.head.name)) := by rw [cell_of_row _ _ _ _ _ _ hrr]; rfl
          have r2 : wr.cell? ⟨w.heap.size, 0 + 2, none⟩ = some (.slice ta r.head.terms.length tc) := by rw [cell_of_row _ _ _ _ _ _ hrr]; rfl
          have HFc := hide (fillC r.head _ (.slice la l.length lc) l wr (Kind.sl_below HT1.out HBr.out) (Kind.sl_below HLV.out HBr.out))
          have htk : R.take (j + 1) = R.take j ++ [l] := by rw [List.take_add_one, hx]; rfl
          have hSl := HSh.out l (List.mem_of_getElem? hx)
          unfold filled at HFc
          clear hc hx hlv hrr
          cases hfl : fillB r.head l with
          | none =>
            rw [hfl] at HFc
            have HK' : Hid (KnN wr w1.heap.size (j + 1) ((R.take (j + 1)).filterMap fun l => fillB r.head l)) := by
              show KnN _ _ _ _
              rw [htk, List.filterMap_append]
              simp only [List.filterMap_cons, hfl, List.filterMap_nil, List.append_nil]
              exact HK.out.mono (Nat.le_succ _)
            clear hfl htk hSl
            generalize bs r.head.name = nm at *
            generalize r.head.no = no at *
            go_wp2_with fail
            refine HFc.out.mono ?_
            rintro e w3 ⟨f3, rfl, hfv, hL3⟩
            obtain ⟨s, rfl, hs⟩ := hfv
            obtain ⟨sA', sC', rfl⟩ := sliceStr hs
            simp only [Option.isSome_none]
            have HL3 : Hid (Later wr w3) := hL3
            clear hs hL3
            go_wp2
            go_roundg (R.length - (j + 1))
            case measure => omega
            case rel => exact ⟨j + 1, by omega, by go_num, HK'.out.later (HL3.out.alloc _), below_trans HBr.out (HL3.out.alloc _).below HBr.out.size⟩
          | some f =>
            rw [hfl] at HFc
            have hsf := hSl f hfl
            have hfm : (R.take (j + 1)).filterMap (fun l => fillB r.head l) = (R.take j).filterMap (fun l => fillB r.head l) ++ [f] := by
              rw [htk, List.filterMap_append]
              simp only [List.filterMap_cons, hfl, List.filterMap_nil]
            have HFM := hide hfm
            have HSF := hide hsf
            clear hfl htk hSl hfm hsf
            generalize bs r.head.name = nm at *
            generalize r.head.no = no at *
            go_wp2_with fail
            refine HFc.out.mono ?_
            rintro e w3 ⟨f3, rfl, hfv, hL3⟩
            simp only [Option.isSome_some, Option.getD_some] at hfv ⊢
            obtain ⟨s, rfl, hs⟩ := hfv
            obtain ⟨sA', sC', rfl⟩ := sliceStr hs
            obtain ⟨fn, fargs⟩ := f
            dsimp only at *
            obtain ⟨w4, hw4⟩ : ∃ w4, w4 = (w3.alloc (.cells #[.string fn, .slice sA' fargs.length sC'] 54)).alloc (.cells #[.string fn, .slice sA' fargs.length sC'] 54) := ⟨_, rfl⟩
            have hL4 : Later w3 w4 := by rw [hw4]; exact ((Later.refl _).alloc _).alloc _
            have hr4 : w4.heap[w3.heap.size + 1]? = some (.cells #[.string fn, .slice sA' fargs.length sC'] 54 (0, 0)) := by
              rw [hw4]; have := heap_alloc_new (w3.alloc (.cells #[.string fn, .slice sA' fargs.length sC'] 54)) (.cells #[.string fn, .slice sA' fargs.length sC'] 54); simpa using this
            have HAd := hide (knownAdd w1.heap.size j _ (.slice (some ⟨w3.heap.size + 1, 0, none⟩) 1 1) [(fn, fargs)] w4 (HK.out.later (hL3.trans hL4)) (one_fact (f := (fn, fargs)) hr4 (hs.later hL4)) (fun g hg => by simp only [List.mem_singleton] at hg; subst hg; exact HSF.out) (by simp; omega))
            have HL4 : Hid (Later wr w4) := hL3.trans hL4
            have HW4 := hide hw4
            clear hs hL3 hL4 hr4 hw4 HFc
            go_wp2_with fail
            rw [← HW4.out]
            refine HAd.out.mono ?_
            rintro e w5 ⟨⟨u5, rfl⟩, hK5, hT5⟩
            have HK5 : Hid (KnN w5 w1.heap.size (j + 1) ((R.take (j + 1)).filterMap fun l => fillB r.head l)) := by show KnN _ _ _ _; rw [HFM.out]; exact hK5
            have hs4 : w1.heap.size ≤ w4.heap.size := Nat.le_trans HBr.out.size HL4.out.size
            have HB5 : Hid (Below w1.heap.size w1 w5) := (below_trans HBr.out HL4.out.below HBr.out.size).trans (hT5.below (Nat.le_refl _) hs4)
            clear hK5 hT5 HAd HW4
            go_wp2
            go_roundg (R.length - (j + 1))
            case measure => omega
            case rel => exact ⟨j + 1, by omega, by go_num, HK5, HB5⟩
        · have hj' : j = R.length := by omega
          subst hj'
          rw [List.take_length] at HK
          have HF := hide (knownSet _ _ _ wr HK.out (by omega))
          go_wp2_with fail
          refine HF.out.mono ?_
          rintro e w6 ⟨v6, rfl, hF6, hB6⟩
          have HT6 := hide (HH.out _ _ hF6)
          have HB6 : Hid (Below w.heap.size w w6) := below_trans (below_trans HB1.out HBr.out HB1.out.size) hB6 (Nat.le_trans HB1.out.size HBr.out.size)
          obtain ⟨a6, c6, rfl⟩ := sliceFacts hF6
          clear hF6 hB6
          go_wp2
          exact bodyPost_ret (v := .tuple #[.slice a6 (setF (R.filterMap fun l => fillB r.head l)).length c6, .int .i64 0]) (by simp [results, Tryz.results20, go_sem]) rfl ⟨_, 0, rfl, HT6.out, HB6.out⟩
  · rw [if_pos h0] at hT
    obtain ⟨rfl, rfl⟩ := hT
    have HH : Hid (∀ w', HeadsT w' (.slice none 0 0) (errW r.body fs []) r fs) := fun w' => by unfold HeadsT; rw [if_pos h0]; exact ⟨rfl, rfl⟩
    clear HS HR1 HT1
    generalize errW r.body fs [] = er at *
    go_wp2
    exact bodyPost_ret (v := .tuple #[.slice none 0 0, .int .i64 er]) (by simp [results, Tryz.results20, go_sem]) rfl ⟨_, er, rfl, HH.out _, HB1.out⟩

end Go.Proofs.YtbohggoeebhdmaaGreatDoor

/- The walks of check's fit and wrongRule. -/
namespace Go.Proofs.YtbohggoeebhdmaaGreatDoor
open Go.RowKit Go.Sort Go.Maps

abbrev NumsM (w : World) (b n : Nat) (m : Nums) : Prop := NumM Tryz.prog 9 3 w b n m

theorem Kind.sl_tnb {α : Type} {K : Kind α} {b : Nat} {w w' : World} {v : Value} {l : List α} (h : K.sl (fun k => k ≠ b) w v l) (k : Tn b w w') : K.sl (fun k => k ≠ b) w' v l := Kind.sl_kept h k.size fun i hi hB => k.block i hi hB
theorem Kind.sl_ne {α : Type} {K : Kind α} {b : Nat} {w : World} {v : Value} {l : List α} (h : K.sl Anyw w v l) (hb : w.heap.size ≤ b) : K.sl (fun k => k ≠ b) w v l := Kind.sl_mono h fun k hk _ => by omega

theorem wf_len {n : Nat} (h : n ≤ 9223372036854775807) : (Lit.int .i64 (n : Int)).wf = true := WalkArith.wf_i64 (by omega)

set_option maxRecDepth 100000 in
set_option maxHeartbeats 1000000 in
theorem fitC (b n : Nat) (m : Nums) (a : AtomD) (v : Value) (w : World) (h : NumsM w b n m) (hv : termK.sl Anyw w v a.terms) (hs : a.name.length ≤ maxLen) (hn : n < maxLen) :
    Calls Tryz.prog 101 #[.map (some b), .agg #[.bool a.no, .string (bs a.name), v]] w fun e w' => e = .returned (.bool (fitOne m a).1) ∧ NumsM w' b (n + 1) (fitOne m a).2 ∧ Tn b w w' := by
  obtain ⟨sa, cap, rfl⟩ := Kind.slice hv
  have hl0 := hv.1.1
  clear hv
  have h1 := h.later ((Later.refl w).alloc (.cells #[.bool a.no, .string (bs a.name), .slice sa a.terms.length cap] 40))
  have hr := NumM.lookOk (T := 94) h1 Tryz.underlying9 Tryz.underlying3 Tryz.underlying94 (zeroInt _) hs
  have hblt := h.lt
  cases hm : m a.name with
  | none =>
    obtain ⟨w1, hst, hm1, hg⟩ := NumM.store (T := 94) h1 Tryz.underlying9 Tryz.underlying3 Tryz.underlying94 hn hs (x := a.terms.length) (wf_len (by omega))
    have e0 : numOf m a.name = 0 := by unfold numOf; rw [hm]; rfl
    rw [hm, e0] at hr
    have F : Hid (fitOne m a = (true, m.put a.name a.terms.length)) := by show _ = _; unfold fitOne; rw [hm]
    have HM : Hid (NumsM w1 b (n + 1) (m.put a.name a.terms.length)) := hm1
    have HT : Hid (Tn b w w1) := (Tn.of_below (p := b) ((Later.refl w).alloc _).below).trans (Tn.of_grown hg)
    have hst' := hide hst
    clear h h1 hm1 hg hst hm e0
    generalize bs a.name = nm at *
    generalize a.no = no at *
    go_enter Tryz.func101, Tryz.ntmps101
    go_wp2_with (first
      | (at_mapUpdate; refine wpList_run_update _ rfl _ _ _ _ rfl _ _ _ _ rfl rfl rfl (unhide hst') ?_)
      | go_in)
    go_ret
    exact ⟨by rw [F.out]; rfl, by rw [F.out]; exact HM.out, HT.out⟩
  | some k =>
    have e0 : numOf m a.name = k := by unfold numOf; rw [hm]; rfl
    rw [hm, e0] at hr
    have F : Hid (fitOne m a = (decide (k = a.terms.length), m)) := by show _ = _; unfold fitOne; rw [hm]
    have HM : Hid (NumsM (w.alloc (.cells #[.bool a.no, .string (bs a.name), .slice sa a.terms.length cap] 40)) b (n + 1) m) := h1.mono (by omega)
    clear h h1 hm e0
    generalize bs a.name = nm at *
    generalize a.no = no at *
    go_enter Tryz.func101, Tryz.ntmps101
    go_wp2
    go_ret
    refine ⟨?_, by rw [F.out]; exact HM.out, Tn.of_below ((Later.refl w).alloc _).below⟩
    rw [F.out]
    refine ret_bool ?_
    rw [Bool.eq_iff_iff]
    simp
    omega

/-- A rule in a box, beside a map that may have turned. -/
structure RuleBox (b : Nat) (w : World) (c0 c1 c2 c3 : Value) (w' : World) : Prop where
  tn : Tn b w w'
  lt : w.heap.size < w'.heap.size
  z0 : w'.cell? ⟨w.heap.size, 0, none⟩ = some c0
  z1 : w'.cell? ⟨w.heap.size, 1, none⟩ = some c1
  z2 : w'.cell? ⟨w.heap.size, 2, none⟩ = some c2
  z3 : w'.cell? ⟨w.heap.size, 3, none⟩ = some c3

section
variable {b : Nat} {w w1 w2 : World} {c0 c1 c2 c3 : Value}
theorem RuleBox.made (b : Nat) (w : World) (c0 c1 c2 c3 : Value) : RuleBox b w c0 c1 c2 c3 (w.alloc (.cells #[c0, c1, c2, c3] 43)) :=
  ⟨Tn.of_below ((Later.refl w).alloc _).below, by simp, by simp, by simp, by simp, by simp⟩
theorem RuleBox.turned (h : RuleBox b w c0 c1 c2 c3 w1) (k : Tn b w1 w2) (hb : b < w.heap.size) : RuleBox b w c0 c1 c2 c3 w2 := by
  have e : ∀ i, w2.cell? ⟨w.heap.size, i, none⟩ = w1.cell? ⟨w.heap.size, i, none⟩ := fun i => k.cell (x := ⟨w.heap.size, i, none⟩) h.lt (by show w.heap.size ≠ b; omega)
  exact ⟨h.tn.trans k, Nat.lt_of_lt_of_le h.lt k.size, by rw [e]; exact h.z0, by rw [e]; exact h.z1, by rw [e]; exact h.z2, by rw [e]; exact h.z3⟩
theorem RuleBox.below (h : RuleBox b w c0 c1 c2 c3 w1) (k : Below w1.heap.size w1 w2) (hb : b < w.heap.size) : RuleBox b w c0 c1 c2 c3 w2 := h.turned (Tn.of_below k) hb
end

theorem fitAll_step {l : List AtomD} {j : Nat} {a : AtomD} (h : l[j]? = some a) (m : Nums) : fitAll m (l.drop j) = if (fitOne m a).1 then fitAll (fitOne m a).2 (l.drop (j + 1)) else (false, (fitOne m a).2) := by
  obtain ⟨h1, e1⟩ := List.getElem?_eq_some_iff.1 h
  rw [List.drop_eq_getElem_cons h1, e1]; rfl

theorem wrongAtoms_zero {l : List AtomD} (h : wrongAtoms l = 0) : ∀ a ∈ l, wrongAtom a = 0 := by
  induction l with
  | nil => intro a ha; cases ha
  | cons b l ih =>
    unfold wrongAtoms at h
    split at h
    · rename_i h0
      intro a ha
      rcases List.mem_cons.1 ha with rfl | ha
      · exact h0
      · exact ih h a ha
    · rename_i h0; exact absurd h h0
theorem wrongBody_zero {l : List AtomD} (h : wrongBody l = 0) : l.length ≤ 5 ∧ ∀ a ∈ l, wrongAtom a = 0 := by
  unfold wrongBody at h
  split at h
  · cases h
  · split at h
    · rename_i h5 h0; exact ⟨by omega, wrongAtoms_zero h0⟩
    · rename_i h5 h0; exact absurd h h0

set_option maxRecDepth 100000 in
set_option maxHeartbeats 4000000 in
theorem wrongRuleC (b n : Nat) (m : Nums) (r : RuleD) (v u : Value) (w : World) (h : NumsM w b n m) (hv0 : termK.sl (fun k => k ≠ b) w v r.head.terms) (hu0 : atomK.sl (fun k => k ≠ b) w u r.body) (hn : n ≤ 1000000) :
    Calls Tryz.prog 59 #[.agg #[.bool r.head.no, .string (bs r.head.name), v, u], .map (some b)] w fun e w' => e = .returned (.int .i64 (wrongRule m r).1) ∧ NumsM w' b (n + 6) (wrongRule m r).2 ∧ Tn b w w' := by
  have hbw := h.lt
  obtain ⟨va, vc, rfl⟩ := Kind.slice hv0
  obtain ⟨ua, uc, rfl⟩ := Kind.slice hu0
  have hl0 := hv0.1.1
  have hl1 := hu0.1.1
  have HV := hide hv0
  have HU := hide hu0
  clear hv0 hu0
  have HM0 : Hid (∀ w', Below w.heap.size w w' → NumsM w' b n m) := fun w' k => h.below k
  have HA : Hid (∀ w', RuleBox b w (.bool r.head.no) (.string (bs r.head.name)) (.slice va r.head.terms.length vc) (.slice ua r.body.length uc) w' → NumsM w' b n m → Calls Tryz.prog 96 #[.agg #[.bool r.head.no, .string (bs r.head.name), .slice va r.head.terms.length vc]] w'
      fun e w'' => e = .returned (.int .i64 (wrongAtom r.head)) ∧ RuleBox b w (.bool r.head.no) (.string (bs r.head.name)) (.slice va r.head.terms.length vc) (.slice ua r.body.length uc) w'' ∧ NumsM w'' b n m) := fun w' hR hM =>
    (wrongAtomC r.head _ w' (Kind.sl_any (Kind.sl_tnb HV.out hR.tn))).mono fun e w'' ⟨he, hL⟩ => ⟨he, hR.below hL.below hbw, hM.later hL⟩
  have HBd : Hid (∀ w', RuleBox b w (.bool r.head.no) (.string (bs r.head.name)) (.slice va r.head.terms.length vc) (.slice ua r.body.length uc) w' → NumsM w' b n m → Calls Tryz.prog 97 #[.slice ua r.body.length uc] w'
      fun e w'' => e = .returned (.int .i64 (wrongBody r.body)) ∧ RuleBox b w (.bool r.head.no) (.string (bs r.head.name)) (.slice va r.head.terms.length vc) (.slice ua r.body.length uc) w'' ∧ NumsM w'' b n m) := fun w' hR hM =>
    (chkBodyC r.body _ w' (Kind.sl_any (Kind.sl_tnb HU.out hR.tn))).mono fun e w'' ⟨he, hL⟩ => ⟨he, hR.below hL hbw, hM.below hL⟩
  have HR0 := hide (RuleBox.made b w (.bool r.head.no) (.string (bs r.head.name)) (.slice va r.head.terms.length vc) (.slice ua r.body.length uc))
  have HMA := hide (h.later ((Later.refl w).alloc (.cells #[.bool r.head.no, .string (bs r.head.name), .slice va r.head.terms.length vc, .slice ua r.body.length uc] 43)))
  by_cases h1 : wrongAtom r.head = 0
  · cases hno : r.head.no
    · by_cases h2 : wrongBody r.body = 0
      · obtain ⟨hl5, hfb⟩ := wrongBody_zero h2
        obtain ⟨fn, ft, fs⟩ := wrongAtom_zero h1
        have F : Hid (wrongRule m r = if (vars r.head).all (givenBy r.body) then (if (fitOne m r.head).1 then (if (fitAll (fitOne m r.head).2 r.body).1 then 0 else 8, (fitAll (fitOne m r.head).2 r.body).2) else (8, (fitOne m r.head).2)) else (9, m)) := by
          show _ = _
          unfold wrongRule
          rw [if_pos h1, hno, if_neg (by simp), if_pos h2]
        rw [hno] at HA HBd HR0 HMA
        rw [h1] at HA
        rw [h2] at HBd
        have HGB : Hid (∀ w', RuleBox b w (.bool false) (.string (bs r.head.name)) (.slice va r.head.terms.length vc) (.slice ua r.body.length uc) w' → NumsM w' b n m → Calls Tryz.prog 98 #[.slice ua r.body.length uc] w' fun e w'' => e = .returned (.map (some w'.heap.size)) ∧ NamesM w'' w'.heap.size 20 (givenBy r.body) ∧ RuleBox b w (.bool false) (.string (bs r.head.name)) (.slice va r.head.terms.length vc) (.slice ua r.body.length uc) w'' ∧ NumsM w'' b n m) := fun w' hR hM =>
          (givenByC r.body _ w' (Kind.sl_any (Kind.sl_tnb HU.out hR.tn)) hfb hl5).mono fun e w'' ⟨he, hN, hL⟩ => ⟨he, hN, hR.below hL hbw, hM.below hL⟩
        have HVr : Hid (∀ w' bk, NamesM w' bk 20 (givenBy r.body) → RuleBox b w (.bool false) (.string (bs r.head.name)) (.slice va r.head.terms.length vc) (.slice ua r.body.length uc) w' → NumsM w' b n m → Calls Tryz.prog 100 #[.agg #[.bool false, .string (bs r.head.name), .slice va r.head.terms.length vc]] w' fun e w'' => ∃ x, e = .returned x ∧ strK.sl Anyw w'' x (vars r.head) ∧ NamesM w'' bk 20 (givenBy r.body) ∧ RuleBox b w (.bool false) (.string (bs r.head.name)) (.slice va r.head.terms.length vc) (.slice ua r.body.length uc) w'' ∧ NumsM w'' b n m) := fun w' bk hN hR hM => by
          have := varsC r.head _ w' (Kind.sl_any (Kind.sl_tnb HV.out hR.tn)) (by omega) (fun t ht => short_max (fs t ht))
          rw [hno] at this
          exact this.mono fun e w'' ⟨x, he, ho, hL⟩ => ⟨x, he, Kind.sl_any (Kind.own_sl ho (by have := vars_le r.head; omega)), hN.below hL, hR.below hL hbw, hM.below hL⟩
        have HAl : Hid (∀ w' bk x, strK.sl Anyw w' x (vars r.head) → NamesM w' bk 20 (givenBy r.body) → RuleBox b w (.bool false) (.string (bs r.head.name)) (.slice va r.head.terms.length vc) (.slice ua r.body.length uc) w' → NumsM w' b n m → Calls Tryz.prog 99 #[.map (some bk), x] w' fun e w'' => e = .returned (.bool ((vars r.head).all (givenBy r.body))) ∧ RuleBox b w (.bool false) (.string (bs r.head.name)) (.slice va r.head.terms.length vc) (.slice ua r.body.length uc) w'' ∧ NumsM w'' b n m) := fun w' bk x hS hN hR hM =>
          (hasAllC _ _ _ x (vars r.head) w' hN hS (fun s hs => by obtain ⟨t, ht, rfl⟩ := vars_mem r.head s hs; exact short_max (fs t ht))).mono fun e w'' ⟨he, hL⟩ => ⟨he, hR.below hL.below hbw, hM.later hL⟩
        have HFt : Hid (∀ w', RuleBox b w (.bool false) (.string (bs r.head.name)) (.slice va r.head.terms.length vc) (.slice ua r.body.length uc) w' → NumsM w' b n m → Calls Tryz.prog 101 #[.map (some b), .agg #[.bool false, .string (bs r.head.name), .slice va r.head.terms.length vc]] w' fun e w'' => e = .returned (.bool (fitOne m r.head).1) ∧ RuleBox b w (.bool false) (.string (bs r.head.name)) (.slice va r.head.terms.length vc) (.slice ua r.body.length uc) w'' ∧ NumsM w'' b (n + 1) (fitOne m r.head).2) := fun w' hR hM => by
          have := fitC b n m r.head _ w' hM (Kind.sl_any (Kind.sl_tnb HV.out hR.tn)) (short_max fn) (by simp [maxLen]; omega)
          rw [hno] at this
          exact this.mono fun e w'' ⟨he, hN, hT⟩ => ⟨he, hR.turned hT hbw, hN⟩
        clear h1 h2 hno h HM0
        generalize hgv : givenBy r.body = gv at *
        clear hgv
        generalize hall : (vars r.head).all gv = al at *
        clear hall
        generalize bs r.head.name = nm at *
        cases al
        · have F1 : Hid (wrongRule m r = (9, m)) := F.out
          clear HV HU HFt F
          go_enter Tryz.func59, Tryz.ntmps59
          go_wp2_with (first
            | (go_at_call 96; refine (HA.out _ HR0.out HMA.out).mono ?_; rintro e w1 ⟨rfl, hR1, hM1⟩; have z0 := hR1.z0; have z3 := hR1.z3; have zl := hR1.lt; replace hR1 := hide hR1; replace hM1 := hide hM1)
            | (go_at_call 97; refine (HBd.out w1 (unhide hR1) (unhide hM1)).mono ?_; rintro e w2 ⟨rfl, hR2, hM2⟩; replace hR2 := hide hR2; replace hM2 := hide hM2))
          refine wp_region_held_drew (S := fun w' => RuleBox b w (.bool false) (.string nm) (.slice va r.head.terms.length vc) (.slice ua r.body.length uc) w' ∧ NumsM w' b n m) (by kernel_rfl) ⟨(unhide hR2).turned (Tn.refl _ _).drew hbw, (unhide hM2).block rfl⟩ (fun hHeld => ?_)
          refine take_at (i := 0) (d := some 24) (v := ?_) rfl rfl (by kernel_rfl) (by kernel_rfl) (by kernel_rfl) (fun _ _ _ h => h) (Or.inl ⟨by rfl, ?_⟩) hHeld ?_
          rotate_left
          · intro w hSw; (try dsimp only at hSw); obtain ⟨hRB, _⟩ := hSw; have z0 := hRB.z0; have z1 := hRB.z1; have z2 := hRB.z2; have z3 := hRB.z3; have zl := hRB.lt; clear hRB; go_simp; try with_reducible rfl
          simp only [Act.put, List.setIfInBounds_toArray, List.set_cons_zero, List.set_cons_succ]
          refine take_at (i := 1) (d := some 25) (v := ?_) rfl rfl (by kernel_rfl) (by kernel_rfl) (by kernel_rfl) (fun _ _ _ h => h) (Or.inl ⟨by rfl, ?_⟩) hHeld ?_
          rotate_left
          · intro w hSw; (try dsimp only at hSw); obtain ⟨hRB, _⟩ := hSw; have z0 := hRB.z0; have z1 := hRB.z1; have z2 := hRB.z2; have z3 := hRB.z3; have zl := hRB.lt; clear hRB; go_simp; try with_reducible rfl
          simp only [Act.put, List.setIfInBounds_toArray, List.set_cons_zero, List.set_cons_succ]
          refine take_at (i := 3) (d := some 27) (v := ?_) rfl rfl (by kernel_rfl) (by kernel_rfl) (by kernel_rfl) (fun _ _ _ h => h) (Or.inl ⟨by rfl, ?_⟩) hHeld ?_
          rotate_left
          · intro w hSw; (try dsimp only at hSw); obtain ⟨hRB, _⟩ := hSw; have z0 := hRB.z0; have z1 := hRB.z1; have z2 := hRB.z2; have z3 := hRB.z3; have zl := hRB.lt; clear hRB; go_simp; try with_reducible rfl
          simp only [Act.put, List.setIfInBounds_toArray, List.set_cons_zero, List.set_cons_succ]
          refine take_at (i := 4) (d := some 28) (v := ?_) rfl rfl (by kernel_rfl) (by kernel_rfl) (by kernel_rfl) (fun _ _ _ h => h) (Or.inl ⟨by rfl, ?_⟩) hHeld ?_
          rotate_left
          · intro w hSw; (try dsimp only at hSw); obtain ⟨hRB, _⟩ := hSw; have z0 := hRB.z0; have z1 := hRB.z1; have z2 := hRB.z2; have z3 := hRB.z3; have zl := hRB.lt; clear hRB; go_simp; try with_reducible rfl
          simp only [Act.put, List.setIfInBounds_toArray, List.set_cons_zero, List.set_cons_succ]
          refine wpAnyH_ready (rs := [2]) (by kernel_rfl) (by simp) ?_
          refine AllReadyH.cons rfl (fun K hK => ?_) AllReadyH.nil
          go_simp
          refine (HGB.out _ hHeld.1 hHeld.2).mono ?_
          rintro e w3 ⟨rfl, hN3, hR3, hM3⟩
          dsimp only
          refine hK.out _ _ ⟨hR3, hM3⟩ (fun hHeld => ?_)
          clear hK K
          refine wpAnyH_ready (rs := [5]) (by kernel_rfl) (by simp) ?_
          refine AllReadyH.cons rfl (fun K hK => ?_) AllReadyH.nil
          go_simp
          refine (HVr.out _ _ hN3 hHeld.1 hHeld.2).mono ?_
          rintro e w4 ⟨x4, rfl, hS4, hN4, hR4, hM4⟩
          dsimp only
          refine hK.out _ _ ⟨hR4, hM4⟩ (fun hHeld => ?_)
          clear hK K
          refine wpAnyH_ready (rs := [6]) (by kernel_rfl) (by simp) ?_
          refine AllReadyH.cons rfl (fun K hK => ?_) AllReadyH.nil
          go_simp
          refine (HAl.out _ _ _ hS4 hN4 hHeld.1 hHeld.2).mono ?_
          rintro e w5 ⟨rfl, hR5, hM5⟩
          dsimp only
          refine hK.out _ _ ⟨hR5, hM5⟩ (fun hHeld => ?_)
          clear hK K
          refine take_at (i := 7) (d := some 31) (v := ?_) rfl rfl (by kernel_rfl) (by kernel_rfl) (by kernel_rfl) (fun _ _ _ h => h) (Or.inl ⟨by rfl, ?_⟩) hHeld ?_
          rotate_left
          · intro w hSw; (try dsimp only at hSw);  go_simp; try with_reducible rfl
          simp only [Act.put, List.setIfInBounds_toArray, List.set_cons_zero, List.set_cons_succ]
          refine wpAnyH_done (by kernel_rfl) ?_ _
          go_wp2
          go_ret
          exact ⟨by rw [F1.out]; rfl, by rw [F1.out]; exact hHeld.2.mono (by omega), hHeld.1.tn⟩
        · have F1 : Hid (wrongRule m r = if (fitOne m r.head).1 then (if (fitAll (fitOne m r.head).2 r.body).1 then 0 else 8, (fitAll (fitOne m r.head).2 r.body).2) else (8, (fitOne m r.head).2)) := F.out
          clear F
          generalize fitOne m r.head = fo at *
          obtain ⟨f1, m1⟩ := fo
          dsimp only at *
          have HU1 : Hid (∀ w', Tn b w w' → atomK.sl (fun k => k ≠ b) w' (.slice ua r.body.length uc) r.body) := fun w' k => Kind.sl_tnb HU.out k
          have hnames : ∀ a ∈ r.body, a.name.length ≤ maxLen := fun a ha => short_max (wrongAtom_zero (hfb a ha)).1
          have HN := hide hnames
          clear HV HU hnames
          go_enter Tryz.func59, Tryz.ntmps59
          go_wp2_with (first
            | (go_at_call 96; refine (HA.out _ HR0.out HMA.out).mono ?_; rintro e w1 ⟨rfl, hR1, hM1⟩; have z0 := hR1.z0; have z3 := hR1.z3; have zl := hR1.lt; replace hR1 := hide hR1; replace hM1 := hide hM1)
            | (go_at_call 97; refine (HBd.out w1 (unhide hR1) (unhide hM1)).mono ?_; rintro e w2 ⟨rfl, hR2, hM2⟩; replace hR2 := hide hR2; replace hM2 := hide hM2))
          refine wp_region_held_drew (S := fun w' => RuleBox b w (.bool false) (.string nm) (.slice va r.head.terms.length vc) (.slice ua r.body.length uc) w' ∧ NumsM w' b n m) (by kernel_rfl) ⟨(unhide hR2).turned (Tn.refl _ _).drew hbw, (unhide hM2).block rfl⟩ (fun hHeld => ?_)
          refine take_at (i := 0) (d := some 24) (v := ?_) rfl rfl (by kernel_rfl) (by kernel_rfl) (by kernel_rfl) (fun _ _ _ h => h) (Or.inl ⟨by rfl, ?_⟩) hHeld ?_
          rotate_left
          · intro w hSw; (try dsimp only at hSw); obtain ⟨hRB, _⟩ := hSw; have z0 := hRB.z0; have z1 := hRB.z1; have z2 := hRB.z2; have z3 := hRB.z3; have zl := hRB.lt; clear hRB; go_simp; try with_reducible rfl
          simp only [Act.put, List.setIfInBounds_toArray, List.set_cons_zero, List.set_cons_succ]
          refine take_at (i := 1) (d := some 25) (v := ?_) rfl rfl (by kernel_rfl) (by kernel_rfl) (by kernel_rfl) (fun _ _ _ h => h) (Or.inl ⟨by rfl, ?_⟩) hHeld ?_
          rotate_left
          · intro w hSw; (try dsimp only at hSw); obtain ⟨hRB, _⟩ := hSw; have z0 := hRB.z0; have z1 := hRB.z1; have z2 := hRB.z2; have z3 := hRB.z3; have zl := hRB.lt; clear hRB; go_simp; try with_reducible rfl
          simp only [Act.put, List.setIfInBounds_toArray, List.set_cons_zero, List.set_cons_succ]
          refine take_at (i := 3) (d := some 27) (v := ?_) rfl rfl (by kernel_rfl) (by kernel_rfl) (by kernel_rfl) (fun _ _ _ h => h) (Or.inl ⟨by rfl, ?_⟩) hHeld ?_
          rotate_left
          · intro w hSw; (try dsimp only at hSw); obtain ⟨hRB, _⟩ := hSw; have z0 := hRB.z0; have z1 := hRB.z1; have z2 := hRB.z2; have z3 := hRB.z3; have zl := hRB.lt; clear hRB; go_simp; try with_reducible rfl
          simp only [Act.put, List.setIfInBounds_toArray, List.set_cons_zero, List.set_cons_succ]
          refine take_at (i := 4) (d := some 28) (v := ?_) rfl rfl (by kernel_rfl) (by kernel_rfl) (by kernel_rfl) (fun _ _ _ h => h) (Or.inl ⟨by rfl, ?_⟩) hHeld ?_
          rotate_left
          · intro w hSw; (try dsimp only at hSw); obtain ⟨hRB, _⟩ := hSw; have z0 := hRB.z0; have z1 := hRB.z1; have z2 := hRB.z2; have z3 := hRB.z3; have zl := hRB.lt; clear hRB; go_simp; try with_reducible rfl
          simp only [Act.put, List.setIfInBounds_toArray, List.set_cons_zero, List.set_cons_succ]
          refine wpAnyH_ready (rs := [2]) (by kernel_rfl) (by simp) ?_
          refine AllReadyH.cons rfl (fun K hK => ?_) AllReadyH.nil
          go_simp
          refine (HGB.out _ hHeld.1 hHeld.2).mono ?_
          rintro e w3 ⟨rfl, hN3, hR3, hM3⟩
          dsimp only
          refine hK.out _ _ ⟨hR3, hM3⟩ (fun hHeld => ?_)
          clear hK K
          refine wpAnyH_ready (rs := [5]) (by kernel_rfl) (by simp) ?_
          refine AllReadyH.cons rfl (fun K hK => ?_) AllReadyH.nil
          go_simp
          refine (HVr.out _ _ hN3 hHeld.1 hHeld.2).mono ?_
          rintro e w4 ⟨x4, rfl, hS4, hN4, hR4, hM4⟩
          dsimp only
          refine hK.out _ _ ⟨hR4, hM4⟩ (fun hHeld => ?_)
          clear hK K
          refine wpAnyH_ready (rs := [6]) (by kernel_rfl) (by simp) ?_
          refine AllReadyH.cons rfl (fun K hK => ?_) AllReadyH.nil
          go_simp
          refine (HAl.out _ _ _ hS4 hN4 hHeld.1 hHeld.2).mono ?_
          rintro e w5 ⟨rfl, hR5, hM5⟩
          dsimp only
          refine hK.out _ _ ⟨hR5, hM5⟩ (fun hHeld => ?_)
          clear hK K
          refine take_at (i := 7) (d := some 31) (v := ?_) rfl rfl (by kernel_rfl) (by kernel_rfl) (by kernel_rfl) (fun _ _ _ h => h) (Or.inl ⟨by rfl, ?_⟩) hHeld ?_
          rotate_left
          · intro w hSw; (try dsimp only at hSw);  go_simp; try with_reducible rfl
          simp only [Act.put, List.setIfInBounds_toArray, List.set_cons_zero, List.set_cons_succ]
          refine wpAnyH_done (by kernel_rfl) ?_ _
          have HC := hide (HFt.out _ hHeld.1 hHeld.2)
          have y0 := hHeld.1.z0
          have y1 := hHeld.1.z1
          have y2 := hHeld.1.z2
          have yl := hHeld.1.lt
          clear z0 z3 zl hR1 hM1 hR2 hM2 hN3 hR3 hM3 hS4 hN4 hR4 hM4 hR5 hM5 hHeld HA HBd HGB HVr HAl HR0 HMA HFt
          cases f1
          · have F2 : Hid (wrongRule m r = (8, m1)) := F1.out
            go_wp2_with (go_at_call 101; refine HC.out.mono ?_; rintro e w6 ⟨rfl, hR6, hM6⟩; replace hR6 := hide hR6; replace hM6 := hide hM6)
            go_ret
            exact ⟨by rw [F2.out]; rfl, by rw [F2.out]; exact (unhide hM6).mono (by omega), (unhide hR6).tn⟩
          · have F2 : Hid (wrongRule m r = (if (fitAll m1 r.body).1 then 0 else 8, (fitAll m1 r.body).2)) := F1.out
            clear F1
            go_wp2_with (go_at_call 101; refine HC.out.mono ?_; rintro e w6 ⟨rfl, hR6, hM6⟩; have x3 := hR6.z3; have xl := hR6.lt; have HT6 := hide hR6.tn; clear hR6; replace hM6 := hide hM6)
            go_loopg [40] r.body.length (fun k i wr => ∃ j : Nat, j + k = r.body.length ∧ i = .int .i64 j ∧ ∃ mj, Hid (fitAll m1 r.body = fitAll mj (r.body.drop j)) ∧ Hid (NumsM wr b (n + 1 + j) mj) ∧ Hid (Tn b w wr))
            case atStart => exact ⟨0, by omega, rfl, m1, (rfl : _ = _), hM6, HT6⟩
            case round =>
              obtain ⟨j, hj, rfl, mj, HE, HMj, HTj⟩ := hrel
              have hwr := HTj.out.size
              by_cases hlt : j < r.body.length
              · obtain ⟨x, hx⟩ : ∃ x, r.body[j]? = some x := ⟨_, List.getElem?_eq_getElem hlt⟩
                obtain ⟨b1, o1, _, rfl, hb1, hbne, ⟨sv, rfl, hsv⟩, hc⟩ := Kind.sl_atB (HU1.out wr HTj.out) hx
                have d0 : wr.cell? ⟨b1, o1 + j * 3, none⟩ = some (.bool x.no) := hc 0 _ rfl
                have d1 : wr.cell? ⟨b1, o1 + j * 3 + 1, none⟩ = some (.string (bs x.name)) := hc 1 _ rfl
                have d2 : wr.cell? ⟨b1, o1 + j * 3 + 2, none⟩ = some sv := hc 2 _ rfl
                have hst := fitAll_step hx mj
                have HCj : Hid (Calls Tryz.prog 101 #[.map (some b), .agg #[.bool x.no, .string (bs x.name), sv]] (wr.alloc (.cells #[.bool x.no, .string (bs x.name), sv] 40)) fun e w2 => e = .returned (.bool (fitOne mj x).1) ∧ Hid (NumsM w2 b (n + 1 + (j + 1)) (fitOne mj x).2) ∧ Hid (Tn b w w2)) :=
                  (fitC b (n + 1 + j) mj x sv _ (HMj.out.later ((Later.refl _).alloc _)) (Kind.sl_any (Kind.sl_below (Kind.sl_any hsv) ((Later.refl _).alloc _).below)) (HN.out x (List.mem_of_getElem? hx)) (by simp [maxLen]; omega)).mono fun e w2 ⟨he, h1, h2⟩ => ⟨he, h1, (HTj.out.alloc _).trans h2⟩
                obtain ⟨a2, c2, rfl⟩ := Kind.slice hsv
                clear hc hx hsv HMj HTj
                generalize bs x.name = nx at *
                generalize x.no = xn at *
                generalize fitOne mj x = fx at *
                obtain ⟨g1, m2⟩ := fx
                dsimp only at *
                cases g1
                · have E2 : Hid (fitAll m1 r.body = (false, m2)) := by show _ = _; rw [HE.out, hst]; rfl
                  clear hst HE
                  go_wp2_with (go_at_call 101; refine HCj.out.mono ?_; rintro e w7 ⟨rfl, hM7, hT7⟩)
                  go_ret
                  exact ⟨by rw [F2.out, E2.out]; rfl, by rw [F2.out, E2.out]; exact hM7.out.mono (by omega), hT7.out⟩
                · have E2 : Hid (fitAll m1 r.body = fitAll m2 (r.body.drop (j + 1))) := by show _ = _; rw [HE.out, hst]; rfl
                  clear hst HE
                  go_wp2_with (go_at_call 101; refine HCj.out.mono ?_; rintro e w7 ⟨rfl, hM7, hT7⟩)
                  go_roundg (r.body.length - (j + 1))
                  case measure => omega
                  case rel => exact ⟨j + 1, by omega, by go_num, m2, E2, hM7, hT7⟩
              · have E2 : Hid (fitAll m1 r.body = (true, mj)) := by show _ = _; rw [HE.out, List.drop_eq_nil_of_le (by omega)]; rfl
                go_wp2
                go_ret
                exact ⟨by rw [F2.out, E2.out]; rfl, by rw [F2.out, E2.out]; exact HMj.out.mono (by omega), HTj.out⟩
      · have F : Hid (wrongRule m r = (wrongBody r.body, m)) := by show _ = _; unfold wrongRule; rw [if_pos h1, hno, if_neg (by simp), if_neg h2]
        have hq : (wrongBody r.body != 0) = true := by simpa using h2
        rw [hno] at HA HBd HR0 HMA
        rw [h1] at HA
        clear h1 h2 hno h HM0 HV HU
        generalize bs r.head.name = nm at *
        generalize wrongBody r.body = ex at *
        go_enter Tryz.func59, Tryz.ntmps59
        go_wp2_with (first
          | (go_at_call 96; refine (HA.out _ HR0.out HMA.out).mono ?_; rintro e w1 ⟨rfl, hR1, hM1⟩; have z0 := hR1.z0; have z3 := hR1.z3; have zl := hR1.lt; replace hR1 := hide hR1; replace hM1 := hide hM1)
          | (go_at_call 97; refine (HBd.out w1 (unhide hR1) (unhide hM1)).mono ?_; rintro e w2 ⟨rfl, hR2, hM2⟩; replace hR2 := hide hR2; replace hM2 := hide hM2))
        go_ret
        exact ⟨by rw [F.out]; rfl, by rw [F.out]; exact (unhide hM2).mono (by omega), (unhide hR2).tn⟩
    · have F : Hid (wrongRule m r = (2, m)) := by show _ = _; unfold wrongRule; rw [if_pos h1, hno, if_pos rfl]
      rw [hno] at HA HR0 HMA
      rw [h1] at HA
      clear h1 hno h HM0 HV HU HBd
      generalize bs r.head.name = nm at *
      go_enter Tryz.func59, Tryz.ntmps59
      go_wp2_with (go_at_call 96; refine (HA.out _ HR0.out HMA.out).mono ?_; rintro e w1 ⟨rfl, hR1, hM1⟩; have z0 := hR1.z0; have zl := hR1.lt; replace hR1 := hide hR1; replace hM1 := hide hM1)
      go_ret
      exact ⟨by rw [F.out]; rfl, by rw [F.out]; exact (unhide hM1).mono (by omega), (unhide hR1).tn⟩
  · have F : Hid (wrongRule m r = (wrongAtom r.head, m)) := by show _ = _; unfold wrongRule; rw [if_neg h1]
    have hq : (wrongAtom r.head != 0) = true := by simpa using h1
    clear h1 h HM0 HV HU HBd
    generalize wrongAtom r.head = ex at *
    generalize bs r.head.name = nm at *
    generalize r.head.no = no at *
    go_enter Tryz.func59, Tryz.ntmps59
    go_wp2_with (go_at_call 96; refine (HA.out _ HR0.out HMA.out).mono ?_; rintro e w1 ⟨rfl, hR1, hM1⟩; replace hR1 := hide hR1; replace hM1 := hide hM1)
    go_ret
    exact ⟨by rw [F.out]; rfl, by rw [F.out]; exact (unhide hM1).mono (by omega), (unhide hR1).tn⟩

end Go.Proofs.YtbohggoeebhdmaaGreatDoor

/- The walk of check.Wrong. -/
namespace Go.Proofs.YtbohggoeebhdmaaGreatDoor
open Go.RowKit Go.Sort Go.Maps

theorem Kind.sl_neBelow {α : Type} {K : Kind α} {b : Nat} {w w' : World} {v : Value} {l : List α} (h : K.sl Anyw w v l) (k : Below w.heap.size w w') (hb : w.heap.size ≤ b) : K.sl (fun k => k ≠ b) w' v l :=
  Kind.sl_kept (Kind.sl_ne h hb) k.size fun i hi _ => k.block i hi

theorem wrongGo_step {p : List RuleD} {j : Nat} {r : RuleD} (h : p[j]? = some r) (m : Nums) (i : Nat) : wrongGo m i (p.drop j) = if (wrongRule m r).1 = 0 then wrongGo (wrongRule m r).2 (i + 1) (p.drop (j + 1)) else ((wrongRule m r).1, i) := by
  obtain ⟨h1, e1⟩ := List.getElem?_eq_some_iff.1 h
  rw [List.drop_eq_getElem_cons h1, e1]; rfl

theorem setCell_row {w : World} {g j : Nat} {cs : Array Value} {t : TypeId} {fr : Nat × Nat} (h : w.heap[g]? = some (.cells cs t fr)) (u : Value) : (w.setCell ⟨g, j, none⟩ u).heap[g]? = some (.cells (cs.setIfInBounds j u) t fr) := by
  simp [World.setCell, Array.getElem?_modify, h]

theorem frozen_rowC {w : World} {g : Nat} (j : Nat) {cs : Array Value} {t : TypeId} (h : w.heap[g]? = some (.cells cs t (0, 0))) : w.frozen? ⟨g, j, none⟩ = false := by
  simp [World.frozen?, h]

theorem fault_two {w : World} {R : Nat} {u0 u1 : Value} {t : TypeId} {fr : Nat × Nat} (h : w.heap[R]? = some (.cells #[u0, u1] t fr)) (x y : Value) :
    ((w.setCell ⟨R, 0, none⟩ x).setCell ⟨R, 1, none⟩ y).cell? ⟨R, 0, none⟩ = some x ∧ ((w.setCell ⟨R, 0, none⟩ x).setCell ⟨R, 1, none⟩ y).cell? ⟨R, 1, none⟩ = some y := by
  have h2 := setCell_row (j := 1) (setCell_row (j := 0) h x) y
  exact ⟨by rw [cell_of_row _ _ _ _ _ _ h2]; rfl, by rw [cell_of_row _ _ _ _ _ _ h2]; rfl⟩

theorem ret_fault2 {a b c d : Int} (h1 : a = c) (h2 : b = d) : Ending.returned (.agg #[.int .i64 a, .int .i64 b]) = Ending.returned (.agg #[.int .i64 c, .int .i64 d]) := by rw [h1, h2]

set_option maxRecDepth 100000 in
set_option maxHeartbeats 4000000 in
theorem wrongC (p : List RuleD) (v : Value) (w : World) (hv : ruleK.sl Anyw w v p) :
    Calls Tryz.prog 27 #[v] w fun e w' => e = .returned (.agg #[.int .i64 (wrongP p).1, .int .i64 ((wrongP p).2 : Nat)]) ∧ Below w.heap.size w w' := by
  obtain ⟨sa, cap, rfl⟩ := Kind.slice hv
  have hl0 := hv.1.1
  have HV := hide hv
  clear hv
  by_cases h16 : 16 < p.length
  · have F : Hid (wrongP p = (5, 0)) := by show _ = _; unfold wrongP; rw [if_pos h16]
    go_enter Tryz.func27, Tryz.ntmps27
    go_wp2
    exact bodyPost_ret (v := .agg #[.int .i64 5, .int .i64 0]) (by simp [results, Tryz.results27, go_sem]) rfl ⟨by rw [F.out]; rfl, ((by repeat (first | exact Later.refl _ | assumption | refine Later.drewN ?_ _ | refine Later.drew ?_ | refine Later.alloc ?_ _ | refine Later.grow ?_ _)) : Later w _).below⟩
  · have F : Hid (wrongP p = wrongGo (fun _ => none) 0 p) := by show _ = _; unfold wrongP; rw [if_neg h16]
    have hmm := @run_makeMap Tryz.prog
    go_enter Tryz.func27, Tryz.ntmps27
    go_wp2
    go_loopg [14] p.length (fun k i wr => ∃ j : Nat, j + k = p.length ∧ i = .int .i64 j ∧ ∃ m, Hid (wrongP p = wrongGo m j (p.drop j)) ∧ Hid (NumsM wr (w.heap.size + 1) (6 * j) m) ∧ Hid (Below w.heap.size w wr) ∧ Hid (wr.heap[w.heap.size]? = some (.cells #[.int .i64 0, .int .i64 0] 27 (0, 0))) ∧ w.heap.size + 2 ≤ wr.heap.size)
    case atStart =>
      refine ⟨0, by omega, rfl, fun _ => none, F.out, ?_, ?_, ?_, by simp⟩
      · have := NumM.made Tryz.prog 9 3 (w.alloc (.cells #[.int .i64 0, .int .i64 0] 27))
        rw [World.size_alloc] at this
        exact this
      · exact (((Later.refl w).alloc _).alloc _).below
      · show _ = _
        rw [Below.heap_alloc _ _ _ (by simp), heap_alloc_new]
    case round =>
      obtain ⟨j, hj, rfl, m, HE, HM, HB, HR, hsz⟩ := hrel
      by_cases hlt : j < p.length
      · obtain ⟨r, hr⟩ : ∃ x, p[j]? = some x := ⟨_, List.getElem?_eq_getElem hlt⟩
        obtain ⟨b1, o1, _, rfl, hb1, ⟨sv, su, rfl, hsv, hsu⟩, hc⟩ := Kind.sl_at HV.out hr
        have d0 : wr.cell? ⟨b1, o1 + j * 4, none⟩ = some (.bool r.head.no) := by rw [HB.out.cell hb1]; exact hc 0 _ rfl
        have d1 : wr.cell? ⟨b1, o1 + j * 4 + 1, none⟩ = some (.string (bs r.head.name)) := by rw [HB.out.cell hb1]; exact hc 1 _ rfl
        have d2 : wr.cell? ⟨b1, o1 + j * 4 + 2, none⟩ = some sv := by rw [HB.out.cell hb1]; exact hc 2 _ rfl
        have d3 : wr.cell? ⟨b1, o1 + j * 4 + 3, none⟩ = some su := by rw [HB.out.cell hb1]; exact hc 3 _ rfl
        have hbr : b1 < wr.heap.size := by omega
        have hst := wrongGo_step hr m j
        have hB1 : Below w.heap.size w (wr.alloc (.cells #[.bool r.head.no, .string (bs r.head.name), sv, su] 43)) := HB.out.alloc HB.out.size _
        have HC : Hid (Calls Tryz.prog 59 #[.agg #[.bool r.head.no, .string (bs r.head.name), sv, su], .map (some (w.heap.size + 1))] (wr.alloc (.cells #[.bool r.head.no, .string (bs r.head.name), sv, su] 43)) fun e w2 => e = .returned (.int .i64 (wrongRule m r).1) ∧
            Hid (NumsM w2 (w.heap.size + 1) (6 * (j + 1)) (wrongRule m r).2) ∧ Hid (Below w.heap.size w w2) ∧ w2.heap[w.heap.size]? = some (.cells #[.int .i64 0, .int .i64 0] 27 (0, 0)) ∧ w.heap.size + 2 ≤ w2.heap.size) :=
          (wrongRuleC (w.heap.size + 1) (6 * j) m r sv su _ (HM.out.later ((Later.refl _).alloc _)) (Kind.sl_neBelow hsv hB1 (by omega)) (Kind.sl_neBelow hsu hB1 (by omega)) (by omega)).mono fun e w2 ⟨he, h1, h2⟩ =>
            ⟨he, h1, below_trans hB1 (h2.below (n := w.heap.size) (by omega) (by simp; omega)) (Nat.le_refl _), by rw [h2.block w.heap.size (by simp; omega) (by omega), Below.heap_alloc _ _ _ (by omega)]; exact HR.out, by have := h2.size; simp at this; omega⟩
        obtain ⟨a2, c2, rfl⟩ := Kind.slice hsv
        obtain ⟨a3, c3, rfl⟩ := Kind.slice hsu
        clear hc hr hsv hsu hB1 HM HB HR
        generalize wrongRule m r = wrr at *
        obtain ⟨ex, m2⟩ := wrr
        dsimp only at *
        generalize bs r.head.name = nm at *
        generalize r.head.no = no at *
        by_cases h0 : ex = 0
        · subst h0
          have E2 : Hid (wrongP p = wrongGo m2 (j + 1) (p.drop (j + 1))) := by show _ = _; rw [HE.out, hst]; rfl
          clear hst HE
          go_wp2_with (go_at_call 59; refine HC.out.mono ?_; rintro e w2 ⟨rfl, hM2, hB2, hR2, hs2⟩; replace hR2 := hide hR2)
          go_roundg (p.length - (j + 1))
          case measure => omega
          case rel => exact ⟨j + 1, by omega, by go_num, m2, E2, hM2, hB2, hR2, hs2⟩
        · have E2 : Hid (wrongP p = (ex, j)) := by show _ = _; rw [HE.out, hst, if_neg h0]
          have hq : (ex != 0) = true := by simpa using h0
          clear hst HE h0
          go_wp2_with (go_at_call 59; refine HC.out.mono ?_; rintro e w2 ⟨rfl, hM2, hB2, hR2, hs2⟩; have q0 : w2.cell? ⟨w.heap.size, 0, none⟩ = some (.int .i64 0) := (by rw [cell_of_row _ _ _ _ _ _ hR2]; rfl); have q1 : w2.cell? ⟨w.heap.size, 1, none⟩ = some (.int .i64 0) := (by rw [cell_of_row _ _ _ _ _ _ hR2]; rfl); have p0 : w2.frozen? ⟨w.heap.size, 0, none⟩ = false := frozen_rowC 0 hR2; have p1 : w2.frozen? ⟨w.heap.size, 1, none⟩ = false := frozen_rowC 1 hR2; replace hR2 := hide hR2)
          obtain ⟨r0, r1⟩ := fault_two (unhide hR2) (.int .i64 ex) (.int .i64 j)
          refine bodyPost_ret (v := .agg #[.int .i64 ex, .int .i64 j]) (by simp [results, Tryz.results27, go_sem, r0, r1]) rfl ⟨ret_fault2 (by rw [E2.out]) (by rw [E2.out]), ?_⟩
          exact (hB2.out.setCell (Nat.le_refl _) _).setCell (Nat.le_refl _) _
      · have E2 : Hid (wrongP p = (0, 0)) := by show _ = _; rw [HE.out, List.drop_eq_nil_of_le (by omega)]; rfl
        have hR2 := HR.out
        have q0 : wr.cell? ⟨w.heap.size, 0, none⟩ = some (.int .i64 0) := by rw [cell_of_row _ _ _ _ _ _ hR2]; rfl
        have q1 : wr.cell? ⟨w.heap.size, 1, none⟩ = some (.int .i64 0) := by rw [cell_of_row _ _ _ _ _ _ hR2]; rfl
        have p0 : wr.frozen? ⟨w.heap.size, 0, none⟩ = false := frozen_rowC 0 hR2
        have p1 : wr.frozen? ⟨w.heap.size, 1, none⟩ = false := frozen_rowC 1 hR2
        clear hR2
        go_wp2
        obtain ⟨r0, r1⟩ := fault_two HR.out (.int .i64 0) (.int .i64 0)
        refine bodyPost_ret (v := .agg #[.int .i64 0, .int .i64 0]) (by simp [results, Tryz.results27, go_sem, r0, r1]) rfl ⟨ret_fault2 (by rw [E2.out]) (by rw [E2.out]; rfl), ?_⟩
        exact (HB.out.setCell (Nat.le_refl _) _).setCell (Nat.le_refl _) _

end Go.Proofs.YtbohggoeebhdmaaGreatDoor

/- The walks of check's behind, lifted and each. -/
namespace Go.Proofs.YtbohggoeebhdmaaGreatDoor
open Go.RowKit Go.Sort Go.Maps

set_option maxRecDepth 100000 in
set_option maxHeartbeats 1000000 in
theorem behindC (b n c : Nat) (m : Nums) (a : AtomD) (v : Value) (w : World) (h : NumsM w b n m) (hv : termK.sl Anyw w v a.terms) (hs : a.name.length ≤ maxLen) (hc : numOf m a.name ≤ c) (hcc : c ≤ 1000000) :
    Calls Tryz.prog 115 #[.map (some b), .agg #[.bool a.no, .string (bs a.name), v]] w fun e w' => e = .returned (.int .i64 (behind m a : Nat)) ∧ Later w w' := by
  obtain ⟨sa, cap, rfl⟩ := Kind.slice hv
  clear hv
  have h1 := h.later ((Later.refl w).alloc (.cells #[.bool a.no, .string (bs a.name), .slice sa a.terms.length cap] 40))
  have hr := NumM.lookOk (T := 108) h1 Tryz.underlying9 Tryz.underlying3 Tryz.underlying108 (zeroInt _) hs
  clear h h1
  cases hm : m a.name with
  | none =>
    have e0 : numOf m a.name = 0 := by unfold numOf; rw [hm]; rfl
    have F : Hid (behind m a = 0) := by show _ = _; unfold behind; rw [hm]
    rw [hm, e0] at hr
    clear hm e0 hc
    generalize bs a.name = nm at *
    generalize a.no = no at *
    go_enter Tryz.func115, Tryz.ntmps115
    go_wp2
    go_ret
    exact ⟨by rw [F.out]; rfl, (Later.refl _).alloc _⟩
  | some k =>
    have e0 : numOf m a.name = k := by unfold numOf; rw [hm]; rfl
    have F : Hid (behind m a = if a.no then k + 1 else k) := by show _ = _; unfold behind; rw [hm]
    rw [hm, e0] at hr
    rw [e0] at hc
    clear hm e0
    generalize bs a.name = nm at *
    generalize a.no = no at *
    cases no
    · go_enter Tryz.func115, Tryz.ntmps115
      go_wp2
      go_ret
      exact ⟨by rw [F.out]; rfl, (Later.refl _).alloc _⟩
    · have F2 : Hid (((behind m a : Nat) : Int) = (k : Int) + 1) := by show _ = _; rw [F.out]; simp
      go_enter Tryz.func115, Tryz.ntmps115
      go_wp2
      go_ret
      exact ⟨by rw [F2.out]; rfl, (Later.refl _).alloc _⟩

theorem behind_le {m : Nums} {c : Nat} (h : ∀ s, numOf m s ≤ c) (a : AtomD) : behind m a ≤ c + 1 := by
  have := h a.name
  unfold numOf at this
  unfold behind
  cases hm : m a.name with
  | none => simp
  | some k => rw [hm] at this; simp at this; simp only; split <;> omega
theorem liftAtom_le {h : Bs} {x : Nums × Bool} {c : Nat} (hc : ∀ s, numOf x.1 s ≤ c) (a : AtomD) : ∀ s, numOf (liftAtom h x a).1 s ≤ c + 1 := by
  intro s
  unfold liftAtom
  split
  · show numOf (x.1.put _ _) s ≤ _
    rw [numOf_put]
    split
    · exact behind_le hc a
    · have := hc s; omega
  · have := hc s; omega

theorem foldAtom_step {l : List AtomD} {q : Nat} {a : AtomD} (h : l[q]? = some a) (s : Bs) (y : Nums × Bool) : (l.drop q).foldl (liftAtom s) y = (l.drop (q + 1)).foldl (liftAtom s) (liftAtom s y a) := by
  obtain ⟨h1, e1⟩ := List.getElem?_eq_some_iff.1 h
  rw [List.drop_eq_getElem_cons h1, e1]; rfl
theorem liftAll_step {p : List RuleD} {j : Nat} {r : RuleD} (h : p[j]? = some r) (x : Nums × Bool) : liftAll x (p.drop j) = liftAll (liftRule x r) (p.drop (j + 1)) := by
  obtain ⟨h1, e1⟩ := List.getElem?_eq_some_iff.1 h
  rw [List.drop_eq_getElem_cons h1, e1]; rfl

/-- Names that may be keys, and not too many atoms. -/
def fineR (r : RuleD) : Prop := r.head.name.length ≤ maxLen ∧ r.body.length ≤ 5 ∧ ∀ a ∈ r.body, a.name.length ≤ maxLen

set_option maxRecDepth 100000 in
set_option maxHeartbeats 4000000 in
theorem liftedC (b n c : Nat) (m : Nums) (p : List RuleD) (v : Value) (w : World) (h : NumsM w b n m) (hv : ruleK.sl (fun k => k ≠ b) w v p) (hf : ∀ r ∈ p, fineR r) (hp : p.length ≤ 16) (hc : ∀ s, numOf m s ≤ c) (hn : n ≤ 100000) (hcc : c ≤ 100000) :
    Calls Tryz.prog 73 #[.map (some b), v] w fun e w' => e = .returned (.bool (liftAll (m, false) p).2) ∧ NumsM w' b (n + 80) (liftAll (m, false) p).1 ∧ Tn b w w' ∧ ∀ s, numOf (liftAll (m, false) p).1 s ≤ c + 80 := by
  have hbw := h.lt
  obtain ⟨sa, cap, rfl⟩ := Kind.slice hv
  have HV := hide hv
  have HF := hide hf
  have H0 := hide h
  have HC0 := hide hc
  clear hv hf h hc
  go_enter Tryz.func73, Tryz.ntmps73
  go_wp2
  go_loopg [5, 13] p.length (fun k s5 i wr => ∃ j : Nat, j + k = p.length ∧ i = .int .i64 j ∧ ∃ x : Nums × Bool, s5 = .bool x.2 ∧ Hid (liftAll (m, false) p = liftAll x (p.drop j)) ∧ Hid (NumsM wr b (n + 5 * j) x.1) ∧ Hid (Tn b w wr) ∧ Hid (∀ s, numOf x.1 s ≤ c + 5 * j))
  case atStart => exact ⟨0, by omega, rfl, (m, false), rfl, (rfl : _ = _), H0, Tn.refl _ _, HC0⟩
  case round =>
    obtain ⟨j, hj, rfl, x, rfl, HE, HM, HT, HC⟩ := hrel
    have hwr := HT.out.size
    by_cases hlt : j < p.length
    · obtain ⟨r, hr⟩ : ∃ x, p[j]? = some x := ⟨_, List.getElem?_eq_getElem hlt⟩
      obtain ⟨b1, o1, _, rfl, hb1, hbne, ⟨sv, su, rfl, hsv, hsu⟩, hcl⟩ := Kind.sl_atB HV.out hr
      have d0 : wr.cell? ⟨b1, o1 + j * 4, none⟩ = some (.bool r.head.no) := by rw [HT.out.cell hb1 hbne]; exact hcl 0 _ rfl
      have d1 : wr.cell? ⟨b1, o1 + j * 4 + 1, none⟩ = some (.string (bs r.head.name)) := by rw [HT.out.cell hb1 hbne]; exact hcl 1 _ rfl
      have d2 : wr.cell? ⟨b1, o1 + j * 4 + 2, none⟩ = some sv := by rw [HT.out.cell hb1 hbne]; exact hcl 2 _ rfl
      have d3 : wr.cell? ⟨b1, o1 + j * 4 + 3, none⟩ = some su := by rw [HT.out.cell hb1 hbne]; exact hcl 3 _ rfl
      obtain ⟨f1, f2, f3⟩ := HF.out r (List.mem_of_getElem? hr)
      have HS := hide (liftAll_step hr x)
      obtain ⟨a2, c2, rfl⟩ := Kind.slice hsv
      obtain ⟨a3, c3, rfl⟩ := Kind.slice hsu
      have HSU := hide hsu
      have HF3 := hide f3
      have hbl : r.body.length ≤ 5 := f2
      have hjp : j < 16 := by omega
      have hbr : b1 < wr.heap.size := by omega
      clear hcl hr hsv hsu f3 f2
      have hbwr : b < wr.heap.size := by omega
      have HM1 := hide (HM.out.later ((Later.refl wr).alloc (.cells #[.bool r.head.no, .string (bs r.head.name), .slice a2 r.head.terms.length c2, .slice a3 r.body.length c3] 43)))
      have HT1 := hide (HT.out.alloc (.cells #[.bool r.head.no, .string (bs r.head.name), .slice a2 r.head.terms.length c2, .slice a3 r.body.length c3] 43))
      have HZ1 : Hid ((wr.alloc (.cells #[.bool r.head.no, .string (bs r.head.name), .slice a2 r.head.terms.length c2, .slice a3 r.body.length c3] 43)).cell? ⟨wr.heap.size, 1, none⟩ = some (.string (bs r.head.name))) := by show _ = _; simp
      have hR1 : wr.heap.size < (wr.alloc (.cells #[.bool r.head.no, .string (bs r.head.name), .slice a2 r.head.terms.length c2, .slice a3 r.body.length c3] 43)).heap.size := by simp
      generalize hnm : bs r.head.name = nm at *
      have HNM := hide hnm
      clear hnm
      generalize r.head.no = no at *
      generalize hR : wr.heap.size = R at *
      clear HM HT
      go_wp2
      go_loopg [5, 20] r.body.length (fun k s5 i wr2 => ∃ q : Nat, q + k = r.body.length ∧ i = .int .i64 q ∧ ∃ y : Nums × Bool, s5 = .bool y.2 ∧ Hid (liftRule x r = (r.body.drop q).foldl (liftAtom r.head.name) y) ∧ Hid (NumsM wr2 b (n + 5 * j + q) y.1) ∧ Hid (Tn b w wr2) ∧ R < wr2.heap.size ∧ wr2.cell? ⟨R, 1, none⟩ = some (.string nm) ∧ Hid (∀ s, numOf y.1 s ≤ c + 5 * j + q))
      case atStart =>
        refine ⟨0, by omega, rfl, x, rfl, (rfl : _ = _), ?_, ?_, ?_, ?_, HC⟩
        · first | exact HM1 | (subst hR; exact HM1)
        · first | exact HT1 | (subst hR; exact HT1)
        · first | exact hR1 | (subst hR; exact hR1)
        · first | exact HZ1.out | (subst hR; exact HZ1.out)
      case round =>
        obtain ⟨q, hq, rfl, y, rfl, HE2, HMy, HTy, hRs, z1, HCy⟩ := hrel
        clear HM1 HT1 HZ1 hR1 d0 d1 d2 d3
        have hwr2 := HTy.out.size
        by_cases hlq : q < r.body.length
        · obtain ⟨a, ha⟩ : ∃ x, r.body[q]? = some x := ⟨_, List.getElem?_eq_getElem hlq⟩
          obtain ⟨b2, o2, _, rfl, hb2, hbne2, ⟨tv, rfl, htv⟩, hcl⟩ := Kind.sl_atB HSU.out ha
          have d0 : wr.cell? ⟨b2, o2 + q * 3, none⟩ = some (.bool a.no) := by rw [HTy.out.cell hb2 hbne2]; exact hcl 0 _ rfl
          have d1 : wr.cell? ⟨b2, o2 + q * 3 + 1, none⟩ = some (.string (bs a.name)) := by rw [HTy.out.cell hb2 hbne2]; exact hcl 1 _ rfl
          have d2 : wr.cell? ⟨b2, o2 + q * 3 + 2, none⟩ = some tv := by rw [HTy.out.cell hb2 hbne2]; exact hcl 2 _ rfl
          have hbr2 : b2 < wr.heap.size := by omega
          have hst := foldAtom_step ha r.head.name y
          have hle := liftAtom_le (h := r.head.name) HCy.out a
          have HLE := hide hle
          clear hle
          have HBh : Hid (Calls Tryz.prog 115 #[.map (some b), .agg #[.bool a.no, .string (bs a.name), tv]] (wr.alloc (.cells #[.bool a.no, .string (bs a.name), tv] 40)) fun e w2 => e = .returned (.int .i64 (behind y.1 a : Nat)) ∧
              (Instr.lookup 108 (.map (some b)) (.string nm) false).run Tryz.prog w2 = .ok (.int .i64 (numOf y.1 r.head.name : Nat)) w2 ∧ Hid (NumsM w2 b (n + 5 * j + q) y.1) ∧ Hid (Tn b w w2) ∧ R < w2.heap.size ∧ w2.cell? ⟨R, 1, none⟩ = some (.string nm)) := by
            have hbz : b ≠ R := by omega
            refine (behindC b (n + 5 * j + q) (c + 5 * j + q) y.1 a tv _ (HMy.out.later ((Later.refl _).alloc _)) (Kind.sl_below (Kind.sl_any (Kind.sl_tnb htv HTy.out)) ((Later.refl _).alloc _).below) (HF3.out a (List.mem_of_getElem? ha)) (HCy.out a.name) (by omega)).mono fun e w2 ⟨he, hL⟩ => ?_
            have hLL := ((Later.refl wr).alloc (.cells #[.bool a.no, .string (bs a.name), tv] 40)).trans hL
            have hM2 := HMy.out.later hLL
            refine ⟨he, ?_, hM2, HTy.out.trans (Tn.of_below hLL.below), Nat.lt_of_lt_of_le hRs hLL.size, by rw [hLL.cell (p := ⟨R, 1, none⟩) hRs]; exact z1⟩
            rw [← HNM.out]
            exact NumM.look (T := 108) hM2 Tryz.underlying9 Tryz.underlying3 Tryz.underlying108 (zeroInt _) f1
          obtain ⟨a4, c4, rfl⟩ := Kind.slice htv
          by_cases hlf : numOf y.1 r.head.name < behind y.1 a
          · have E3 : Hid (liftAtom r.head.name y a = (y.1.put r.head.name (behind y.1 a), true)) := by show _ = _; unfold liftAtom; rw [if_pos hlf]
            have HST : Hid (∀ w2, Hid (NumsM w2 b (n + 5 * j + q) y.1) → Hid (Tn b w w2) → R < w2.heap.size → w2.cell? ⟨R, 1, none⟩ = some (.string nm) → ∃ w3, (Instr.mapUpdate 108 (.map (some b)) (.string nm) (.int .i64 (behind y.1 a : Nat))).run Tryz.prog w2 = .ok () w3 ∧ Hid (NumsM w3 b (n + 5 * j + (q + 1)) (y.1.put r.head.name (behind y.1 a))) ∧ Hid (Tn b w w3) ∧ R < w3.heap.size ∧ w3.cell? ⟨R, 1, none⟩ = some (.string nm)) := fun w2 hM2 hT2 hs2 hz2 => by
              have hbh := behind_le HCy.out a
              obtain ⟨w3, hrun, hM3, hg⟩ := NumM.store (T := 108) hM2.out Tryz.underlying9 Tryz.underlying3 Tryz.underlying108 (by simp [maxLen]; omega) f1 (x := behind y.1 a) (wf_len (by omega))
              rw [HNM.out] at hrun
              exact ⟨w3, hrun, hM3, hT2.out.trans (Tn.of_grown hg), Nat.lt_of_lt_of_le hs2 hg.size, by rw [(Tn.of_grown hg).cell (x := ⟨R, 1, none⟩) hs2 (by show R ≠ b; omega)]; exact hz2⟩
            have E4 : Hid (liftRule x r = (r.body.drop (q + 1)).foldl (liftAtom r.head.name) (y.1.put r.head.name (behind y.1 a), true)) := by show _ = _; rw [HE2.out, hst, E3.out]
            have HLE2 : Hid (∀ s, numOf (y.1.put r.head.name (behind y.1 a)) s ≤ c + 5 * j + (q + 1)) := by intro s; have := HLE.out s; rw [E3.out] at this; exact this
            have hlz : ((numOf y.1 r.head.name : Nat) : Int) < ((behind y.1 a : Nat) : Int) := by omega
            clear hcl ha htv hst HE2 HMy HTy HCy HLE E3 hlf
            generalize y.1.put r.head.name (behind y.1 a) = m3 at *
            generalize behind y.1 a = be at *
            generalize numOf y.1 r.head.name = nu at *
            generalize bs a.name = na at *
            generalize a.no = an at *
            go_wp2_with (first
              | (go_at_call 115; refine HBh.out.mono ?_; rintro e w2 ⟨rfl, hlk, hM2, hT2, hs2, hz2⟩; obtain ⟨w3, hup, hM3, hT3, hs3, hz3⟩ := HST.out w2 hM2 hT2 hs2 hz2; replace hlk := hide hlk; replace hup := hide hup; replace hz3 := hide hz3)
              | (at_lookup; refine wpList_run_lookup _ rfl _ _ _ _ rfl _ _ _ rfl rfl (unhide hlk) ?_)
              | (at_mapUpdate; refine wpList_run_update _ rfl _ _ _ _ rfl _ _ _ _ rfl rfl rfl (unhide hup) ?_)
              | go_in)
            go_roundg (r.body.length - (q + 1))
            case measure => omega
            case rel => exact ⟨q + 1, by omega, by go_num, (m3, true), rfl, E4, hM3, hT3, hs3, unhide hz3, HLE2⟩
          · have E3 : Hid (liftAtom r.head.name y a = y) := by show _ = _; unfold liftAtom; rw [if_neg hlf]
            have E4 : Hid (liftRule x r = (r.body.drop (q + 1)).foldl (liftAtom r.head.name) y) := by show _ = _; rw [HE2.out, hst, E3.out]
            have HLE2 : Hid (∀ s, numOf y.1 s ≤ c + 5 * j + (q + 1)) := by intro s; have := HCy.out s; omega
            have hlz : ¬ ((numOf y.1 r.head.name : Nat) : Int) < ((behind y.1 a : Nat) : Int) := by omega
            clear hcl ha htv hst HE2 HMy HTy HCy HLE E3 hlf
            generalize behind y.1 a = be at *
            generalize numOf y.1 r.head.name = nu at *
            generalize bs a.name = na at *
            generalize a.no = an at *
            go_wp2_with (first
              | (go_at_call 115; refine HBh.out.mono ?_; rintro e w2 ⟨rfl, hlk, hM2, hT2, hs2, hz2⟩; replace hlk := hide hlk)
              | (at_lookup; refine wpList_run_lookup _ rfl _ _ _ _ rfl _ _ _ rfl rfl (unhide hlk) ?_)
              | go_in)
            go_roundg (r.body.length - (q + 1))
            case measure => omega
            case rel => exact ⟨q + 1, by omega, by go_num, y, rfl, E4, hM2.out.mono (by omega), hT2, hs2, hz2, HLE2⟩
        · have E3 : Hid (liftRule x r = y) := by show _ = _; rw [HE2.out, List.drop_eq_nil_of_le (by omega)]; rfl
          have E4 : Hid (liftAll (m, false) p = liftAll y (p.drop (j + 1))) := by show _ = _; rw [HE.out, HS.out, E3.out]
          go_wp2
          go_roundg (p.length - (j + 1))
          case measure => omega
          case rel => exact ⟨j + 1, by omega, by go_num, y, rfl, E4, HMy.out.mono (by omega), HTy, fun s => by have := HCy.out s; omega⟩
    · have E2 : Hid (liftAll (m, false) p = x) := by show _ = _; rw [HE.out, List.drop_eq_nil_of_le (by omega)]; rfl
      go_wp2
      go_ret
      exact ⟨by rw [E2.out]; rfl, by rw [E2.out]; exact HM.out.mono (by omega), HT.out, by rw [E2.out]; intro s; have := HC.out s; omega⟩

end Go.Proofs.YtbohggoeebhdmaaGreatDoor

/- The walks of check's each and Strata. -/
namespace Go.Proofs.YtbohggoeebhdmaaGreatDoor
open Go.RowKit Go.Sort Go.Maps

/-- A number lies in one cell. -/
def intK : Kind Nat where
  size := 1
  is := fun _ _ c n => c = [.int .i64 (n : Int)]
  len := fun h => by subst h; rfl
  one := fun h u hu => by subst h; simp at hu; subst hu; rfl
  kept := fun h _ _ => h
  mono := fun h _ => h

theorem infoInt : ∃ i, Tryz.prog.info? 3 = some i ∧ i.zero = some (.int .i64 0) ∧ i.size = 1 ∧ i.bytes = 8 := ⟨Tryz.t3, by kernel_rfl, by kernel_rfl, by kernel_rfl, by kernel_rfl⟩

theorem appendIntC {lo : Nat} {w : World} {v : Value} {l : List Nat} (h : intK.own 3 lo w v l) {x : Nat} (hl : l.length + 1 ≤ 1099511627776) (hlo : lo ≤ w.heap.size) :
    ∃ v' w', (Builtin.append_ #[33, 33] 33 #[v, .slice (some ⟨w.heap.size, 0, none⟩) 1 1]).run Tryz.prog (w.alloc (.cells #[.int .i64 (x : Int)] 3)) = .ok v' w' ∧ intK.own 3 lo w' v' (l ++ [x]) ∧ (w.alloc (.cells #[.int .i64 (x : Int)] 3)).grownBy w' v.ownBlock := by
  obtain ⟨i, i1, i2, i3, i4⟩ := infoInt
  exact Kind.own_append h Tryz.underlying33 i1 i2 i3 i4 rfl (by decide) (by decide) (c := [.int .i64 (x : Int)]) rfl hl hlo

theorem each_step {p : List RuleD} {j : Nat} {r : RuleD} (h : p[j]? = some r) (m : Nums) : each m (p.take (j + 1)) = each m (p.take j) ++ [numOf m r.head.name] := by
  rw [List.take_add_one, h]; simp [each]

set_option maxRecDepth 100000 in
set_option maxHeartbeats 2000000 in
theorem eachC (b n : Nat) (m : Nums) (p : List RuleD) (v : Value) (w : World) (h : NumsM w b n m) (hv : ruleK.sl Anyw w v p) (hf : ∀ r ∈ p, fineR r) (hp : p.length ≤ 16) :
    Calls Tryz.prog 74 #[.map (some b), v] w fun e w' => ∃ u, e = .returned u ∧ intK.own 3 w.heap.size w' u (each m p) ∧ Below w.heap.size w w' := by
  obtain ⟨sa, cap, rfl⟩ := Kind.slice hv
  have HV := hide hv
  have HF := hide hf
  have H0 := hide h
  have hbw := h.lt
  clear hv hf h
  go_enter Tryz.func74, Tryz.ntmps74
  go_wp2
  go_loopg [5, 10] p.length (fun k o i wr => ∃ j : Nat, j + k = p.length ∧ i = .int .i64 j ∧ Hid (intK.own 3 w.heap.size wr o (each m (p.take j))) ∧ Hid (Below w.heap.size w wr))
  case atStart => exact ⟨0, by omega, rfl, intK.own_nil _ _ _, Below.refl _ _⟩
  case round =>
    obtain ⟨j, hj, rfl, HO, HB⟩ := hrel
    obtain ⟨ao, co, rfl⟩ := Kind.own_slice HO.out
    have hwr := HB.out.size
    by_cases hlt : j < p.length
    · obtain ⟨r, hr⟩ : ∃ x, p[j]? = some x := ⟨_, List.getElem?_eq_getElem hlt⟩
      obtain ⟨b1, o1, _, rfl, hb1, ⟨sv, su, rfl, hsv, hsu⟩, hcl⟩ := Kind.sl_at HV.out hr
      have d0 : wr.cell? ⟨b1, o1 + j * 4, none⟩ = some (.bool r.head.no) := by rw [HB.out.cell hb1]; exact hcl 0 _ rfl
      have d1 : wr.cell? ⟨b1, o1 + j * 4 + 1, none⟩ = some (.string (bs r.head.name)) := by rw [HB.out.cell hb1]; exact hcl 1 _ rfl
      have d2 : wr.cell? ⟨b1, o1 + j * 4 + 2, none⟩ = some sv := by rw [HB.out.cell hb1]; exact hcl 2 _ rfl
      have d3 : wr.cell? ⟨b1, o1 + j * 4 + 3, none⟩ = some su := by rw [HB.out.cell hb1]; exact hcl 3 _ rfl
      have hbr : b1 < wr.heap.size := by omega
      have E := hide (each_step hr m)
      have hlen : (each m (p.take j)).length = j := by simp [each]; omega
      have f1 := (HF.out r (List.mem_of_getElem? hr)).1
      have hlk := hide (NumM.look (T := 108) ((H0.out.below HB.out).later ((Later.refl wr).alloc (.cells #[.bool r.head.no, .string (bs r.head.name), sv, su] 43))) Tryz.underlying9 Tryz.underlying3 Tryz.underlying108 (zeroInt _) f1)
      have hOA := Kind.own_turned HO.out ((Tn.refl b wr).alloc (.cells #[.bool r.head.no, .string (bs r.head.name), sv, su] 43)) hbw
      obtain ⟨v', w4, hrun, o4, g4⟩ := appendIntC hOA (x := numOf m r.head.name) (by rw [hlen]; omega) (by simp; omega)
      have HO4 : Hid (intK.own 3 w.heap.size w4 v' (each m (p.take (j + 1)))) := by show intK.own _ _ _ _ _; rw [E.out]; exact o4
      have HB4 : Hid (Below w.heap.size w w4) := by
        refine below_trans ((HB.out.alloc hwr _).alloc (by simp; omega) _) ⟨g4.os, g4.tape, g4.output, g4.size, fun k hk => g4.block k (by simp; omega) (fun e => ?_)⟩ (Nat.le_refl _)
        have := (Kind.own_lt hOA e.symm).1
        omega
      rw [hlen] at hrun
      simp only [World.size_alloc] at hrun
      replace hrun := hide hrun
      rw [hlen]
      obtain ⟨a2, c2, rfl⟩ := Kind.slice hsv
      obtain ⟨a3, c3, rfl⟩ := Kind.slice hsu
      clear hcl hr hsv hsu hOA o4 g4 HO HB E f1
      clear hlen
      generalize numOf m r.head.name = nu at *
      generalize bs r.head.name = nm at *
      generalize r.head.no = no at *
      go_wp2_with (first
        | (at_lookup; refine wpList_run_lookup _ rfl _ _ _ _ rfl _ _ _ rfl rfl (unhide hlk) ?_)
        | (at_builtin; refine wpList_append_run rfl (.tmp 14) (.tmp 20) 33 rfl _ _ _ _ rfl rfl (unhide hrun) ?_)
        | go_in)
      go_roundg (p.length - (j + 1))
      case measure => omega
      case rel => exact ⟨j + 1, by omega, by go_num, HO4, HB4⟩
    · have e : j = p.length := by omega
      subst e
      have HO2 : Hid (intK.own 3 w.heap.size wr (.slice ao (each m (p.take p.length)).length co) (each m p)) := by have := HO.out; rw [List.take_length] at this ⊢; exact this
      go_wp2
      go_ret
      exact ⟨_, rfl, HO2.out, HB.out⟩

theorem wrongGo_fine (l : List RuleD) : ∀ (m : Nums) (i : Nat), (wrongGo m i l).1 = 0 → ∀ r ∈ l, fineR r := by
  induction l with
  | nil => intro m i _ r hr; cases hr
  | cons q l ih =>
    intro m i h r hr
    unfold wrongGo at h
    split at h
    · rename_i h0
      rcases List.mem_cons.1 hr with rfl | hr
      · unfold wrongRule at h0
        split at h0
        · rename_i h1
          split at h0
          · cases h0
          · split at h0
            · rename_i h2
              obtain ⟨k1, k2⟩ := wrongBody_zero h2
              exact ⟨short_max (wrongAtom_zero h1).1, k1, fun a ha => short_max (wrongAtom_zero (k2 a ha)).1⟩
            · rename_i h2; exact absurd h0 h2
        · rename_i h1; exact absurd h0 h1
      · exact ih _ _ h r hr
    · rename_i h0; exact absurd h h0
theorem wrongP_fine {p : List RuleD} (h : (wrongP p).1 = 0) : p.length ≤ 16 ∧ ∀ r ∈ p, fineR r := by
  unfold wrongP at h
  split at h
  · cases h
  · exact ⟨by omega, wrongGo_fine p _ _ h⟩

theorem startGo_step {p : List RuleD} {j : Nat} {r : RuleD} (h : p[j]? = some r) (m : Nums) : startGo m (p.take (j + 1)) = (startGo m (p.take j)).put r.head.name 0 := by
  rw [List.take_add_one, h]; simp [startGo, List.foldl_append]

theorem Kind.sl_setCell {α : Type} {K : Kind α} {lo R i : Nat} {w : World} {v : Value} {l : List α} (h : K.sl (From lo) w v l) (hR : R < lo) (x : Value) : K.sl (From lo) (w.setCell ⟨R, i, none⟩ x) v l :=
  Kind.sl_kept h (by rw [size_setCell]; exact Nat.le_refl _) fun k _ hB => heap_setCell_other _ _ _ (by have : lo ≤ k := hB; show k ≠ R; omega)

set_option maxRecDepth 100000 in
set_option maxHeartbeats 4000000 in
theorem strataC (p : List RuleD) (v : Value) (w : World) (hv : ruleK.sl Anyw w v p) :
    Calls Tryz.prog 39 #[v] w fun e w' => ∃ u, e = .returned (.tuple #[u, .agg #[.int .i64 (strataP p).2.1, .int .i64 ((strataP p).2.2 : Nat)]]) ∧ intK.sl (From w.heap.size) w' u (strataP p).1 ∧ Below w.heap.size w w' := by
  obtain ⟨sa, cap, rfl⟩ := Kind.slice hv
  have HV := hide hv
  have hl0 := hv.1.1
  have HW : Hid (Calls Tryz.prog 27 #[.slice sa p.length cap] (w.alloc (.cells #[.int .i64 0, .int .i64 0] 27)) fun e w2 => e = .returned (.agg #[.int .i64 (wrongP p).1, .int .i64 ((wrongP p).2 : Nat)]) ∧ Hid (Below w.heap.size w w2) ∧ w2.heap[w.heap.size]? = some (.cells #[.int .i64 0, .int .i64 0] 27 (0, 0)) ∧ w.heap.size < w2.heap.size) :=
    (wrongC p _ _ (Kind.sl_below hv ((Later.refl w).alloc _).below)).mono fun e w2 ⟨he, hb⟩ => ⟨he, below_trans ((Later.refl w).alloc _).below hb (by simp), by rw [hb.block w.heap.size (by simp), heap_alloc_new], by have := hb.size; simp at this; omega⟩
  clear hv
  have hmm := @run_makeMap Tryz.prog
  generalize hwp : wrongP p = wp at *
  obtain ⟨ex, ea⟩ := wp
  dsimp only at *
  by_cases h0 : ex = 0
  · subst h0
    obtain ⟨hp16, hfine⟩ := wrongP_fine (p := p) (by rw [hwp])
    have HFi := hide hfine
    have F : Hid (strataP p = match strataGo p (p.length + 1) (start p) with | some m => (each m p, 0, 0) | none => ([], 10, 0)) := by
      show _ = _
      unfold strataP
      rw [hwp, if_pos rfl]
      cases strataGo p (p.length + 1) (start p) <;> rfl
    clear hwp hfine
    go_enter Tryz.func39, Tryz.ntmps39
    go_wp2_with (go_at_call 27; refine HW.out.mono ?_; rintro e w2 ⟨rfl, hB2, hR2, hs2⟩; replace hR2 := hide hR2)
    have hwz := hB2.out.size
    go_loopg [17] p.length (fun k i wr => ∃ j : Nat, j + k = p.length ∧ i = .int .i64 j ∧ Hid (NumsM wr (w2.heap.size + 1) j (startGo (fun _ => none) (p.take j))) ∧ Hid (Below w.heap.size w wr) ∧ Hid (wr.heap[w.heap.size]? = some (.cells #[.int .i64 0, .int .i64 0] 27 (0, 0))) ∧ w2.heap.size + 2 ≤ wr.heap.size)
    case atStart =>
      refine ⟨0, by omega, rfl, ?_, ?_, ?_, by simp⟩
      · have := NumM.made Tryz.prog 9 3 (w2.alloc (.cells #[.int .i64 0, .int .i64 (ea : Int)] 27))
        rw [World.size_alloc] at this
        exact this
      · exact (hB2.out.alloc hwz _).alloc (by simp; omega) _
      · show _ = _
        rw [Below.heap_alloc _ _ _ (by simp; omega), Below.heap_alloc _ _ _ hs2]
        exact unhide hR2
    case round =>
      obtain ⟨j, hj, rfl, HM, HB, HR, hsz⟩ := hrel
      clear hB2 hR2
      by_cases hlt : j < p.length
      · obtain ⟨r, hr⟩ : ∃ x, p[j]? = some x := ⟨_, List.getElem?_eq_getElem hlt⟩
        obtain ⟨b1, o1, _, rfl, hb1, ⟨sv, su, rfl, hsv, hsu⟩, hcl⟩ := Kind.sl_at HV.out hr
        have d0 : wr.cell? ⟨b1, o1 + j * 4, none⟩ = some (.bool r.head.no) := by rw [HB.out.cell hb1]; exact hcl 0 _ rfl
        have d1 : wr.cell? ⟨b1, o1 + j * 4 + 1, none⟩ = some (.string (bs r.head.name)) := by rw [HB.out.cell hb1]; exact hcl 1 _ rfl
        have d2 : wr.cell? ⟨b1, o1 + j * 4 + 2, none⟩ = some sv := by rw [HB.out.cell hb1]; exact hcl 2 _ rfl
        have d3 : wr.cell? ⟨b1, o1 + j * 4 + 3, none⟩ = some su := by rw [HB.out.cell hb1]; exact hcl 3 _ rfl
        have hbr : b1 < wr.heap.size := by omega
        have E := hide (startGo_step hr (fun _ => none))
        have f1 := (HFi.out r (List.mem_of_getElem? hr)).1
        obtain ⟨w4, hup, hM4, hg⟩ := NumM.store (T := 108) (HM.out.later ((Later.refl wr).alloc (.cells #[.bool r.head.no, .string (bs r.head.name), sv, su] 43))) Tryz.underlying9 Tryz.underlying3 Tryz.underlying108 (by simp [maxLen]; omega) f1 (x := 0) (wf_len (by omega))
        have hgs := hg.size
        simp only [World.size_alloc] at hgs
        have HM4 : Hid (NumsM w4 (w2.heap.size + 1) (j + 1) (startGo (fun _ => none) (p.take (j + 1)))) := by show NumsM _ _ _ _; rw [E.out]; exact hM4
        have HB4 : Hid (Below w.heap.size w w4) := below_trans (HB.out.alloc HB.out.size _) ((Tn.of_grown hg).below (n := w.heap.size) (by omega) (by simp; omega)) (Nat.le_refl _)
        have HR4 : Hid (w4.heap[w.heap.size]? = some (.cells #[.int .i64 0, .int .i64 0] 27 (0, 0))) := by
          show _ = _
          rw [(Tn.of_grown hg).block w.heap.size (by simp; omega) (by omega), Below.heap_alloc _ _ _ (by omega)]
          exact HR.out
        have hs4 : w2.heap.size + 2 ≤ w4.heap.size := by omega
        have hup2 : Hid ((Instr.mapUpdate 108 (.map (some (w2.heap.size + 1))) (.string (bs r.head.name)) (.int .i64 0)).run Tryz.prog (wr.alloc (.cells #[.bool r.head.no, .string (bs r.head.name), sv, su] 43)) = .ok () w4) := hup
        obtain ⟨a2, c2, rfl⟩ := Kind.slice hsv
        obtain ⟨a3, c3, rfl⟩ := Kind.slice hsu
        clear hcl hr hsv hsu hM4 hg hup HM HB HR E f1 hgs
        generalize bs r.head.name = nm at *
        generalize r.head.no = no at *
        go_wp2_with (first
          | (at_mapUpdate; refine wpList_run_update _ rfl _ _ _ _ rfl _ _ _ _ rfl rfl rfl (unhide hup2) ?_)
          | go_in)
        go_roundg (p.length - (j + 1))
        case measure => omega
        case rel => exact ⟨j + 1, by omega, by go_num, HM4, HB4, HR4, hs4⟩
      · have e : j = p.length := by omega
        subst e
        have HM2 : Hid (NumsM wr (w2.heap.size + 1) (16 + 80 * 0) (start p)) := by have := HM.out; rw [List.take_length] at this; exact this.mono (by omega)
        have HN2 : Hid (∀ s, numOf (start p) s ≤ 80 * 0) := fun s => by rw [start_zero]; exact Nat.zero_le _
        clear HM
        go_wp2
        go_loopg [29] (p.length + 1) (fun k i wr2 => ∃ t : Nat, t + k = p.length + 1 ∧ i = .int .i64 t ∧ ∃ m, Hid (strataGo p (p.length + 1) (start p) = strataGo p k m) ∧ Hid (NumsM wr2 (w2.heap.size + 1) (16 + 80 * t) m) ∧ Hid (∀ s, numOf m s ≤ 80 * t) ∧ Hid (Below w.heap.size w wr2) ∧ Hid (wr2.heap[w.heap.size]? = some (.cells #[.int .i64 0, .int .i64 0] 27 (0, 0))) ∧ w2.heap.size + 2 ≤ wr2.heap.size)
        case atStart => exact ⟨0, by omega, rfl, start p, (rfl : _ = _), HM2, HN2, HB, HR, hsz⟩
        case round =>
          obtain ⟨t, ht, rfl, m, HE, HMt, HNt, HBt, HRt, hst⟩ := hrel
          clear HM2 HN2 HB HR hsz
          by_cases hlt : t < p.length + 1
          · obtain ⟨k, rfl⟩ : ∃ k', gk = k' + 1 := ⟨p.length - t, by omega⟩
            have HL : Hid (Calls Tryz.prog 73 #[.map (some (w2.heap.size + 1)), .slice sa p.length cap] wr fun e w5 => e = .returned (.bool (liftAll (m, false) p).2) ∧ Hid (NumsM w5 (w2.heap.size + 1) (16 + 80 * (t + 1)) (liftAll (m, false) p).1) ∧ Hid (∀ s, numOf (liftAll (m, false) p).1 s ≤ 80 * (t + 1)) ∧ Hid (Below w.heap.size w w5) ∧ Hid (w5.heap[w.heap.size]? = some (.cells #[.int .i64 0, .int .i64 0] 27 (0, 0))) ∧ w2.heap.size + 2 ≤ w5.heap.size) :=
              (liftedC _ _ (80 * t) m p _ wr HMt.out (Kind.sl_neBelow HV.out HBt.out (by omega)) HFi.out hp16 HNt.out (by omega) (by omega)).mono fun e w5 ⟨he, h1, h2, h3⟩ =>
                ⟨he, h1.mono (by omega), fun s => by have := h3 s; omega, below_trans HBt.out (h2.below (n := w.heap.size) (by omega) (by omega)) (Nat.le_refl _), by show _ = _; rw [h2.block w.heap.size (by omega) (by omega)]; exact HRt.out, by have := h2.size; omega⟩
            have hgo : strataGo p (k + 1) m = if (liftAll (m, false) p).2 then strataGo p k (liftAll (m, false) p).1 else some (liftAll (m, false) p).1 := rfl
            clear HMt HNt HBt HRt
            generalize liftAll (m, false) p = la at *
            obtain ⟨m2, lb⟩ := la
            dsimp only at *
            cases lb
            · have F2 : Hid (strataP p = (each m2 p, 0, 0)) := by show _ = _; rw [F.out, HE.out, hgo]; rfl
              have HEa : Hid (∀ w5, Hid (NumsM w5 (w2.heap.size + 1) (16 + 80 * (t + 1)) m2) → Hid (Below w.heap.size w w5) → Hid (w5.heap[w.heap.size]? = some (.cells #[.int .i64 0, .int .i64 0] 27 (0, 0))) → w2.heap.size + 2 ≤ w5.heap.size → Calls Tryz.prog 74 #[.map (some (w2.heap.size + 1)), .slice sa p.length cap] w5 fun e w6 => ∃ u, e = .returned u ∧ Hid (intK.sl (From (w.heap.size + 1)) w6 u (each m2 p)) ∧ Hid (Below w.heap.size w w6) ∧ w6.heap[w.heap.size]? = some (.cells #[.int .i64 0, .int .i64 0] 27 (0, 0))) := fun w5 h1 h2 h3 h4 =>
                (eachC _ _ m2 p _ w5 h1.out (Kind.sl_below HV.out h2.out) HFi.out hp16).mono fun e w6 ⟨u, he, ho, hb⟩ =>
                  ⟨u, he, Kind.sl_mono (Kind.own_sl ho (by simp [each]; omega)) fun k _ hk => by have : w5.heap.size ≤ k := hk; show w.heap.size + 1 ≤ k; omega, below_trans h2.out hb h2.out.size, by rw [hb.block w.heap.size (by omega)]; exact h3.out⟩
              clear hgo HE F
              go_wp2_with (first
                | (go_at_call 73; refine HL.out.mono ?_; rintro e w5 ⟨rfl, hM5, hN5, hB5, hR5, hs5⟩)
                | (go_at_call 74; refine (HEa.out w5 hM5 hB5 hR5 hs5).mono ?_; rintro e w6 ⟨u, rfl, hU6, hB6, hR6⟩; have q0 : w6.cell? ⟨w.heap.size, 0, none⟩ = some (.int .i64 0) := (by rw [cell_of_row _ _ _ _ _ _ hR6]; rfl); have q1 : w6.cell? ⟨w.heap.size, 1, none⟩ = some (.int .i64 0) := (by rw [cell_of_row _ _ _ _ _ _ hR6]; rfl); have p0 : w6.frozen? ⟨w.heap.size, 0, none⟩ = false := frozen_rowC 0 hR6; have p1 : w6.frozen? ⟨w.heap.size, 1, none⟩ = false := frozen_rowC 1 hR6; replace hR6 := hide hR6))
              obtain ⟨r0, r1⟩ := fault_two (unhide hR6) (.int .i64 0) (.int .i64 0)
              refine bodyPost_ret (v := .tuple #[u, .agg #[.int .i64 0, .int .i64 0]]) (by simp [results, Tryz.results39, go_sem, r0, r1]) rfl ⟨u, by rw [F2.out]; rfl, ?_, ?_⟩
              · rw [F2.out]
                exact Kind.sl_mono (Kind.sl_setCell (Kind.sl_setCell hU6.out (Nat.lt_succ_self _) _) (Nat.lt_succ_self _) _) fun k _ hk => by have : w.heap.size + 1 ≤ k := hk; show w.heap.size ≤ k; omega
              · exact (hB6.out.setCell (Nat.le_refl _) _).setCell (Nat.le_refl _) _
            · have E2 : Hid (strataGo p (p.length + 1) (start p) = strataGo p k m2) := by show _ = _; rw [HE.out, hgo]; rfl
              clear hgo HE
              go_wp2_with (go_at_call 73; refine HL.out.mono ?_; rintro e w5 ⟨rfl, hM5, hN5, hB5, hR5, hs5⟩)
              go_roundg k
              case measure => omega
              case rel => exact ⟨t + 1, by omega, by go_num, m2, E2, hM5, hN5, hB5, hR5, hs5⟩
          · obtain rfl : gk = 0 := by omega
            have F2 : Hid (strataP p = ([], 10, 0)) := by show _ = _; rw [F.out, HE.out]; rfl
            have hR6 := HRt.out
            have q0 : wr.cell? ⟨w.heap.size, 0, none⟩ = some (.int .i64 0) := (by rw [cell_of_row _ _ _ _ _ _ hR6]; rfl); have q1 : wr.cell? ⟨w.heap.size, 1, none⟩ = some (.int .i64 0) := (by rw [cell_of_row _ _ _ _ _ _ hR6]; rfl); have p0 : wr.frozen? ⟨w.heap.size, 0, none⟩ = false := frozen_rowC 0 hR6; have p1 : wr.frozen? ⟨w.heap.size, 1, none⟩ = false := frozen_rowC 1 hR6
            clear hR6
            go_wp2
            obtain ⟨r0, r1⟩ := fault_two HRt.out (.int .i64 10) (.int .i64 0)
            refine bodyPost_ret (v := .tuple #[.slice none 0 0, .agg #[.int .i64 10, .int .i64 0]]) (by simp [results, Tryz.results39, go_sem, r0, r1]) rfl ⟨.slice none 0 0, by rw [F2.out]; rfl, by rw [F2.out]; exact intK.sl_nil _ _ _ _, ?_⟩
            exact (HBt.out.setCell (Nat.le_refl _) _).setCell (Nat.le_refl _) _
  · have F : Hid (strataP p = ([], ex, ea)) := by show _ = _; unfold strataP; rw [hwp, if_neg h0]
    have hq : (ex != 0) = true := by simpa using h0
    clear h0 hwp HV
    go_enter Tryz.func39, Tryz.ntmps39
    go_wp2_with (go_at_call 27; refine HW.out.mono ?_; rintro e w2 ⟨rfl, hB2, hR2, hs2⟩; have q0 : w2.cell? ⟨w.heap.size, 0, none⟩ = some (.int .i64 0) := (by rw [cell_of_row _ _ _ _ _ _ hR2]; rfl); have q1 : w2.cell? ⟨w.heap.size, 1, none⟩ = some (.int .i64 0) := (by rw [cell_of_row _ _ _ _ _ _ hR2]; rfl); have p0 : w2.frozen? ⟨w.heap.size, 0, none⟩ = false := frozen_rowC 0 hR2; have p1 : w2.frozen? ⟨w.heap.size, 1, none⟩ = false := frozen_rowC 1 hR2; replace hR2 := hide hR2)
    go_region
    go_wp2
    obtain ⟨r0, r1⟩ := fault_two (unhide hR2) (.int .i64 ex) (.int .i64 (ea : Int))
    have hL := ((Later.refl ((w2.setCell ⟨w.heap.size, 0, none⟩ (.int .i64 ex)).setCell ⟨w.heap.size, 1, none⟩ (.int .i64 (ea : Int)))).alloc (.cells #[.int .i64 ex, .int .i64 (ea : Int)] 27)).drew
    rw [← hL.cell (p := ⟨w.heap.size, 0, none⟩) (by simp only [size_setCell]; exact hs2)] at r0
    rw [← hL.cell (p := ⟨w.heap.size, 1, none⟩) (by simp only [size_setCell]; exact hs2)] at r1
    refine bodyPost_ret (v := .tuple #[.slice none 0 0, .agg #[.int .i64 ex, .int .i64 (ea : Int)]]) (by simp [results, Tryz.results39, go_sem, r0, r1]) rfl ⟨.slice none 0 0, by rw [F.out], by rw [F.out]; exact intK.sl_nil _ _ _ _, ?_⟩
    exact below_trans ((hB2.out.setCell (Nat.le_refl _) _).setCell (Nat.le_refl _) _) hL.below (by simp only [size_setCell]; exact Nat.le_of_lt hs2)

end Go.Proofs.YtbohggoeebhdmaaGreatDoor

/- The walk of naive.Once. -/
namespace Go.Proofs.YtbohggoeebhdmaaGreatDoor
open Go.RowKit Go.Sort Go.Maps

/-- What Once, and all behind it, tells. -/
def OnceT (w : World) (v : Value) (er : Int) (a : Int × List FactB) : Prop := er = a.1 ∧ (a.1 ≠ 0 → v = .slice none 0 0) ∧ (a.1 = 0 → Facts w v a.2)

theorem onceGo_none (n : Int) (fs : List FactB) (p : List RuleD) (acc : List FactB) : onceGo n fs p [] acc = (0, setF acc) := by cases p <;> rfl

theorem setF_short {L : List FactB} (h : ∀ f ∈ L, ShortF f) : ∀ f ∈ setF L, ShortF f := fun f hf => h f (mem_setF.1 hf)

theorem wpList_len_known {P : Program} {K E : TypeId} {L : List FactB} {b n : Nat} (w : World) {ops : Array Oper} {rest : List Oper} {o : Oper} {a : Act} {Q : Exit → Act → World → Prop} (hg : o.guard = none) (m : Operand) (t : TypeId)
    (hop : o.op = Op.call { callee := Callee.builtin Builtin.len, args := #[m], argTypes := #[t] }) (ht : P.underlying t = some (.map K E)) (hm : a.eval m = .map (some b)) (h : KnownM P K w b n L)
    (hK : wpList P ops Q rest (a.put o.dst (.int .i64 ((setF L).length : Nat))) w) : wpList P ops Q (o :: rest) a w := by
  refine wpList_plain hg fun K' hK' => ?_
  unfold Oper.wp
  simp [execOp, hop, resolve, invoke, builtin, hm, h.len ht o.type, Result.andThen]
  exact hK' _ _ hK

set_option maxRecDepth 100000 in
set_option maxHeartbeats 4000000 in
theorem onceC (p : List RuleD) (ss : List Nat) (n : Int) (fs : List FactB) (pv sv fv : Value) (w : World) (hp : ruleK.sl Anyw w pv p) (hss : intK.sl Anyw w sv ss) (hf : Facts w fv fs) (h16 : p.length ≤ 16) (hfew : fs.length ≤ 200)
    (hok : ∀ r ∈ p, errW r.body fs [] = 0) (hsh : ∀ r ∈ p, ∀ R, allB (fun _ => fs) r.body = some R → ∀ l ∈ R, ∀ f, fillB r.head l = some f → ShortF f) (hfs : ∀ f ∈ fs, ShortF f) :
    Calls Tryz.prog 18 #[pv, sv, .int .i64 n, fv] w fun e w' => ∃ v' er, e = .returned (.tuple #[v', .int .i64 er]) ∧ OnceT w' v' er (onceP p ss n fs) ∧ Below w.heap.size w w' := by
  obtain ⟨pa, pc, rfl⟩ := Kind.slice hp
  obtain ⟨sa, sc, rfl⟩ := Kind.slice hss
  obtain ⟨fa, fc, rfl⟩ := sliceFacts hf
  have hsl := hss.1.1
  have HP := hide hp
  have HSS := hide hss
  have HF := hide hf
  have HOk := hide hok
  have HSh := hide hsh
  have hL1 : Later w (w.alloc (.map #[] 0)) := (Later.refl w).alloc _
  have HAd := hide (knownAdd w.heap.size 0 [] (.slice fa fs.length fc) fs (w.alloc (.map #[] 0)) (KnownM.made _ _ _) (hf.later hL1) hfs (by omega))
  have HL1 := hide hL1.below
  have hmm := @run_makeMap Tryz.prog
  clear hp hss hf hok hsh hfs hL1
  go_enter Tryz.func18, Tryz.ntmps18
  go_wp2_with fail
  refine HAd.out.mono ?_
  rintro e w2 ⟨⟨u2, rfl⟩, hK2, hT2⟩
  have HK2 : Hid (KnN w2 w.heap.size (0 + fs.length) fs) := by show KnN _ _ _ _; simpa using hK2
  have HB2 : Hid (Below w.heap.size w w2) := HL1.out.trans (hT2.below (Nat.le_refl _) (by simp))
  clear hK2 hT2 HAd HL1 hmm
  go_wp2
  go_loopg [21] p.length (fun g i wr => ∃ j : Nat, j + g = p.length ∧ i = .int .i64 j ∧ ∃ acc m, m ≤ 200 + 20000 * j ∧ Hid (KnN wr w.heap.size m acc) ∧ Hid (Below w.heap.size w wr) ∧ Hid (onceP p ss n fs = onceGo n fs (p.drop j) (ss.drop j) acc))
  case atStart => exact ⟨0, by omega, rfl, fs, _, by omega, HK2, HB2, (rfl : _ = _)⟩
  case round =>
    clear HK2 HB2
    obtain ⟨j, hj, rfl, acc, m, hm, HK, HBr, HE⟩ := hrel
    by_cases hlt : j < p.length
    · obtain ⟨r, hr⟩ : ∃ x, p[j]? = some x := ⟨_, List.getElem?_eq_getElem hlt⟩
      have hrm : r ∈ p := List.mem_of_getElem? hr
      obtain ⟨b1, o1, _, rfl, hb1, ⟨tv, bv, rfl, htv, hbv⟩, hc⟩ := Kind.sl_at HP.out hr
      have d0 : wr.cell? ⟨b1, o1 + j * 4, none⟩ = some (.bool r.head.no) := by rw [HBr.out.cell (p := ⟨b1, o1 + j * 4, none⟩) hb1]; exact hc 0 _ rfl
      have d1 : wr.cell? ⟨b1, o1 + j * 4 + 1, none⟩ = some (.string (bs r.head.name)) := by rw [HBr.out.cell (p := ⟨b1, o1 + j * 4 + 1, none⟩) hb1]; exact hc 1 _ rfl
      have d2 : wr.cell? ⟨b1, o1 + j * 4 + 2, none⟩ = some tv := by rw [HBr.out.cell (p := ⟨b1, o1 + j * 4 + 2, none⟩) hb1]; exact hc 2 _ rfl
      have d3 : wr.cell? ⟨b1, o1 + j * 4 + 3, none⟩ = some bv := by rw [HBr.out.cell (p := ⟨b1, o1 + j * 4 + 3, none⟩) hb1]; exact hc 3 _ rfl
      have hpd : p.drop j = r :: p.drop (j + 1) := by
        obtain ⟨h1, e1⟩ := List.getElem?_eq_some_iff.1 hr
        rw [List.drop_eq_getElem_cons h1, e1]
      obtain ⟨ta, tc, rfl⟩ := Kind.slice htv
      obtain ⟨ba, bc, rfl⟩ := Kind.slice hbv
      have hwr := HBr.out.size
      by_cases hsj : j < ss.length
      · obtain ⟨s, hs⟩ : ∃ x, ss[j]? = some x := ⟨_, List.getElem?_eq_getElem hsj⟩
        obtain ⟨b2, o2, _, rfl, hb2, rfl, hc2⟩ := Kind.sl_at HSS.out hs
        have e0 : wr.cell? ⟨b2, o2 + j, none⟩ = some (.int .i64 s) := by rw [HBr.out.cell (p := ⟨b2, o2 + j, none⟩) hb2]; simpa [intK] using hc2 0 _ rfl
        have hsd : ss.drop j = s :: ss.drop (j + 1) := by
          obtain ⟨h1, e1⟩ := List.getElem?_eq_some_iff.1 hs
          rw [List.drop_eq_getElem_cons h1, e1]
        have hstep : onceP p ss n fs = if (s : Int) = n then (match headsP r fs with
            | none => (4, [])
            | some x => if 200 < (setF (acc ++ x)).length then (5, []) else onceGo n fs (p.drop (j + 1)) (ss.drop (j + 1)) (acc ++ x)) else onceGo n fs (p.drop (j + 1)) (ss.drop (j + 1)) acc := by
          rw [HE.out, hpd, hsd]; rfl
        have hsji : (j : Int) < (ss.length : Int) := by omega
        have hb2r : b2 < wr.heap.size := by omega
        by_cases hsn : (s : Int) = n
        · rw [if_pos hsn] at hstep
          obtain ⟨wb, hwb⟩ : ∃ wb, wb = wr.alloc (.cells #[.bool r.head.no, .string (bs r.head.name), .slice ta r.head.terms.length tc, .slice ba r.body.length bc] 43) := ⟨_, rfl⟩
          have hLb : Later wr wb := by rw [hwb]; exact (Later.refl _).alloc _
          have hBb : Below w.heap.size w wb := below_trans HBr.out hLb.below hwr
          have HH := hide (headsC r (.slice ta r.head.terms.length tc) (.slice ba r.body.length bc) (.slice fa fs.length fc) fs wb (Kind.sl_below htv hBb) (Kind.sl_below hbv hBb) (HF.out.below hBb) (HSh.out r hrm))
          have h0 := HOk.out r hrm
          have hshr := HSh.out r hrm
          have HKb := hide (HK.out.later hLb)
          have HBb := hide hBb
          have HWb := hide hwb
          clear hc hc2 hr hs htv hbv hpd hsd HE hLb hBb hwb hrm
          have hneq : ((s : Int) != n) = false := by simp [hsn]
          generalize bs r.head.name = nm at *
          generalize hno : r.head.no = no at *
          clear hno
          subst hsn
          go_wp2_with fail
          rw [← HWb.out]
          refine HH.out.mono ?_
          rintro e w3 ⟨v3, er, rfl, hT3, hB3⟩
          unfold HeadsT at hT3
          rw [if_neg (by simp [h0])] at hT3
          have HB3 : Hid (Below w.heap.size w w3) := below_trans HBb.out hB3 HBb.out.size
          have HK3 := hide (HKb.out.below hB3)
          clear hB3 HH HWb HKb HBb
          cases hh : headsP r fs with
          | none =>
            rw [hh] at hT3 hstep
            obtain ⟨rfl, rfl⟩ := hT3
            have HT : Hid (∀ w', OnceT w' (.slice none 0 0) 4 (onceP p ss s fs)) := fun w' => by rw [hstep]; exact ⟨rfl, fun _ => rfl, fun h => by simp at h⟩
            clear hstep hh
            go_wp2
            exact bodyPost_ret (v := .tuple #[.slice none 0 0, .int .i64 4]) (by simp [results, Tryz.results18, go_sem]) rfl ⟨_, 4, rfl, HT.out _, HB3.out⟩
          | some x =>
            rw [hh] at hT3 hstep
            obtain ⟨rfl, hF3⟩ := hT3
            have hxs : (∀ f ∈ x, ShortF f) ∧ x.length ≤ 20000 := by
              unfold headsP at hh
              cases hR : allB (fun _ => fs) r.body with
              | none => rw [hR] at hh; cases hh
              | some R =>
                rw [hR] at hh
                cases hh
                refine ⟨setF_short fun f hf => ?_, Nat.le_trans (setF_len _) (Nat.le_trans (List.length_filterMap_le _ _) (allB_small hR))⟩
                obtain ⟨l, hl, hlf⟩ := List.mem_filterMap.1 hf
                exact hshr R hR l hl f hlf
            have hxl := hxs.2
            have HAd := hide (knownAdd w.heap.size m acc v3 x w3 HK3.out hF3 hxs.1 (by omega))
            obtain ⟨xa, xc, rfl⟩ := sliceFacts hF3
            dsimp only at hstep
            have HST := hide hstep
            clear hF3 hxs hh hstep hshr HK3
            go_wp2_with fail
            refine HAd.out.mono ?_
            rintro e w4 ⟨⟨u4, rfl⟩, hK4, hT4⟩
            have HB4 : Hid (Below w.heap.size w w4) := HB3.out.trans (hT4.below (Nat.le_refl _) HB3.out.size)
            have HK4 := hide hK4
            clear hK4 hT4 HAd
            by_cases hbig : 200 < (setF (acc ++ x)).length
            · have HT : Hid (∀ w', OnceT w' (.slice none 0 0) 5 (onceP p ss s fs)) := fun w' => by rw [HST.out, if_pos hbig]; exact ⟨rfl, fun _ => rfl, fun h => by simp at h⟩
              have hbi : (200 : Int) < ((setF (acc ++ x)).length : Nat) := by omega
              clear HST hbig
              go_wp2_with (at_len; refine wpList_len_known _ rfl _ 81 rfl Tryz.underlying81 rfl HK4.out ?_)
              exact bodyPost_ret (v := .tuple #[.slice none 0 0, .int .i64 5]) (by simp [results, Tryz.results18, go_sem]) rfl ⟨_, 5, rfl, HT.out _, HB4.out⟩
            · have HE4 : Hid (onceP p ss s fs = onceGo s fs (p.drop (j + 1)) (ss.drop (j + 1)) (acc ++ x)) := by show _ = _; rw [HST.out, if_neg hbig]
              have hbi : ¬ (200 : Int) < ((setF (acc ++ x)).length : Nat) := by omega
              clear HST hbig
              go_wp2_with (at_len; refine wpList_len_known _ rfl _ 81 rfl Tryz.underlying81 rfl HK4.out ?_)
              go_roundg (p.length - (j + 1))
              case measure => omega
              case rel => exact ⟨j + 1, by omega, by go_num, acc ++ x, m + x.length, by omega, HK4, HB4, HE4⟩
        · rw [if_neg hsn] at hstep
          have HE4 : Hid (onceP p ss n fs = onceGo n fs (p.drop (j + 1)) (ss.drop (j + 1)) acc) := hstep
          have HB4 : Hid (Below w.heap.size w (wr.alloc (.cells #[.bool r.head.no, .string (bs r.head.name), .slice ta r.head.terms.length tc, .slice ba r.body.length bc] 43))) := below_trans HBr.out ((Later.refl _).alloc _).below hwr
          have HK4 : Hid (KnN (wr.alloc (.cells #[.bool r.head.no, .string (bs r.head.name), .slice ta r.head.terms.length tc, .slice ba r.body.length bc] 43)) w.heap.size m acc) := HK.out.later ((Later.refl _).alloc _)
          have hneq : ((s : Int) != n) = true := by simpa using hsn
          clear hstep hc hc2 hr hs htv hbv hpd hsd HE hsn hrm
          generalize bs r.head.name = nm at *
          generalize r.head.no = no at *
          go_wp2
          go_roundg (p.length - (j + 1))
          case measure => omega
          case rel => exact ⟨j + 1, by omega, by go_num, acc, m, by omega, HK4, HB4, HE4⟩
      · have hsd : ss.drop j = [] := List.drop_eq_nil_of_le (by omega)
        have hsd2 : ss.drop (j + 1) = [] := List.drop_eq_nil_of_le (by omega)
        have HE4 : Hid (onceP p ss n fs = onceGo n fs (p.drop (j + 1)) (ss.drop (j + 1)) acc) := by show _ = _; rw [HE.out, hsd, hsd2, onceGo_none, onceGo_none]
        have HB4 : Hid (Below w.heap.size w (wr.alloc (.cells #[.bool r.head.no, .string (bs r.head.name), .slice ta r.head.terms.length tc, .slice ba r.body.length bc] 43))) := below_trans HBr.out ((Later.refl _).alloc _).below hwr
        have HK4 : Hid (KnN (wr.alloc (.cells #[.bool r.head.no, .string (bs r.head.name), .slice ta r.head.terms.length tc, .slice ba r.body.length bc] 43)) w.heap.size m acc) := HK.out.later ((Later.refl _).alloc _)
        have hsji : (ss.length : Int) ≤ (j : Int) := by omega
        clear hc hr htv hbv hpd hsd hsd2 HE hrm hsj
        generalize bs r.head.name = nm at *
        generalize r.head.no = no at *
        go_wp2
        go_roundg (p.length - (j + 1))
        case measure => omega
        case rel => exact ⟨j + 1, by omega, by go_num, acc, m, by omega, HK4, HB4, HE4⟩
    · have hd : p.drop j = [] := List.drop_eq_nil_of_le (by omega)
      have HX : Hid (onceP p ss n fs = (0, setF acc)) := by show _ = _; rw [HE.out, hd]; rfl
      have HSt := hide (knownSet _ _ _ wr HK.out (by omega))
      clear hd HE
      go_wp2_with fail
      refine HSt.out.mono ?_
      rintro e w6 ⟨v6, rfl, hF6, hB6⟩
      have HT6 : Hid (OnceT w6 v6 0 (onceP p ss n fs)) := by show OnceT _ _ _ _; rw [HX.out]; exact ⟨rfl, fun h => absurd rfl h, fun _ => hF6⟩
      have HB6 : Hid (Below w.heap.size w w6) := below_trans HBr.out hB6 HBr.out.size
      obtain ⟨a6, c6, rfl⟩ := sliceFacts hF6
      clear hF6 hB6
      go_wp2
      exact bodyPost_ret (v := .tuple #[.slice a6 (setF acc).length c6, .int .i64 0]) (by simp [results, Tryz.results18, go_sem]) rfl ⟨_, 0, rfl, HT6.out, HB6.out⟩

end Go.Proofs.YtbohggoeebhdmaaGreatDoor

/- The walk of naive.overAndOver, and what right facts are to Set. -/
namespace Go.Proofs.YtbohggoeebhdmaaGreatDoor
open Go.RowKit Go.Sort Go.Maps

theorem named_short {s : ByteArray} (h : isNamed (raw s) = true) : s.size ≤ 12 := by
  unfold isNamed at h
  simp only [Bool.and_eq_true, decide_eq_true_eq] at h
  rw [length_raw] at h
  exact h.1.1
theorem right_short {f : FactB} (h : RightF f) : ShortF f :=
  ⟨by have := named_short h.1; omega, h.2.1, fun s hs => by have := named_short (h.2.2 s hs); omega⟩

theorem wrongF_right {f : FactB} : wrongF f = 0 ↔ RightF f := by
  unfold wrongF RightF
  rw [namedB_eq]
  constructor
  · intro h
    split at h
    · simp at h
    · rename_i h1
      split at h
      · simp at h
      · rename_i h2
        split at h
        · simp at h
        · rename_i h3
          refine ⟨by simpa using h1, by omega, fun s hs => ?_⟩
          cases e : isNamed (raw s) with
          | true => rfl
          | false =>
            exfalso
            refine h3 ?_
            unfold noName
            rw [List.drop_zero, List.any_eq_true]
            exact ⟨s, hs, by rw [namedB_eq, e]; rfl⟩
  · rintro ⟨h1, h2, h3⟩
    rw [if_neg (by simp [h1]), if_neg (by omega), if_neg]
    intro h
    unfold noName at h
    rw [List.drop_zero, List.any_eq_true] at h
    obtain ⟨s, hs, hn⟩ := h
    rw [namedB_eq, h3 s hs] at hn
    cases hn

theorem faultFrom_right {l : List FactB} (hw : ∀ f ∈ l, wrongF f = 0) (hu : Up l) : ∀ (n k : Nat), k + n = l.length → faultFrom l n k = (0, 0)
  | 0, _, _ => rfl
  | n + 1, k, h => by
    have hk : k < l.length := by omega
    unfold faultFrom
    have e1 : wrongF (l.getD k noFact) = 0 := hw _ (by rw [List.getD_eq_getElem?_getD, List.getElem?_eq_getElem hk]; exact List.getElem_mem hk)
    rw [if_neg (by rw [e1]; simp), if_neg, faultFrom_right hw hu n (k + 1) (by omega)]
    rintro ⟨h0, h1⟩
    have := List.pairwise_iff_getElem.1 hu (k - 1) k (by omega) hk (by omega)
    rw [List.getD_eq_getElem?_getD, List.getD_eq_getElem?_getD, List.getElem?_eq_getElem (by omega), List.getElem?_eq_getElem hk] at h1
    simp only [Option.getD_some] at h1
    omega

theorem fault_right {l : List FactB} (hu : Up l) (hr : ∀ f ∈ l, RightF f) (hl : l.length ≤ 200) : setFault l = (0, 0) := by
  unfold setFault
  rw [if_neg (by omega)]
  exact faultFrom_right (fun f hf => wrongF_right.2 (hr f hf)) hu _ 0 (by omega)

theorem good_of_fault {p : List RuleD} {l : List FactB} (h : (setFault l).1 = 0) (hf : ∀ f ∈ l, fitF p f = true) : GoodS p l := by
  obtain ⟨h1, h2, h3⟩ := set_right h
  exact ⟨h2, fun f hf => wrongF_right.1 (h3 f hf), h1, hf⟩

theorem errW_right {p : List RuleD} (hp : RightP p) {L : List FactB} (hL : GoodS p L) : ∀ r ∈ p, errW r.body L [] = 0 := fun r hr => by
  unfold errW
  rw [if_neg (by simp [(hp.rules r hr).body]), if_neg (by rw [fault_right hL.up hL.right hL.few]; simp)]
  rfl

theorem short_right {p : List RuleD} (hp : RightP p) {L : List FactB} (hL : GoodS p L) : ∀ r ∈ p, ∀ R, allB (fun _ => L) r.body = some R → ∀ l ∈ R, ∀ f, fillB r.head l = some f → ShortF f := fun r hr _ hR l hl _ hf =>
  right_short (head_right (hp.rules r hr) hL.right ((all_mem (covers_right (hp.rules r hr)) hR l).1 hl) hf).1

set_option maxRecDepth 100000 in
set_option maxHeartbeats 2000000 in
theorem overC (p : List RuleD) (hp : RightP p) (σ : RuleD → Nat) (n : Int) (fs : List FactB) (pv sv fv : Value) (w : World) (hpv : ruleK.sl Anyw w pv p) (hsv : intK.sl Anyw w sv (p.map σ)) (hf : Facts w fv fs) (hg : GoodS p fs) :
    Calls Tryz.prog 41 #[pv, sv, .int .i64 n, fv] w fun e w' => ∃ v' er, e = .returned (.tuple #[v', .int .i64 er]) ∧ OnceT w' v' er (overGo p (p.map σ) n 201 fs) ∧ ((overGo p (p.map σ) n 201 fs).1 = 0 → GoodS p (overGo p (p.map σ) n 201 fs).2) ∧ Below w.heap.size w w' := by
  generalize hss : p.map σ = ss at *
  have HSS := hide hss
  clear hss
  obtain ⟨pa, pc, rfl⟩ := Kind.slice hpv
  obtain ⟨sa, sc, rfl⟩ := Kind.slice hsv
  have HP := hide hpv
  have HSV := hide hsv
  have HF := hide hf
  have HG := hide hg
  have HRP := hide hp
  have hfew := hg.few
  clear hpv hsv hf hg hp
  go_enter Tryz.func41, Tryz.ntmps41
  go_wp2
  go_loopg [3] 201 (fun g v wr => ∃ k L, k = g ∧ 200 < L.length + k ∧ Hid (Facts wr v L) ∧ Hid (GoodS p L) ∧ Hid (Below w.heap.size w wr) ∧ Hid (overGo p ss n 201 fs = overGo p ss n k L))
  case atStart => exact ⟨201, fs, rfl, by omega, HF, HG, Below.refl _ _, (rfl : _ = _)⟩
  case round =>
    clear HF HG
    obtain ⟨k, L, hkg, hk, HF, HG, HBr, HE⟩ := hrel
    have hL := HG.out.few
    obtain ⟨k', rfl⟩ : ∃ k', k = k' + 1 := ⟨k - 1, by omega⟩
    have HC := hide (onceC p ss n L _ _ _ wr (Kind.sl_below HP.out HBr.out) (Kind.sl_below HSV.out HBr.out) HF.out HRP.out.few hL (errW_right HRP.out HG.out) (short_right HRP.out HG.out) (fun f hf => right_short (HG.out.right f hf)))
    obtain ⟨la, lc, rfl⟩ := sliceFacts HF.out
    obtain ⟨er, S, hS⟩ : ∃ er S, onceP p ss n L = (er, S) := ⟨_, _, rfl⟩
    have hst : overGo p ss n 201 fs = if er ≠ 0 then (er, []) else if S.length = L.length then (0, S) else overGo p ss n k' S := by
      rw [HE.out, overGo, hS]
    rw [hS] at HC
    have HSt := hide hst
    have HGS : Hid (er = 0 → GoodS p S ∧ L.length ≤ S.length) := fun e => by
      subst e
      obtain ⟨g1, g2⟩ := once_good HRP.out σ HG.out (by rw [HSS.out]; exact hS)
      exact ⟨g1, up_le HG.out.up g2⟩
    clear hst hS HE
    go_wp2_with fail
    refine HC.out.mono ?_
    rintro e w2 ⟨v2, er', rfl, ⟨her, hT1, hT2⟩, hB2⟩
    dsimp only at her hT1 hT2 ⊢
    have her' := her.symm
    clear her
    subst her'
    have HB2 : Hid (Below w.heap.size w w2) := below_trans HBr.out hB2 HBr.out.size
    clear HC hB2
    by_cases h0 : er = 0
    · subst h0
      have hF2 := hT2 rfl
      have HF2 := hide hF2
      obtain ⟨hgS, hlS⟩ := HGS.out rfl
      have HGS2 := hide hgS
      obtain ⟨xa, xc, rfl⟩ := sliceFacts hF2
      have hSt := HSt.out
      rw [if_neg (by simp)] at hSt
      by_cases hlen : S.length = L.length
      · rw [if_pos hlen] at hSt
        have HR := hide hSt
        have hli : ((S.length : Nat) : Int) = (L.length : Nat) := by omega
        clear hSt hlen hT1 hT2 hF2 hgS HSt HGS
        go_wp2
        exact bodyPost_ret (v := .tuple #[.slice xa S.length xc, .int .i64 0]) (by simp [results, Tryz.results41, go_sem]) rfl ⟨_, 0, rfl, by rw [HR.out]; exact ⟨rfl, fun h => absurd rfl h, fun _ => HF2.out⟩, by rw [HR.out]; exact fun _ => HGS2.out, HB2.out⟩
      · rw [if_neg hlen] at hSt
        have HR := hide hSt
        have hli : ¬ ((S.length : Nat) : Int) = (L.length : Nat) := by omega
        have hk' : 200 < S.length + k' := by omega
        clear hSt hlen hT1 hT2 hF2 hgS HSt HGS
        go_wp2
        go_roundg k'
        case measure => omega
        case rel => exact ⟨k', S, rfl, hk', HF2, HGS2, HB2, HR⟩
    · have e2 := hT1 h0
      subst e2
      have HR : Hid (overGo p ss n 201 fs = (er, [])) := by show _ = _; rw [HSt.out, if_pos h0]
      have HT : Hid (∀ w', OnceT w' (.slice none 0 0) er (overGo p ss n 201 fs) ∧ ((overGo p ss n 201 fs).1 = 0 → GoodS p (overGo p ss n 201 fs).2)) := fun w' => by rw [HR.out]; exact ⟨⟨rfl, fun _ => rfl, fun h => absurd h h0⟩, fun h => absurd h h0⟩
      have hne : (er != 0) = true := by simpa using h0
      clear hT1 hT2 HSt HGS HR
      go_wp2
      exact bodyPost_ret (v := .tuple #[.slice none 0 0, .int .i64 er]) (by simp [results, Tryz.results41, go_sem]) rfl ⟨_, er, rfl, (HT.out _).1, (HT.out w2).2, HB2.out⟩

end Go.Proofs.YtbohggoeebhdmaaGreatDoor

/- The walks of naive's widths, and of naive.Facts. -/
namespace Go.Proofs.YtbohggoeebhdmaaGreatDoor
open Go.RowKit Go.Sort Go.Maps

abbrev Wids := Bs → Option Int
def Wids.put (m : Wids) (s : Bs) (n : Int) : Wids := fun t => if t = s then some n else m t
def widOne (m : Wids) (a : AtomD) : Wids := match m a.name with
  | none => m.put a.name a.terms.length
  | some n => if n ≠ a.terms.length then m.put a.name (-1) else m.put a.name a.terms.length
/-- The numbers are those of these atoms. -/
def WidOf (A : List AtomD) (m : Wids) : Prop := ∀ s, (m s = none ↔ ∀ a ∈ A, a.name ≠ s) ∧ ∀ n, m s = some n → ∀ k : Nat, n = (k : Int) ↔ ∀ a ∈ A, a.name = s → a.terms.length = k

theorem WidOf.nil : WidOf [] (fun _ => none) := fun s => ⟨by simp, fun n h => by cases h⟩
theorem WidOf.step {A : List AtomD} {m : Wids} (h : WidOf A m) (a : AtomD) : WidOf (A ++ [a]) (widOne m a) := by
  have key : ∀ x : Int, widOne m a = m.put a.name x → (∀ k : Nat, x = (k : Int) ↔ ∀ b ∈ A ++ [a], b.name = a.name → b.terms.length = k) → WidOf (A ++ [a]) (widOne m a) := fun x hx hk s => by
    rw [hx]
    unfold Wids.put
    by_cases e : s = a.name
    · subst e
      simp only [if_true]
      refine ⟨⟨fun h => by simp at h, fun h => absurd rfl (h a (by simp))⟩, fun n hn => ?_⟩
      cases hn
      exact hk
    · simp only [if_neg e]
      obtain ⟨h1, h2⟩ := h s
      refine ⟨by rw [h1]; exact ⟨fun h b hb => (List.mem_append.1 hb).elim (h b) (fun hb => by simp only [List.mem_singleton] at hb; subst hb; exact fun e' => e e'.symm), fun h b hb => h b (by simp [hb])⟩, fun n hn k => ?_⟩
      rw [h2 n hn k]
      exact ⟨fun h b hb hbs => (List.mem_append.1 hb).elim (fun hb => h b hb hbs) (fun hb => by simp only [List.mem_singleton] at hb; subst hb; exact absurd hbs.symm e), fun h b hb => h b (by simp [hb])⟩
  obtain ⟨h1, h2⟩ := h a.name
  unfold widOne at key ⊢
  cases e : m a.name with
  | none =>
    rw [e] at key
    refine key _ rfl fun k => ?_
    have hn := h1.1 e
    constructor
    · intro hk b hb hbn
      rcases List.mem_append.1 hb with hb | hb
      · exact absurd hbn (hn b hb)
      · simp only [List.mem_singleton] at hb; subst hb; omega
    · intro hk; have := hk a (by simp) rfl; omega
  | some n =>
    rw [e] at key
    dsimp only at key ⊢
    have hA := h2 n e
    by_cases hne : n ≠ a.terms.length
    · rw [if_pos hne] at key ⊢
      refine key _ rfl fun k => ⟨fun hk => by omega, fun hk => ?_⟩
      exfalso
      have h3 := hk a (by simp) rfl
      have h4 := (hA k).2 fun b hb => hk b (by simp [hb])
      omega
    · rw [if_neg hne] at key ⊢
      have hne : n = a.terms.length := by omega
      refine key _ rfl fun k => ?_
      constructor
      · intro hk b hb hbn
        rcases List.mem_append.1 hb with hb | hb
        · exact (hA k).1 (by omega) b hb hbn
        · simp only [List.mem_singleton] at hb; subst hb; omega
      · intro hk; have := hk a (by simp) rfl; omega

/-- Block b holds such numbers. -/
def WidM (w : World) (b n : Nat) (m : Wids) : Prop := ∃ D : DataW Unit, w.ownsMap Tryz.prog 9 (plainElem Tryz.prog 3) b n D ∧ ∀ s, Maps.has D (.string s) = (m s).isSome ∧ D.atKey (.string s) (.lit (.int .i64 0)) = .lit (.int .i64 ((m s).getD 0))

theorem WidM.made (w : World) : WidM (w.alloc (.map #[] 0)) w.heap.size 0 (fun _ => none) := ⟨.map [], World.ownsMap_made _ _ _ _, fun _ => ⟨rfl, rfl⟩⟩

theorem WidM.lt {w : World} {b n : Nat} {m : Wids} (h : WidM w b n m) : b < w.heap.size := by obtain ⟨D, h, _⟩ := h; exact h.lt
theorem WidM.block {w w' : World} {b n : Nat} {m : Wids} (h : WidM w b n m) (e : w'.heap[b]? = w.heap[b]?) : WidM w' b n m := by obtain ⟨D, h, hf⟩ := h; exact ⟨D, owns_block h e, hf⟩
theorem WidM.later {w w' : World} {b n : Nat} {m : Wids} (h : WidM w b n m) (k : Later w w') : WidM w' b n m := h.block (k.block h.lt)

set_option maxRecDepth 100000 in
theorem WidM.look {w : World} {b n : Nat} {m : Wids} (h : WidM w b n m) {s : Bs} (hs : s.length ≤ maxLen) :
    (Instr.lookup 70 (.map (some b)) (.string (bs s)) true).run Tryz.prog w = .ok (.tuple #[.int .i64 ((m s).getD 0), .bool (m s).isSome]) w := by
  obtain ⟨D, hown, hf⟩ := h
  obtain ⟨v, ps, hrun, hv⟩ := hown.look_ok (string_keyed Tryz.underlying9) (t := 70) Tryz.underlying70 (zeroInt _) (plainElem_int Tryz.underlying3 (by decide)) (key_mk Tryz.underlying9 hs)
  rw [(hf s).2] at hv
  obtain ⟨c, rfl, hc, _⟩ := plainElem_int_inv Tryz.underlying3 hv
  simp only [Prod.mk.injEq] at hc
  have hc := hc.1
  injection hc with hc
  injection hc with _ hc
  subst hc
  refine hrun.trans ?_
  rw [(hf s).1]

theorem WidM.store {w : World} {b n : Nat} {m : Wids} (h : WidM w b n m) (hn : n < maxLen) {s : Bs} (hs : s.length ≤ maxLen) {x : Int} (hx : (Lit.int .i64 x).wf = true) :
    ∃ w', (Instr.mapUpdate 70 (.map (some b)) (.string (bs s)) (.int .i64 x)).run Tryz.prog w = .ok () w' ∧ WidM w' b (n + 1) (m.put s x) ∧ w.grownBy w' (some b) := by
  obtain ⟨D, hown, hf⟩ := h
  obtain ⟨w', hrun, r1, r2⟩ := hown.update (string_keyed Tryz.underlying9) (t := 70) Tryz.underlying70 hn (key_mk Tryz.underlying9 hs) (plainElem_int Tryz.underlying3 hx)
  refine ⟨w', hrun, ⟨_, r1, fun t => ?_⟩, r2⟩
  by_cases e : t = s
  · subst e
    exact ⟨by rw [has_put_same hown.isMap (keyS _)]; simp [Wids.put], by rw [atKey_put_same hown.isMap (keyS _)]; simp [Wids.put]⟩
  · exact ⟨by rw [has_put_other (str_ne e), (hf t).1]; simp [Wids.put, e], by rw [atKey_put_other (str_ne e), (hf t).2]; simp [Wids.put, e]⟩

set_option maxRecDepth 100000 in
set_option maxHeartbeats 1000000 in
theorem widAddC (b n : Nat) (m : Wids) (a : AtomD) (v : Value) (w : World) (h : WidM w b n m) (hv : termK.sl Anyw w v a.terms) (hs : a.name.length ≤ maxLen) (hn : n < maxLen) :
    Calls Tryz.prog 70 #[.map (some b), .agg #[.bool a.no, .string (bs a.name), v]] w fun e w' => (∃ u, e = .returned u) ∧ WidM w' b (n + 1) (widOne m a) ∧ Tn b w w' := by
  obtain ⟨sa, cap, rfl⟩ := Kind.slice hv
  have hl0 := hv.1.1
  clear hv
  have h1 := h.later ((Later.refl w).alloc (.cells #[.bool a.no, .string (bs a.name), .slice sa a.terms.length cap] 40))
  have hr := h1.look hs
  have hblt := h.lt
  cases hm : m a.name with
  | none =>
    obtain ⟨w1, hst, hm1, hg⟩ := h1.store hn hs (x := (a.terms.length : Nat)) (wf_len (by omega))
    rw [hm] at hr
    have F : Hid (widOne m a = m.put a.name a.terms.length) := by show _ = _; unfold widOne; rw [hm]
    have HM : Hid (WidM w1 b (n + 1) (m.put a.name a.terms.length)) := hm1
    have HT : Hid (Tn b w w1) := (Tn.of_below (p := b) ((Later.refl w).alloc _).below).trans (tn_of_grown hg)
    have hst' := hide hst
    clear h h1 hm1 hg hst hm
    simp only [Option.getD_none, Option.isSome_none] at hr
    generalize bs a.name = nm at *
    generalize a.no = no at *
    go_enter Tryz.func70, Tryz.ntmps70
    go_wp2_with (first
      | (at_mapUpdate; refine wpList_run_update _ rfl _ _ _ _ rfl _ _ _ _ rfl rfl rfl (unhide hst') ?_)
      | go_in)
    go_end0
    exact ⟨⟨_, rfl⟩, by rw [F.out]; exact HM.out, HT.out⟩
  | some k =>
    rw [hm] at hr
    simp only [Option.getD_some, Option.isSome_some] at hr
    by_cases hne : k ≠ a.terms.length
    · obtain ⟨w1, hst, hm1, hg⟩ := h1.store hn hs (x := -1) (by decide)
      have F : Hid (widOne m a = m.put a.name (-1)) := by show _ = _; unfold widOne; rw [hm]; exact if_pos hne
      have HM : Hid (WidM w1 b (n + 1) (m.put a.name (-1))) := hm1
      have HT : Hid (Tn b w w1) := (Tn.of_below (p := b) ((Later.refl w).alloc _).below).trans (tn_of_grown hg)
      have hst' := hide hst
      have hq : (k != (a.terms.length : Int)) = true := by simpa using hne
      clear h h1 hm1 hg hst hm hne
      generalize bs a.name = nm at *
      generalize a.no = no at *
      go_enter Tryz.func70, Tryz.ntmps70
      go_wp2_with (first
        | (at_mapUpdate; refine wpList_run_update _ rfl _ _ _ _ rfl _ _ _ _ rfl rfl rfl (unhide hst') ?_)
        | go_in)
      exact bodyPost_ret (results_none rfl _ _ _) rfl ⟨⟨_, rfl⟩, by rw [F.out]; exact HM.out, HT.out⟩
    · have hk : k = (a.terms.length : Int) := by omega
      subst hk
      obtain ⟨w1, hst, hm1, hg⟩ := h1.store hn hs (x := (a.terms.length : Nat)) (wf_len (by omega))
      have F : Hid (widOne m a = m.put a.name a.terms.length) := by show _ = _; unfold widOne; rw [hm]; exact if_neg (by simp)
      have HM : Hid (WidM w1 b (n + 1) (m.put a.name a.terms.length)) := hm1
      have HT : Hid (Tn b w w1) := (Tn.of_below (p := b) ((Later.refl w).alloc _).below).trans (tn_of_grown hg)
      have hst' := hide hst
      clear h h1 hm1 hg hst hm hne
      generalize bs a.name = nm at *
      generalize a.no = no at *
      go_enter Tryz.func70, Tryz.ntmps70
      go_wp2_with (first
        | (at_mapUpdate; refine wpList_run_update _ rfl _ _ _ _ rfl _ _ _ _ rfl rfl rfl (unhide hst') ?_)
        | go_in)
      go_end0
      exact ⟨⟨_, rfl⟩, by rw [F.out]; exact HM.out, HT.out⟩

def widFits (m : Wids) (f : FactB) : Bool := match m (raw f.1) with | none => true | some k => decide (k = f.2.length)

set_option maxRecDepth 100000 in
set_option maxHeartbeats 1000000 in
theorem widFitC (b n : Nat) (m : Wids) (f : FactB) (v : Value) (w : World) (h : WidM w b n m) (hv : FactV w v f) (hs : f.1.size ≤ maxLen) :
    Calls Tryz.prog 37 #[.map (some b), v] w fun e w' => e = .returned (.bool (widFits m f)) ∧ Later w w' := by
  unfold widFits
  obtain ⟨u, rfl, hu⟩ := hv
  obtain ⟨sa, cap, rfl⟩ := sliceStr hu
  obtain ⟨nm, args⟩ := f
  dsimp only at *
  have h1 := h.later ((Later.refl w).alloc (.cells #[.string nm, .slice sa args.length cap] 54))
  have hr := h1.look (s := raw nm) (by rw [length_raw]; exact hs)
  rw [bs_raw] at hr
  clear h h1 hu hs
  cases hm : m (raw nm) with
  | none =>
    rw [hm] at hr
    simp only [Option.getD_none, Option.isSome_none] at hr
    go_enter Tryz.func37, Tryz.ntmps37
    go_wp2
    go_ret
    exact ⟨rfl, (by repeat (first | exact Later.refl _ | assumption | refine Later.drewN ?_ _ | refine Later.drew ?_ | refine Later.alloc ?_ _ | refine Later.grow ?_ _))⟩
  | some k =>
    rw [hm] at hr
    simp only [Option.getD_some, Option.isSome_some] at hr
    go_enter Tryz.func37, Tryz.ntmps37
    go_wp2
    go_ret
    refine ⟨ret_bool ?_, (by repeat (first | exact Later.refl _ | assumption | refine Later.drewN ?_ _ | refine Later.drew ?_ | refine Later.alloc ?_ _ | refine Later.grow ?_ _))⟩
    rw [Bool.eq_iff_iff]
    simp

end Go.Proofs.YtbohggoeebhdmaaGreatDoor
