/- Which lists a body has: just those with which it is so; what follows for any guess, and for a body turned around. Nothing of the program. -/
import Derived.Test.YthogickpeldhlaaGreatMatS
namespace Go.Proofs.YthogickpeldhlaaGreat

theorem vars_iff {a : AtomD} {v : Bs} : v ∈ vars a ↔ ∃ t ∈ a.terms, t.1 = true ∧ t.2 = v := by
  unfold vars
  rw [mem_varsGo]
  simp

/-- Each variable stands in an atom that is not Not. -/
def Covers (body : List AtomD) : Prop := ∀ a ∈ body, ∀ t ∈ a.terms, t.1 = true → t.2 ∈ posVars [] body

theorem covers_of {body : List AtomD} (h : wrongBody body = 0) : Covers body := by
  unfold wrongBody at h
  split at h
  · simp at h
  · split at h
    · split at h
      · rename_i hall
        intro a ha t ht htv
        rw [List.all_eq_true] at hall
        have h1 := hall a ha
        rw [List.all_eq_true] at h1
        have h2 := h1 t.2 (vars_iff.2 ⟨t, ht, htv, rfl⟩)
        unfold givenBy at h2
        rw [List.any_eq_true] at h2
        obtain ⟨b, hb, h3⟩ := h2
        simp only [Bool.and_eq_true, Bool.not_eq_true', List.contains_eq_mem, decide_eq_true_eq] at h3
        refine (mem_posVars body).2 (Or.inr ⟨b, hb, h3.1, ?_⟩)
        exact vars_iff.1 h3.2
      · simp at h
    · rename_i hne
      exact absurd h hne

theorem barredB_iff (pick : Nat → List FactB) (l : List BindD) : ∀ (as : List AtomD) (n : Nat), barredB pick n as l = true ↔ ∃ i a, as[i]? = some a ∧ a.no = true ∧ ∃ f ∈ pick (n + i), fillB a l = some f
  | [], n => by simp [barredB]
  | a :: as, n => by
    simp only [barredB, Bool.or_eq_true, Bool.and_eq_true]
    rw [barredB_iff pick l as (n + 1)]
    constructor
    · rintro (⟨h1, h2⟩ | ⟨i, b, hb, h1, f, hf, h2⟩)
      · cases e : fillB a l with
        | none => rw [e] at h2; cases h2
        | some f =>
          rw [e] at h2
          exact ⟨0, a, rfl, h1, f, inB_iff.1 h2, e⟩
      · exact ⟨i + 1, b, by simpa using hb, h1, f, by rwa [show n + (i + 1) = n + 1 + i by omega], h2⟩
    · rintro ⟨i, b, hb, h1, f, hf, h2⟩
      cases i with
      | zero =>
        simp at hb
        subst hb
        exact Or.inl ⟨h1, by rw [h2]; exact inB_iff.2 hf⟩
      | succ i => exact Or.inr ⟨i, b, by simpa using hb, h1, f, by rwa [show n + 1 + i = n + (i + 1) by omega], h2⟩

/-- A body is so with l: each atom is a fact that is there, or, if it must not be so, is not. -/
def SoB (pick : Nat → List FactB) (body : List AtomD) (l : List BindD) : Prop := ∀ i a, body[i]? = some a → ∃ f, fillB a l = some f ∧ inB (pick i) f = !a.no

theorem SoB.perm {pick : Nat → List FactB} {body : List AtomD} {l m : List BindD} (h : SoB pick body l) (hp : l.Perm m) (hn : (keysB l).Nodup) : SoB pick body m := fun i a ha => by
  obtain ⟨f, h1, h2⟩ := h i a ha
  exact ⟨f, by rw [← fillB_perm hp hn]; exact h1, h2⟩

theorem getElem_mem' {β : Type} {l : List β} {i : Nat} {a : β} (h : l[i]? = some a) : a ∈ l := by
  obtain ⟨hi, rfl⟩ := List.getElem?_eq_some_iff.1 h
  exact List.getElem_mem hi

/-- What is met, and not barred: just the lists of the variables in turn with which the body is so. -/
theorem kept_mem {pick : Nat → List FactB} {body : List AtomD} (hc : Covers body) {ms : List (List BindD)} (h : metGo pick 0 body [[]] = some ms) (m : List BindD) :
    m ∈ ms.filter (fun l => !barredB pick 0 body l) ↔ keysB m = (posVars [] body).map bs ∧ SoB pick body m := by
  rw [List.mem_filter, met_mem pick body 0 [[]] ms [] (fun l hl => by simp at hl; subst hl; rfl) h m]
  simp only [Bool.not_eq_true', Nat.zero_add]
  constructor
  · rintro ⟨⟨_, hk, hpos⟩, hb⟩
    refine ⟨hk, fun i a ha => ?_⟩
    cases hno : a.no
    · obtain ⟨f, hf, h1⟩ := hpos i a ha hno
      exact ⟨f, h1, by rw [inB_iff.2 hf]; rfl⟩
    · obtain ⟨f, hf⟩ := fillB_some (l := m) (a := a) fun t ht htv => by
        rw [hk]
        exact mem_map_bs.2 (hc a (getElem_mem' ha) t ht htv)
      refine ⟨f, hf, ?_⟩
      cases e : inB (pick i) f
      · rfl
      · have : barredB pick 0 body m = true := (barredB_iff pick m body 0).2 ⟨i, a, ha, hno, f, by rw [Nat.zero_add]; exact inB_iff.1 e, hf⟩
        rw [hb] at this
        cases this
  · rintro ⟨hk, hso⟩
    refine ⟨⟨⟨[], by simp, m, by simp⟩, hk, fun i a ha hno => ?_⟩, ?_⟩
    · obtain ⟨f, h1, h2⟩ := hso i a ha
      rw [hno] at h2
      exact ⟨f, inB_iff.1 h2, h1⟩
    · cases e : barredB pick 0 body m
      · rfl
      · obtain ⟨i, a, ha, hno, f, hf, h1⟩ := (barredB_iff pick m body 0).1 e
        obtain ⟨g, h2, h3⟩ := hso i a ha
        rw [h1] at h2
        cases h2
        rw [Nat.zero_add] at hf
        rw [hno, inB_iff.2 hf] at h3
        cases h3

theorem keys_perm {l m : List BindD} (h : l.Perm m) : (keysB l).Perm (keysB m) := h.map _

/-- A list of such variables in turn is told by what they stand for. -/
theorem list_ext : ∀ {l m : List BindD}, keysB l = keysB m → (keysB l).Nodup → (∀ v, getB l v = getB m v) → l = m
  | [], [], _, _, _ => rfl
  | [], b :: m, h, _, _ => by simp [keysB] at h
  | a :: l, [], h, _, _ => by simp [keysB] at h
  | a :: l, b :: m, h, hn, hg => by
    have hn' : a.1 ∉ keysB l ∧ (keysB l).Nodup := List.nodup_cons.1 hn
    have h1 : a.1 = b.1 ∧ keysB l = keysB m := by simpa [keysB] using h
    have h2 : a.2 = b.2 := by
      have := hg a.1
      simp only [getB, if_true] at this
      rw [if_pos h1.1.symm] at this
      exact Option.some.inj this
    have hab : a = b := Prod.ext h1.1 h2
    subst hab
    rw [list_ext h1.2 hn'.2 fun v => ?_]
    by_cases hv : a.1 = v
    · subst hv
      rw [getB_none.2 hn'.1, getB_none.2 (by rw [← h1.2]; exact hn'.1)]
    · have := hg v
      simpa only [getB, if_neg hv] using this

/-- Strictly by the variables. -/
theorem sortB_strict {m : List BindD} (hn : (keysB m).Nodup) : (sortB m).Pairwise fun a b => cmpB a b < 0 := by
  refine strict_of three_cmpB (sortBy_sorted three_cmpB m) ?_
  refine (sortBy_perm m).nodup_iff.2 ?_
  have : (m.map (·.1)).Nodup := hn
  rw [List.Nodup, List.pairwise_map] at this
  exact this.imp fun h e => h (by rw [e])

theorem sortB_inj {l m : List BindD} (hk : keysB l = keysB m) (hn : (keysB l).Nodup) (h : sortB l = sortB m) : l = m := by
  refine list_ext hk hn fun v => getB_perm ?_ hn v
  have h1 := (sortBy_perm (c := cmpB) l).symm
  have h2 := sortBy_perm (c := cmpB) m
  rw [show sortBy cmpB l = sortBy cmpB m from h] at h1
  exact h1.trans h2

/-- A list that is told: its variables are the body's, each once, rising, and the body is so with it. -/
def FitsB (pick : Nat → List FactB) (body : List AtomD) (r : List BindD) : Prop :=
  r.Pairwise (fun a b => cmpB a b < 0) ∧ (keysB r).Nodup ∧ (∀ v, v ∈ keysB r ↔ v ∈ (posVars [] body).map bs) ∧ SoB pick body r

theorem posKeys_nodup (body : List AtomD) : ((posVars [] body).map bs).Nodup := nodup_map_bs (posVars_nodup body List.nodup_nil)

theorem all_mem {pick : Nat → List FactB} {body : List AtomD} (hc : Covers body) {R : List (List BindD)} (h : allB pick body = some R) (r : List BindD) : r ∈ R ↔ FitsB pick body r := by
  unfold allB at h
  cases e : metGo pick 0 body [[]] with
  | none => rw [e] at h; cases h
  | some ms =>
    rw [e] at h
    cases h
    rw [(sortBy_perm _).mem_iff, List.mem_map]
    constructor
    · rintro ⟨m, hm, rfl⟩
      obtain ⟨hk, hso⟩ := (kept_mem hc e m).1 hm
      have hn : (keysB m).Nodup := by rw [hk]; exact posKeys_nodup body
      have hp := (sortBy_perm (c := cmpB) m)
      refine ⟨sortB_strict hn, (keys_perm hp).nodup_iff.2 hn, fun v => ?_, hso.perm hp.symm hn⟩
      rw [(keys_perm hp).mem_iff, hk]
    · rintro ⟨hr, hn, hv, hso⟩
      obtain ⟨m, hm⟩ : ∃ m : List BindD, m = (posVars [] body).map fun k => (bs k, (getB r (bs k)).getD ByteArray.empty) := ⟨_, rfl⟩
      have hk : keysB m = (posVars [] body).map bs := by rw [hm]; unfold keysB; rw [List.map_map]; rfl
      have hnm : (keysB m).Nodup := by rw [hk]; exact posKeys_nodup body
      have hmem : ∀ x, x ∈ m ↔ x ∈ r := fun x => by
        constructor
        · intro hx
          rw [hm] at hx
          obtain ⟨k, hk, rfl⟩ := List.mem_map.1 hx
          obtain ⟨s, hs⟩ := getB_isSome ((hv (bs k)).2 (mem_map_bs.2 hk))
          rw [hs]
          exact getB_mem hs
        · intro hx
          have h1 : x.1 ∈ (posVars [] body).map bs := (hv x.1).1 (List.mem_map.2 ⟨x, hx, rfl⟩)
          obtain ⟨k, hk, e⟩ := List.mem_map.1 h1
          rw [hm]
          refine List.mem_map.2 ⟨k, hk, ?_⟩
          have := getB_of_mem (v := x.1) (s := x.2) hn hx
          rw [e, this]
          rfl
      have hsm : sortB m = r := rise_ext three_cmpB (sortB_strict hnm) hr fun x => by rw [(sortBy_perm m).mem_iff]; exact hmem x
      refine ⟨m, (kept_mem hc e m).2 ⟨hk, ?_⟩, hsm⟩
      have hp : r.Perm m := by rw [← hsm]; exact sortBy_perm m
      exact hso.perm hp hn

theorem all_strict {pick : Nat → List FactB} {body : List AtomD} (hc : Covers body) (hp : ∀ i, (pick i).Nodup) {R : List (List BindD)} (h : allB pick body = some R) : R.Pairwise fun a b => cmpBs a b < 0 := by
  unfold allB at h
  cases e : metGo pick 0 body [[]] with
  | none => rw [e] at h; cases h
  | some ms =>
    rw [e] at h
    cases h
    refine strict_of three_cmpBs (sortBy_sorted three_cmpBs _) ((sortBy_perm _).nodup_iff.2 ?_)
    have hms : ms.Nodup := met_nodup pick hp body 0 [[]] ms [] (fun l hl => by simp at hl; subst hl; rfl) (by simp) e
    rw [List.Nodup, List.pairwise_map]
    have h1 : (ms.filter fun l => !barredB pick 0 body l).Nodup := hms.filter _
    refine (List.Pairwise.and_mem.1 h1).imp fun {l m} ⟨hl, hm, hne⟩ e' => hne ?_
    have k1 := ((kept_mem hc e l).1 hl).1
    have k2 := ((kept_mem hc e m).1 hm).1
    exact sortB_inj (k1.trans k2.symm) (by rw [k1]; exact posKeys_nodup body) e'

/-- Two tellings of the same are the same. -/
theorem all_ext {pick pick' : Nat → List FactB} {body body' : List AtomD} (hc : Covers body) (hc' : Covers body') (hp : ∀ i, (pick i).Nodup) (hp' : ∀ i, (pick' i).Nodup) {R R' : List (List BindD)} (h : allB pick body = some R) (h' : allB pick' body' = some R')
    (e : ∀ r, FitsB pick body r ↔ FitsB pick' body' r) : R = R' :=
  rise_ext three_cmpBs (all_strict hc hp h) (all_strict hc' hp' h') fun r => by rw [all_mem hc h, all_mem hc' h', e]

theorem SoB_const {fs : List FactB} {body : List AtomD} {l : List BindD} : SoB (fun _ => fs) body l ↔ ∀ a ∈ body, ∃ f, fillB a l = some f ∧ inB fs f = !a.no := by
  constructor
  · intro h a ha
    obtain ⟨i, hi⟩ := List.getElem?_of_mem ha
    exact h i a hi
  · intro h i a ha
    exact h a (getElem_mem' ha)

/-- A body turned around is so of the same. -/
theorem all_turned {fs : List FactB} {body : List AtomD} (hc : Covers body) (hc' : Covers body.reverse) (hp : fs.Nodup) {R R' : List (List BindD)} (h : allB (fun _ => fs) body = some R) (h' : allB (fun _ => fs) body.reverse = some R') : R = R' := by
  refine all_ext hc hc' (fun _ => hp) (fun _ => hp) h h' fun r => ?_
  have hv : ∀ v, v ∈ (posVars [] body).map bs ↔ v ∈ (posVars [] body.reverse).map bs := fun v => by
    simp only [List.mem_map, mem_posVars, List.mem_reverse]
  unfold FitsB
  rw [SoB_const, SoB_const]
  simp only [hv, List.mem_reverse]

/-- Whatever variables might stand for, if the body is so of it, it is told. -/
theorem all_guess {fs : List FactB} {body : List AtomD} (hc : Covers body) {R : List (List BindD)} (h : allB (fun _ => fs) body = some R) {env : List BindD} (hn : (keysB env).Nodup) (hv : ∀ v, v ∈ keysB env ↔ ∃ a ∈ body, v ∈ (vars a).map bs)
    (hso : ∀ a ∈ body, ∃ f, fillB a env = some f ∧ inB fs f = !a.no) : ∃ l ∈ R, l.length = env.length ∧ ∀ b ∈ env, getB l b.1 = some b.2 := by
  have hp := sortBy_perm (c := cmpB) env
  refine ⟨sortB env, (all_mem hc h _).2 ⟨sortB_strict hn, (keys_perm hp).nodup_iff.2 hn, fun v => ?_, ?_⟩, hp.length_eq, fun b hb => ?_⟩
  · rw [(keys_perm hp).mem_iff, hv]
    constructor
    · rintro ⟨a, ha, hva⟩
      obtain ⟨k, hk, rfl⟩ := List.mem_map.1 hva
      obtain ⟨t, ht, htv, e⟩ := vars_iff.1 hk
      exact mem_map_bs.2 (by rw [← e]; exact hc a ha t ht htv)
    · intro h
      obtain ⟨k, hk, rfl⟩ := List.mem_map.1 h
      rcases (mem_posVars body).1 hk with h | ⟨a, ha, _, ht⟩
      · cases h
      · exact ⟨a, ha, mem_map_bs.2 (vars_iff.2 ht)⟩
  · have h1 : SoB (fun _ => fs) body env := SoB_const.2 hso
    exact h1.perm hp.symm hn
  · rw [getB_perm hp ((keys_perm hp).nodup_iff.2 hn)]
    exact getB_of_mem hn hb

end Go.Proofs.YthogickpeldhlaaGreat
