/- What variables stand for: the document's answer of chapter 4, plain: lists of binds, an atom filled, met, a body's lists. Nothing of the program. -/
import Derived.Test.YthogickpeldhlaaGreatChk
namespace Go.Proofs.YthogickpeldhlaaGreat

/-- A variable, and what it stands for. -/
abbrev BindD := ByteArray × ByteArray

def getB : List BindD → ByteArray → Option ByteArray
  | [], _ => none
  | b :: l, v => if b.1 = v then some b.2 else getB l v

def keysB (l : List BindD) : List ByteArray := l.map (·.1)

theorem getB_append (l m : List BindD) (v : ByteArray) : getB (l ++ m) v = match getB l v with | some s => some s | none => getB m v := by
  induction l with
  | nil => rfl
  | cons b l ih =>
    simp only [List.cons_append, getB]
    split
    · rfl
    · exact ih

theorem getB_none {l : List BindD} {v : ByteArray} : getB l v = none ↔ v ∉ keysB l := by
  induction l with
  | nil => simp [getB, keysB]
  | cons b l ih =>
    simp only [getB, keysB, List.map_cons, List.mem_cons, not_or]
    split
    · rename_i h; simp [h]
    · rename_i h
      rw [ih]
      exact ⟨fun h' => ⟨fun e => h e.symm, h'⟩, fun h' => h'.2⟩

theorem getB_mem {l : List BindD} {v s : ByteArray} (h : getB l v = some s) : (v, s) ∈ l := by
  induction l with
  | nil => cases h
  | cons b l ih =>
    simp only [getB] at h
    split at h
    · rename_i e
      cases h
      subst e
      exact List.mem_cons_self
    · exact List.mem_cons_of_mem _ (ih h)

theorem getB_of_mem {l : List BindD} (hn : (keysB l).Nodup) {v s : ByteArray} (h : (v, s) ∈ l) : getB l v = some s := by
  induction l with
  | nil => cases h
  | cons b l ih =>
    have hn' : b.1 ∉ keysB l ∧ (keysB l).Nodup := List.nodup_cons.1 hn
    rcases List.mem_cons.1 h with e | h
    · subst e; simp [getB]
    · have : b.1 ≠ v := fun e => hn'.1 (by rw [e]; exact List.mem_map.2 ⟨_, h, rfl⟩)
      simp only [getB, if_neg this]
      exact ih hn'.2 h

theorem getB_isSome {l : List BindD} {v : ByteArray} (h : v ∈ keysB l) : ∃ s, getB l v = some s := by
  cases e : getB l v with
  | none => exact absurd h (getB_none.1 e)
  | some s => exact ⟨s, rfl⟩

theorem getB_perm {l m : List BindD} (h : l.Perm m) (hn : (keysB l).Nodup) (v : ByteArray) : getB l v = getB m v := by
  have hm : (keysB m).Nodup := (h.map _).nodup_iff.1 hn
  cases e : getB l v with
  | none => exact (getB_none.2 fun hv => getB_none.1 e ((h.map _).mem_iff.2 hv)).symm
  | some s => exact (getB_of_mem hm (h.mem_iff.1 (getB_mem e))).symm

/-- What a term is, or stands for. -/
def worthB (l : List BindD) (t : TermD) : Option ByteArray := if t.1 then getB l (bs t.2) else some (bs t.2)

def fillArgs (l : List BindD) : List TermD → Option (List ByteArray)
  | [] => some []
  | t :: ts => match worthB l t with
    | none => none
    | some s => match fillArgs l ts with
      | none => none
      | some r => some (s :: r)

abbrev FactB := ByteArray × List ByteArray

def fillB (a : AtomD) (l : List BindD) : Option FactB := match fillArgs l a.terms with
  | none => none
  | some r => some (bs a.name, r)

/-- l, and what is put behind it, term by term. -/
def meetGo (l : List BindD) : List TermD → List ByteArray → Option (List BindD)
  | [], _ => some l
  | _ :: _, [] => none
  | t :: ts, x :: xs => match worthB l t with
    | none => meetGo (l ++ [(bs t.2, x)]) ts xs
    | some s => if s = x then meetGo l ts xs else none

def meetB (a : AtomD) (f : FactB) (l : List BindD) : Option (List BindD) :=
  if bs a.name = f.1 ∧ a.terms.length = f.2.length then meetGo l a.terms f.2 else none

/-- Each list that Meet tells, of each list so far, and each fact. -/
def meetAllB (a : AtomD) (fs : List FactB) (ls : List (List BindD)) : List (List BindD) := ls.flatMap fun l => fs.filterMap fun f => meetB a f l

def metGo (pick : Nat → List FactB) : Nat → List AtomD → List (List BindD) → Option (List (List BindD))
  | _, [], ls => some ls
  | n, a :: as, ls => if a.no then metGo pick (n + 1) as ls
    else if 20000 < (meetAllB a (pick n) ls).length then none
    else metGo pick (n + 1) as (meetAllB a (pick n) ls)

def inB (l : List FactB) (f : FactB) : Bool := l.any fun x => decide (x = f)
theorem inB_iff {l : List FactB} {f : FactB} : inB l f = true ↔ f ∈ l := by
  unfold inB
  rw [List.any_eq_true]
  exact ⟨fun ⟨x, hx, e⟩ => by rw [decide_eq_true_eq] at e; rw [← e]; exact hx, fun h => ⟨f, h, by simp⟩⟩

/-- Something that must not be so is so. -/
def barredB (pick : Nat → List FactB) : Nat → List AtomD → List BindD → Bool
  | _, [], _ => false
  | n, a :: as, l => (a.no && (match fillB a l with | some f => inB (pick n) f | none => false)) || barredB pick (n + 1) as l

/-! Filled. -/

theorem worthB_append {l m : List BindD} {t : TermD} {s : ByteArray} (h : worthB l t = some s) : worthB (l ++ m) t = some s := by
  unfold worthB at *
  split
  · rename_i ht
    rw [if_pos ht] at h
    rw [getB_append, h]
  · rename_i ht
    rw [if_neg ht] at h
    exact h

theorem fillArgs_append {l m : List BindD} : ∀ {ts : List TermD} {r : List ByteArray}, fillArgs l ts = some r → fillArgs (l ++ m) ts = some r
  | [], r, h => h
  | t :: ts, r, h => by
    simp only [fillArgs] at h ⊢
    cases e : worthB l t with
    | none => rw [e] at h; cases h
    | some s =>
      rw [e] at h
      rw [worthB_append e]
      dsimp only at h ⊢
      cases e2 : fillArgs l ts with
      | none => rw [e2] at h; cases h
      | some q =>
        rw [e2] at h
        rw [fillArgs_append e2]
        exact h

theorem fillB_append {l m : List BindD} {a : AtomD} {f : FactB} (h : fillB a l = some f) : fillB a (l ++ m) = some f := by
  unfold fillB at *
  cases e : fillArgs l a.terms with
  | none => rw [e] at h; cases h
  | some r => rw [e] at h; rw [fillArgs_append e]; exact h

theorem fillArgs_congr {l m : List BindD} : ∀ {ts : List TermD}, (∀ t ∈ ts, t.1 = true → getB l (bs t.2) = getB m (bs t.2)) → fillArgs l ts = fillArgs m ts
  | [], _ => rfl
  | t :: ts, h => by
    have e1 : worthB l t = worthB m t := by
      unfold worthB
      split
      · rename_i ht; exact h t List.mem_cons_self ht
      · rfl
    simp only [fillArgs]
    rw [e1, fillArgs_congr (ts := ts) fun t ht => h t (List.mem_cons_of_mem _ ht)]

theorem fillB_congr {l m : List BindD} {a : AtomD} (h : ∀ t ∈ a.terms, t.1 = true → getB l (bs t.2) = getB m (bs t.2)) : fillB a l = fillB a m := by
  unfold fillB
  rw [fillArgs_congr h]

theorem fillB_perm {l m : List BindD} (h : l.Perm m) (hn : (keysB l).Nodup) (a : AtomD) : fillB a l = fillB a m := fillB_congr fun _ _ _ => getB_perm h hn _

theorem fillArgs_some {l : List BindD} : ∀ {ts : List TermD}, (∀ t ∈ ts, t.1 = true → bs t.2 ∈ keysB l) → ∃ r, fillArgs l ts = some r
  | [], _ => ⟨[], rfl⟩
  | t :: ts, h => by
    obtain ⟨r, hr⟩ := fillArgs_some (ts := ts) fun t ht => h t (List.mem_cons_of_mem _ ht)
    have : ∃ s, worthB l t = some s := by
      unfold worthB
      split
      · rename_i ht; exact getB_isSome (h t List.mem_cons_self ht)
      · exact ⟨_, rfl⟩
    obtain ⟨s, hs⟩ := this
    exact ⟨s :: r, by simp only [fillArgs, hs, hr]⟩

theorem fillB_some {l : List BindD} {a : AtomD} (h : ∀ t ∈ a.terms, t.1 = true → bs t.2 ∈ keysB l) : ∃ f, fillB a l = some f := by
  obtain ⟨r, hr⟩ := fillArgs_some h
  exact ⟨(bs a.name, r), by unfold fillB; rw [hr]⟩

theorem fillArgs_keys {l : List BindD} : ∀ {ts : List TermD} {r : List ByteArray}, fillArgs l ts = some r → ∀ t ∈ ts, t.1 = true → bs t.2 ∈ keysB l
  | [], _, _ => fun _ h => by cases h
  | t :: ts, r, h => fun u hu hut => by
    simp only [fillArgs] at h
    cases e : worthB l t with
    | none => rw [e] at h; cases h
    | some s =>
      rw [e] at h
      dsimp only at h
      cases e2 : fillArgs l ts with
      | none => rw [e2] at h; cases h
      | some q =>
        rcases List.mem_cons.1 hu with rfl | hu
        · unfold worthB at e
          rw [if_pos hut] at e
          exact Classical.byContradiction fun hk => by rw [getB_none.2 hk] at e; cases e
        · exact fillArgs_keys e2 u hu hut

theorem fillB_keys {l : List BindD} {a : AtomD} {f : FactB} (h : fillB a l = some f) : ∀ t ∈ a.terms, t.1 = true → bs t.2 ∈ keysB l := by
  unfold fillB at h
  cases e : fillArgs l a.terms with
  | none => rw [e] at h; cases h
  | some r => exact fillArgs_keys e

theorem fillArgs_len {l : List BindD} : ∀ {ts : List TermD} {r : List ByteArray}, fillArgs l ts = some r → r.length = ts.length
  | [], r, h => by cases h; rfl
  | t :: ts, r, h => by
    simp only [fillArgs] at h
    cases e : worthB l t with
    | none => rw [e] at h; cases h
    | some s =>
      rw [e] at h
      dsimp only at h
      cases e2 : fillArgs l ts with
      | none => rw [e2] at h; cases h
      | some q => rw [e2] at h; cases h; simp [fillArgs_len e2]

/-! Variables so far. -/

theorem addNew_pre (K : List Bs) (s : Bs) : ∃ r, addNew K s = K ++ r := by
  unfold addNew
  split
  · exact ⟨[], by simp⟩
  · exact ⟨[s], rfl⟩

theorem varsGo_cons (K : List Bs) (t : TermD) (ts : List TermD) : varsGo K (t :: ts) = varsGo (if t.1 then addNew K t.2 else K) ts := rfl

theorem varsGo_pre : ∀ (ts : List TermD) (K : List Bs), ∃ r, varsGo K ts = K ++ r
  | [], K => ⟨[], by simp [varsGo]⟩
  | t :: ts, K => by
    rw [varsGo_cons]
    split
    · obtain ⟨r1, h1⟩ := addNew_pre K t.2
      obtain ⟨r2, h2⟩ := varsGo_pre ts (addNew K t.2)
      exact ⟨r1 ++ r2, by rw [h2, h1, List.append_assoc]⟩
    · exact varsGo_pre ts K

theorem addNew_nodup {K : List Bs} (h : K.Nodup) (s : Bs) : (addNew K s).Nodup := by
  unfold addNew
  split
  · exact h
  · rename_i hc
    rw [List.nodup_append]
    refine ⟨h, by simp, fun a ha b hb => ?_⟩
    simp at hb
    subst hb
    intro e
    subst e
    simp at hc
    exact hc ha

theorem varsGo_nodup : ∀ (ts : List TermD) {K : List Bs}, K.Nodup → (varsGo K ts).Nodup
  | [], _, h => h
  | t :: ts, K, h => by
    rw [varsGo_cons]
    split
    · exact varsGo_nodup ts (addNew_nodup h _)
    · exact varsGo_nodup ts h

theorem mem_addNew {K : List Bs} {s v : Bs} : v ∈ addNew K s ↔ v ∈ K ∨ v = s := by
  unfold addNew
  split
  · rename_i h
    simp at h
    exact ⟨Or.inl, fun h' => h'.elim id fun e => by rw [e]; exact h⟩
  · simp

theorem mem_varsGo : ∀ (ts : List TermD) {K : List Bs} {v : Bs}, v ∈ varsGo K ts ↔ v ∈ K ∨ ∃ t ∈ ts, t.1 = true ∧ t.2 = v
  | [], K, v => by simp [varsGo]
  | t :: ts, K, v => by
    rw [varsGo_cons, mem_varsGo ts]
    cases ht : t.1
    · simp [ht]
    · simp only [if_true, mem_addNew, List.mem_cons, exists_eq_or_imp, ht, true_and]
      constructor
      · rintro ((h | h) | h)
        · exact Or.inl h
        · exact Or.inr (Or.inl h.symm)
        · exact Or.inr (Or.inr h)
      · rintro (h | h | h)
        · exact Or.inl (Or.inl h)
        · exact Or.inl (Or.inr h.symm)
        · exact Or.inr h

theorem map_bs_inj {a b : List Bs} (h : a.map bs = b.map bs) : a = b := by
  exact List.map_inj_right (fun _ _ => bs_inj) |>.1 h

theorem mem_map_bs {K : List Bs} {v : Bs} : bs v ∈ K.map bs ↔ v ∈ K := by
  constructor
  · intro h
    obtain ⟨x, hx, e⟩ := List.mem_map.1 h
    rw [← bs_inj e]; exact hx
  · exact fun h => List.mem_map.2 ⟨_, h, rfl⟩

theorem nodup_map_bs {K : List Bs} (h : K.Nodup) : (K.map bs).Nodup := by
  rw [List.Nodup, List.pairwise_map]
  exact h.imp fun hne e => hne (bs_inj e)

/-! Met. -/

theorem meetGo_ok : ∀ (ts : List TermD) (xs : List ByteArray) (l m : List BindD) (K : List Bs), ts.length = xs.length → keysB l = K.map bs → meetGo l ts xs = some m →
    (∃ r, m = l ++ r) ∧ keysB m = (varsGo K ts).map bs ∧ fillArgs m ts = some xs
  | [], [], l, m, K, _, hk, h => by
    cases h
    exact ⟨⟨[], by simp⟩, hk, rfl⟩
  | [], _ :: _, _, _, _, hl, _, _ => by simp at hl
  | _ :: _, [], _, _, _, hl, _, _ => by simp at hl
  | t :: ts, x :: xs, l, m, K, hl, hk, h => by
    have hl' : ts.length = xs.length := by simpa using hl
    simp only [meetGo] at h
    cases e : worthB l t with
    | none =>
      rw [e] at h
      dsimp only at h
      have ht : t.1 = true := by
        unfold worthB at e
        split at e
        · assumption
        · cases e
      have hg : getB l (bs t.2) = none := by unfold worthB at e; rwa [if_pos ht] at e
      have hnk : t.2 ∉ K := fun hm => getB_none.1 hg (by rw [hk]; exact mem_map_bs.2 hm)
      have ha : addNew K t.2 = K ++ [t.2] := by unfold addNew; rw [if_neg (by simpa using hnk)]
      obtain ⟨⟨r, hr⟩, h2, h3⟩ := meetGo_ok ts xs (l ++ [(bs t.2, x)]) m (K ++ [t.2]) hl' (by simp [keysB] at hk ⊢; exact hk) h
      refine ⟨⟨(bs t.2, x) :: r, by rw [hr]; simp⟩, by rw [varsGo_cons, if_pos ht, ha]; exact h2, ?_⟩
      simp only [fillArgs]
      have hw : worthB m t = some x := by
        rw [hr]
        refine worthB_append ?_
        unfold worthB
        rw [if_pos ht, getB_append, hg]
        simp [getB]
      rw [hw, h3]
    | some s =>
      rw [e] at h
      dsimp only at h
      split at h
      · rename_i hs
        subst hs
        have hK : (if t.1 = true then addNew K t.2 else K) = K := by
          split
          · rename_i ht
            unfold worthB at e
            rw [if_pos ht] at e
            unfold addNew
            rw [if_pos]
            have : bs t.2 ∈ keysB l := Classical.byContradiction fun hk => by rw [getB_none.2 hk] at e; cases e
            rw [hk] at this
            simpa using mem_map_bs.1 this
          · rfl
        obtain ⟨⟨r, hr⟩, h2, h3⟩ := meetGo_ok ts xs l m K hl' hk h
        refine ⟨⟨r, hr⟩, by rw [varsGo_cons, hK]; exact h2, ?_⟩
        simp only [fillArgs]
        rw [show worthB m t = some s by rw [hr]; exact worthB_append e, h3]
      · cases h

theorem meetGo_of : ∀ (ts : List TermD) (xs : List ByteArray) (l m r : List BindD) (K : List Bs), keysB l = K.map bs → m = l ++ r → keysB m = (varsGo K ts).map bs → fillArgs m ts = some xs → meetGo l ts xs = some m
  | [], xs, l, m, r, K, hk, hm, hv, _ => by
    have e : r = [] := by
      have h1 : (keysB m).length = (keysB l).length := by rw [hv, hk]; simp [varsGo]
      rw [hm] at h1
      simp [keysB] at h1
      exact h1
    rw [hm, e]
    simp [meetGo]
  | t :: ts, xs, l, m, r, K, hk, hm, hv, hf => by
    simp only [fillArgs] at hf
    cases e : worthB m t with
    | none => rw [e] at hf; cases hf
    | some s =>
      rw [e] at hf
      dsimp only at hf
      cases e2 : fillArgs m ts with
      | none => rw [e2] at hf; cases hf
      | some q =>
        rw [e2] at hf
        cases hf
        rw [varsGo_cons] at hv
        simp only [meetGo]
        cases e3 : worthB l t with
        | some s' =>
          have := worthB_append (m := r) e3
          rw [← hm, e] at this
          cases this
          dsimp only
          rw [if_pos rfl]
          have hK : (if t.1 = true then addNew K t.2 else K) = K := by
            split
            · rename_i ht
              unfold worthB at e3
              rw [if_pos ht] at e3
              unfold addNew
              rw [if_pos]
              have : bs t.2 ∈ keysB l := Classical.byContradiction fun hk => by rw [getB_none.2 hk] at e3; cases e3
              rw [hk] at this
              simpa using mem_map_bs.1 this
            · rfl
          rw [hK] at hv
          exact meetGo_of ts q l m r K hk hm hv e2
        | none =>
          dsimp only
          have ht : t.1 = true := by
            unfold worthB at e3
            split at e3
            · assumption
            · cases e3
          have hg : getB l (bs t.2) = none := by unfold worthB at e3; rwa [if_pos ht] at e3
          have hnk : t.2 ∉ K := fun hm => getB_none.1 hg (by rw [hk]; exact mem_map_bs.2 hm)
          have ha : addNew K t.2 = K ++ [t.2] := by unfold addNew; rw [if_neg (by simpa using hnk)]
          rw [if_pos ht, ha] at hv
          obtain ⟨q', hq'⟩ := varsGo_pre ts (K ++ [t.2])
          have hkr : keysB r = bs t.2 :: q'.map bs := by
            have h1 := hv
            rw [hq', hm] at h1
            simp only [keysB, List.map_append] at h1 hk ⊢
            rw [hk, List.append_assoc] at h1
            simpa using List.append_cancel_left h1
          cases r with
          | nil => simp [keysB] at hkr
          | cons b r' =>
            have hb : b.1 = bs t.2 := by simp [keysB] at hkr; exact hkr.1
            have hbs : b.2 = s := by
              unfold worthB at e
              rw [if_pos ht, hm, getB_append, hg] at e
              simp only [getB, hb, if_true] at e
              exact Option.some.inj e
            have hbe : b = (bs t.2, s) := by rw [← hb, ← hbs]
            subst hbe
            exact meetGo_of ts q (l ++ [(bs t.2, s)]) m r' (K ++ [t.2]) (by simp [keysB] at hk ⊢; exact hk) (by rw [hm]; simp) hv e2

theorem meetB_ok {a : AtomD} {f : FactB} {l m : List BindD} {K : List Bs} (hk : keysB l = K.map bs) (h : meetB a f l = some m) : (∃ r, m = l ++ r) ∧ keysB m = (varsGo K a.terms).map bs ∧ fillB a m = some f := by
  unfold meetB at h
  split at h
  · rename_i hc
    obtain ⟨h1, h2, h3⟩ := meetGo_ok a.terms f.2 l m K hc.2 hk h
    exact ⟨h1, h2, by unfold fillB; rw [h3, hc.1]⟩
  · cases h

theorem meetB_of {a : AtomD} {f : FactB} {l m r : List BindD} {K : List Bs} (hk : keysB l = K.map bs) (hm : m = l ++ r) (hv : keysB m = (varsGo K a.terms).map bs) (hf : fillB a m = some f) : meetB a f l = some m := by
  unfold fillB at hf
  cases e : fillArgs m a.terms with
  | none => rw [e] at hf; cases hf
  | some x =>
    rw [e] at hf
    cases hf
    unfold meetB
    rw [if_pos ⟨rfl, (fillArgs_len e).symm⟩]
    exact meetGo_of a.terms x l m r K hk hm hv e

end Go.Proofs.YthogickpeldhlaaGreat
