import Derived.Test.YtbohggoeebhdmaaGreatDoorJ21
import Derived.Lib.ItoaNum
import Derived.Test.YtbohggoeebhdmaaGreatDoorChecked
import Derived.WalkKit
import Derived.WalkSpells
import Derived.WalkLawsBesides
import Derived.Shelf.SlSortCmp.QuietGrown
import Derived.Deep.QuietTactic
import Derived.BigQuiet
import Derived.RegionTactic
import Derived.BigRegion
import Derived.Deep.RegionLaw
import Derived.Deep.LoopGhost
import Derived.Shelf.Strings.BuilderK
import Derived.RangeFuncNested
import Derived.RangeFuncBound
import Derived.RangeFuncCalls
import Derived.RangeFuncLeaves
import Derived.Shelf.AbstractIn
import Derived.Shelf.Abstract
import Derived.Sort.MapsRangeIn
import Derived.Sort.KeysCollected
import Derived.Maps.OwnIn
import Derived.Maps.AppendAt
import Derived.OwnWalkIn
import Derived.TacticsInMore
import Derived.RegionIn
import Derived.LoopNIn
import Derived.LoopIn
/- What variables stand for: the document's answer of chapter 4, plain: lists of binds, an atom filled, met, a body's lists. Nothing of the program. -/
namespace Go.Proofs.YtbohggoeebhdmaaGreatDoor

/-- A variable, and what it stands for. -/
abbrev BindD := ByteArray × ByteArray

def getB : List BindD → ByteArray → Option ByteArray
  | [], _ => none
  | b :: l, v => if b.1 = v then some b.2 else getB l v

def keysB (l : List BindD) : List ByteArray := l.map (·.1)

theorem getB_append (l m : List BindD) (v : ByteArray) : getB (l ++ m) v = match getB l v with | some s => some s | none => getB m v := by
  induction l with
  | nil => rfl
  | cons b l ih =>
    simp only [List.cons_append, getB]
    split
    · rfl
    · exact ih

theorem getB_none {l : List BindD} {v : ByteArray} : getB l v = none ↔ v ∉ keysB l := by
  induction l with
  | nil => simp [getB, keysB]
  | cons b l ih =>
    simp only [getB, keysB, List.map_cons, List.mem_cons, not_or]
    split
    · rename_i h; simp [h]
    · rename_i h
      rw [ih]
      exact ⟨fun h' => ⟨fun e => h e.symm, h'⟩, fun h' => h'.2⟩

theorem getB_mem {l : List BindD} {v s : ByteArray} (h : getB l v = some s) : (v, s) ∈ l := by
  induction l with
  | nil => cases h
  | cons b l ih =>
    simp only [getB] at h
    split at h
    · rename_i e
      cases h
      subst e
      exact List.mem_cons_self
    · exact List.mem_cons_of_mem _ (ih h)

theorem getB_of_mem {l : List BindD} (hn : (keysB l).Nodup) {v s : ByteArray} (h : (v, s) ∈ l) : getB l v = some s := by
  induction l with
  | nil => cases h
  | cons b l ih =>
    have hn' : b.1 ∉ keysB l ∧ (keysB l).Nodup := List.nodup_cons.1 hn
    rcases List.mem_cons.1 h with e | h
    · subst e; simp [getB]
    · have : b.1 ≠ v := fun e => hn'.1 (by rw [e]; exact List.mem_map.2 ⟨_, h, rfl⟩)
      simp only [getB, if_neg this]
      exact ih hn'.2 h

theorem getB_isSome {l : List BindD} {v : ByteArray} (h : v ∈ keysB l) : ∃ s, getB l v = some s := by
  cases e : getB l v with
  | none => exact absurd h (getB_none.1 e)
  | some s => exact ⟨s, rfl⟩

theorem getB_perm {l m : List BindD} (h : l.Perm m) (hn : (keysB l).Nodup) (v : ByteArray) : getB l v = getB m v := by
  have hm : (keysB m).Nodup := (h.map _).nodup_iff.1 hn
  cases e : getB l v with
  | none => exact (getB_none.2 fun hv => getB_none.1 e ((h.map _).mem_iff.2 hv)).symm
  | some s => exact (getB_of_mem hm (h.mem_iff.1 (getB_mem e))).symm

/-- What a term is, or stands for. -/
def worthB (l : List BindD) (t : TermD) : Option ByteArray := if t.1 then getB l (bs t.2) else some (bs t.2)

def fillArgs (l : List BindD) : List TermD → Option (List ByteArray)
  | [] => some []
  | t :: ts => match worthB l t with
    | none => none
    | some s => match fillArgs l ts with
      | none => none
      | some r => some (s :: r)

abbrev FactB := ByteArray × List ByteArray

def fillB (a : AtomD) (l : List BindD) : Option FactB := match fillArgs l a.terms with
  | none => none
  | some r => some (bs a.name, r)

/-- l, and what is put behind it, term by term. -/
def meetGo (l : List BindD) : List TermD → List ByteArray → Option (List BindD)
  | [], _ => some l
  | _ :: _, [] => none
  | t :: ts, x :: xs => match worthB l t with
    | none => meetGo (l ++ [(bs t.2, x)]) ts xs
    | some s => if s = x then meetGo l ts xs else none

def meetB (a : AtomD) (f : FactB) (l : List BindD) : Option (List BindD) :=
  if bs a.name = f.1 ∧ a.terms.length = f.2.length then meetGo l a.terms f.2 else none

/-- Each list that Meet tells, of each list so far, and each fact. -/
def meetAllB (a : AtomD) (fs : List FactB) (ls : List (List BindD)) : List (List BindD) := ls.flatMap fun l => fs.filterMap fun f => meetB a f l

def metGo (pick : Nat → List FactB) : Nat → List AtomD → List (List BindD) → Option (List (List BindD))
  | _, [], ls => some ls
  | n, a :: ats, ls => if a.no then metGo pick (n + 1) ats ls
    else if 20000 < (meetAllB a (pick n) ls).length then none
    else metGo pick (n + 1) ats (meetAllB a (pick n) ls)

def inB (l : List FactB) (f : FactB) : Bool := l.any fun x => decide (x = f)
theorem inB_iff {l : List FactB} {f : FactB} : inB l f = true ↔ f ∈ l := by
  unfold inB
  rw [List.any_eq_true]
  exact ⟨fun ⟨x, hx, e⟩ => by rw [decide_eq_true_eq] at e; rw [← e]; exact hx, fun h => ⟨f, h, by simp⟩⟩

/-- Something that must not be so is so. -/
def barredB (pick : Nat → List FactB) : Nat → List AtomD → List BindD → Bool
  | _, [], _ => false
  | n, a :: ats, l => (a.no && (match fillB a l with | some f => inB (pick n) f | none => false)) || barredB pick (n + 1) ats l

/-! Filled. -/

theorem worthB_append {l m : List BindD} {t : TermD} {s : ByteArray} (h : worthB l t = some s) : worthB (l ++ m) t = some s := by
  unfold worthB at *
  split
  · rename_i ht
    rw [if_pos ht] at h
    rw [getB_append, h]
  · rename_i ht
    rw [if_neg ht] at h
    exact h

theorem fillArgs_append {l m : List BindD} : ∀ {ts : List TermD} {r : List ByteArray}, fillArgs l ts = some r → fillArgs (l ++ m) ts = some r
  | [], r, h => h
  | t :: ts, r, h => by
    simp only [fillArgs] at h ⊢
    cases e : worthB l t with
    | none => rw [e] at h; cases h
    | some s =>
      rw [e] at h
      rw [worthB_append e]
      dsimp only at h ⊢
      cases e2 : fillArgs l ts with
      | none => rw [e2] at h; cases h
      | some q =>
        rw [e2] at h
        rw [fillArgs_append e2]
        exact h

theorem fillB_append {l m : List BindD} {a : AtomD} {f : FactB} (h : fillB a l = some f) : fillB a (l ++ m) = some f := by
  unfold fillB at *
  cases e : fillArgs l a.terms with
  | none => rw [e] at h; cases h
  | some r => rw [e] at h; rw [fillArgs_append e]; exact h

theorem fillArgs_congr {l m : List BindD} : ∀ {ts : List TermD}, (∀ t ∈ ts, t.1 = true → getB l (bs t.2) = getB m (bs t.2)) → fillArgs l ts = fillArgs m ts
  | [], _ => rfl
  | t :: ts, h => by
    have e1 : worthB l t = worthB m t := by
      unfold worthB
      split
      · rename_i ht; exact h t List.mem_cons_self ht
      · rfl
    simp only [fillArgs]
    rw [e1, fillArgs_congr (ts := ts) fun t ht => h t (List.mem_cons_of_mem _ ht)]

theorem fillB_congr {l m : List BindD} {a : AtomD} (h : ∀ t ∈ a.terms, t.1 = true → getB l (bs t.2) = getB m (bs t.2)) : fillB a l = fillB a m := by
  unfold fillB
  rw [fillArgs_congr h]

theorem fillB_perm {l m : List BindD} (h : l.Perm m) (hn : (keysB l).Nodup) (a : AtomD) : fillB a l = fillB a m := fillB_congr fun _ _ _ => getB_perm h hn _

theorem fillArgs_some {l : List BindD} : ∀ {ts : List TermD}, (∀ t ∈ ts, t.1 = true → bs t.2 ∈ keysB l) → ∃ r, fillArgs l ts = some r
  | [], _ => ⟨[], rfl⟩
  | t :: ts, h => by
    obtain ⟨r, hr⟩ := fillArgs_some (ts := ts) fun t ht => h t (List.mem_cons_of_mem _ ht)
    have : ∃ s, worthB l t = some s := by
      unfold worthB
      split
      · rename_i ht; exact getB_isSome (h t List.mem_cons_self ht)
      · exact ⟨_, rfl⟩
    obtain ⟨s, hs⟩ := this
    exact ⟨s :: r, by simp only [fillArgs, hs, hr]⟩

theorem fillB_some {l : List BindD} {a : AtomD} (h : ∀ t ∈ a.terms, t.1 = true → bs t.2 ∈ keysB l) : ∃ f, fillB a l = some f := by
  obtain ⟨r, hr⟩ := fillArgs_some h
  exact ⟨(bs a.name, r), by unfold fillB; rw [hr]⟩

theorem fillArgs_keys {l : List BindD} : ∀ {ts : List TermD} {r : List ByteArray}, fillArgs l ts = some r → ∀ t ∈ ts, t.1 = true → bs t.2 ∈ keysB l
  | [], _, _ => fun _ h => by cases h
  | t :: ts, r, h => fun u hu hut => by
    simp only [fillArgs] at h
    cases e : worthB l t with
    | none => rw [e] at h; cases h
    | some s =>
      rw [e] at h
      dsimp only at h
      cases e2 : fillArgs l ts with
      | none => rw [e2] at h; cases h
      | some q =>
        rcases List.mem_cons.1 hu with rfl | hu
        · unfold worthB at e
          rw [if_pos hut] at e
          exact Classical.byContradiction fun hk => by rw [getB_none.2 hk] at e; cases e
        · exact fillArgs_keys e2 u hu hut

theorem fillB_keys {l : List BindD} {a : AtomD} {f : FactB} (h : fillB a l = some f) : ∀ t ∈ a.terms, t.1 = true → bs t.2 ∈ keysB l := by
  unfold fillB at h
  cases e : fillArgs l a.terms with
  | none => rw [e] at h; cases h
  | some r => exact fillArgs_keys e

theorem fillArgs_len {l : List BindD} : ∀ {ts : List TermD} {r : List ByteArray}, fillArgs l ts = some r → r.length = ts.length
  | [], r, h => by cases h; rfl
  | t :: ts, r, h => by
    simp only [fillArgs] at h
    cases e : worthB l t with
    | none => rw [e] at h; cases h
    | some s =>
      rw [e] at h
      dsimp only at h
      cases e2 : fillArgs l ts with
      | none => rw [e2] at h; cases h
      | some q => rw [e2] at h; cases h; simp [fillArgs_len e2]

/-! Variables so far. -/

theorem addNew_pre (K : List Bs) (s : Bs) : ∃ r, addNew K s = K ++ r := by
  unfold addNew
  split
  · exact ⟨[], by simp⟩
  · exact ⟨[s], rfl⟩

theorem varsGo_cons (K : List Bs) (t : TermD) (ts : List TermD) : varsGo K (t :: ts) = varsGo (if t.1 then addNew K t.2 else K) ts := rfl

theorem varsGo_pre : ∀ (ts : List TermD) (K : List Bs), ∃ r, varsGo K ts = K ++ r
  | [], K => ⟨[], by simp [varsGo]⟩
  | t :: ts, K => by
    rw [varsGo_cons]
    split
    · obtain ⟨r1, h1⟩ := addNew_pre K t.2
      obtain ⟨r2, h2⟩ := varsGo_pre ts (addNew K t.2)
      exact ⟨r1 ++ r2, by rw [h2, h1, List.append_assoc]⟩
    · exact varsGo_pre ts K

theorem addNew_nodup {K : List Bs} (h : K.Nodup) (s : Bs) : (addNew K s).Nodup := by
  unfold addNew
  split
  · exact h
  · rename_i hc
    rw [List.nodup_append]
    refine ⟨h, by simp, fun a ha b hb => ?_⟩
    simp at hb
    subst hb
    intro e
    subst e
    simp at hc
    exact hc ha

theorem varsGo_nodup : ∀ (ts : List TermD) {K : List Bs}, K.Nodup → (varsGo K ts).Nodup
  | [], _, h => h
  | t :: ts, K, h => by
    rw [varsGo_cons]
    split
    · exact varsGo_nodup ts (addNew_nodup h _)
    · exact varsGo_nodup ts h

theorem mem_addNew {K : List Bs} {s v : Bs} : v ∈ addNew K s ↔ v ∈ K ∨ v = s := by
  unfold addNew
  split
  · rename_i h
    simp at h
    exact ⟨Or.inl, fun h' => h'.elim id fun e => by rw [e]; exact h⟩
  · simp

theorem mem_varsGo : ∀ (ts : List TermD) {K : List Bs} {v : Bs}, v ∈ varsGo K ts ↔ v ∈ K ∨ ∃ t ∈ ts, t.1 = true ∧ t.2 = v
  | [], K, v => by simp [varsGo]
  | t :: ts, K, v => by
    rw [varsGo_cons, mem_varsGo ts]
    cases ht : t.1
    · simp [ht]
    · simp only [if_true, mem_addNew, List.mem_cons, exists_eq_or_imp, ht, true_and]
      constructor
      · rintro ((h | h) | h)
        · exact Or.inl h
        · exact Or.inr (Or.inl h.symm)
        · exact Or.inr (Or.inr h)
      · rintro (h | h | h)
        · exact Or.inl (Or.inl h)
        · exact Or.inl (Or.inr h.symm)
        · exact Or.inr h

theorem map_bs_inj {a b : List Bs} (h : a.map bs = b.map bs) : a = b := by
  exact List.map_inj_right (fun _ _ => bs_inj) |>.1 h

theorem mem_map_bs {K : List Bs} {v : Bs} : bs v ∈ K.map bs ↔ v ∈ K := by
  constructor
  · intro h
    obtain ⟨x, hx, e⟩ := List.mem_map.1 h
    rw [← bs_inj e]; exact hx
  · exact fun h => List.mem_map.2 ⟨_, h, rfl⟩

theorem nodup_map_bs {K : List Bs} (h : K.Nodup) : (K.map bs).Nodup := by
  rw [List.Nodup, List.pairwise_map]
  exact h.imp fun hne e => hne (bs_inj e)

/-! Met. -/

theorem meetGo_ok : ∀ (ts : List TermD) (xs : List ByteArray) (l m : List BindD) (K : List Bs), ts.length = xs.length → keysB l = K.map bs → meetGo l ts xs = some m →
    (∃ r, m = l ++ r) ∧ keysB m = (varsGo K ts).map bs ∧ fillArgs m ts = some xs
  | [], [], l, m, K, _, hk, h => by
    cases h
    exact ⟨⟨[], by simp⟩, hk, rfl⟩
  | [], _ :: _, _, _, _, hl, _, _ => by simp at hl
  | _ :: _, [], _, _, _, hl, _, _ => by simp at hl
  | t :: ts, x :: xs, l, m, K, hl, hk, h => by
    have hl' : ts.length = xs.length := by simpa using hl
    simp only [meetGo] at h
    cases e : worthB l t with
    | none =>
      rw [e] at h
      dsimp only at h
      have ht : t.1 = true := by
        unfold worthB at e
        split at e
        · assumption
        · cases e
      have hg : getB l (bs t.2) = none := by unfold worthB at e; rwa [if_pos ht] at e
      have hnk : t.2 ∉ K := fun hm => getB_none.1 hg (by rw [hk]; exact mem_map_bs.2 hm)
      have ha : addNew K t.2 = K ++ [t.2] := by unfold addNew; rw [if_neg (by simpa using hnk)]
      obtain ⟨⟨r, hr⟩, h2, h3⟩ := meetGo_ok ts xs (l ++ [(bs t.2, x)]) m (K ++ [t.2]) hl' (by simp [keysB] at hk ⊢; exact hk) h
      refine ⟨⟨(bs t.2, x) :: r, by rw [hr]; simp⟩, by rw [varsGo_cons, if_pos ht, ha]; exact h2, ?_⟩
      simp only [fillArgs]
      have hw : worthB m t = some x := by
        rw [hr]
        refine worthB_append ?_
        unfold worthB
        rw [if_pos ht, getB_append, hg]
        simp [getB]
      rw [hw, h3]
    | some s =>
      rw [e] at h
      dsimp only at h
      split at h
      · rename_i hs
        subst hs
        have hK : (if t.1 = true then addNew K t.2 else K) = K := by
          split
          · rename_i ht
            unfold worthB at e
            rw [if_pos ht] at e
            unfold addNew
            rw [if_pos]
            have : bs t.2 ∈ keysB l := Classical.byContradiction fun hk => by rw [getB_none.2 hk] at e; cases e
            rw [hk] at this
            simpa using mem_map_bs.1 this
          · rfl
        obtain ⟨⟨r, hr⟩, h2, h3⟩ := meetGo_ok ts xs l m K hl' hk h
        refine ⟨⟨r, hr⟩, by rw [varsGo_cons, hK]; exact h2, ?_⟩
        simp only [fillArgs]
        rw [show worthB m t = some s by rw [hr]; exact worthB_append e, h3]
      · cases h

theorem meetGo_of : ∀ (ts : List TermD) (xs : List ByteArray) (l m r : List BindD) (K : List Bs), keysB l = K.map bs → m = l ++ r → keysB m = (varsGo K ts).map bs → fillArgs m ts = some xs → meetGo l ts xs = some m
  | [], xs, l, m, r, K, hk, hm, hv, _ => by
    have e : r = [] := by
      have h1 : (keysB m).length = (keysB l).length := by rw [hv, hk]; simp [varsGo]
      rw [hm] at h1
      simp [keysB] at h1
      exact h1
    rw [hm, e]
    simp [meetGo]
  | t :: ts, xs, l, m, r, K, hk, hm, hv, hf => by
    simp only [fillArgs] at hf
    cases e : worthB m t with
    | none => rw [e] at hf; cases hf
    | some s =>
      rw [e] at hf
      dsimp only at hf
      cases e2 : fillArgs m ts with
      | none => rw [e2] at hf; cases hf
      | some q =>
        rw [e2] at hf
        cases hf
        rw [varsGo_cons] at hv
        simp only [meetGo]
        cases e3 : worthB l t with
        | some s' =>
          have := worthB_append (m := r) e3
          rw [← hm, e] at this
          cases this
          dsimp only
          rw [if_pos rfl]
          have hK : (if t.1 = true then addNew K t.2 else K) = K := by
            split
            · rename_i ht
              unfold worthB at e3
              rw [if_pos ht] at e3
              unfold addNew
              rw [if_pos]
              have : bs t.2 ∈ keysB l := Classical.byContradiction fun hk => by rw [getB_none.2 hk] at e3; cases e3
              rw [hk] at this
              simpa using mem_map_bs.1 this
            · rfl
          rw [hK] at hv
          exact meetGo_of ts q l m r K hk hm hv e2
        | none =>
          dsimp only
          have ht : t.1 = true := by
            unfold worthB at e3
            split at e3
            · assumption
            · cases e3
          have hg : getB l (bs t.2) = none := by unfold worthB at e3; rwa [if_pos ht] at e3
          have hnk : t.2 ∉ K := fun hm => getB_none.1 hg (by rw [hk]; exact mem_map_bs.2 hm)
          have ha : addNew K t.2 = K ++ [t.2] := by unfold addNew; rw [if_neg (by simpa using hnk)]
          rw [if_pos ht, ha] at hv
          obtain ⟨q', hq'⟩ := varsGo_pre ts (K ++ [t.2])
          have hkr : keysB r = bs t.2 :: q'.map bs := by
            have h1 := hv
            rw [hq', hm] at h1
            simp only [keysB, List.map_append] at h1 hk ⊢
            rw [hk, List.append_assoc] at h1
            simpa using List.append_cancel_left h1
          cases r with
          | nil => simp [keysB] at hkr
          | cons b r' =>
            have hb : b.1 = bs t.2 := by simp [keysB] at hkr; exact hkr.1
            have hbs : b.2 = s := by
              unfold worthB at e
              rw [if_pos ht, hm, getB_append, hg] at e
              simp only [getB, hb, if_true] at e
              exact Option.some.inj e
            have hbe : b = (bs t.2, s) := by rw [← hb, ← hbs]
            subst hbe
            exact meetGo_of ts q (l ++ [(bs t.2, s)]) m r' (K ++ [t.2]) (by simp [keysB] at hk ⊢; exact hk) (by rw [hm]; simp) hv e2

theorem meetB_ok {a : AtomD} {f : FactB} {l m : List BindD} {K : List Bs} (hk : keysB l = K.map bs) (h : meetB a f l = some m) : (∃ r, m = l ++ r) ∧ keysB m = (varsGo K a.terms).map bs ∧ fillB a m = some f := by
  unfold meetB at h
  split at h
  · rename_i hc
    obtain ⟨h1, h2, h3⟩ := meetGo_ok a.terms f.2 l m K hc.2 hk h
    exact ⟨h1, h2, by unfold fillB; rw [h3, hc.1]⟩
  · cases h

theorem meetB_of {a : AtomD} {f : FactB} {l m r : List BindD} {K : List Bs} (hk : keysB l = K.map bs) (hm : m = l ++ r) (hv : keysB m = (varsGo K a.terms).map bs) (hf : fillB a m = some f) : meetB a f l = some m := by
  unfold fillB at hf
  cases e : fillArgs m a.terms with
  | none => rw [e] at hf; cases hf
  | some x =>
    rw [e] at hf
    cases hf
    unfold meetB
    rw [if_pos ⟨rfl, (fillArgs_len e).symm⟩]
    exact meetGo_of a.terms x l m r K hk hm hv e

end Go.Proofs.YtbohggoeebhdmaaGreatDoor

/- Sorting by a three-way comparison, plain; lists of binds in their order. Nothing of the program. -/
namespace Go.Proofs.YtbohggoeebhdmaaGreatDoor

variable {α : Type} {c : α → α → Int}

theorem Three.le_trans (h : Three c) {a b d : α} (h1 : c a b ≤ 0) (h2 : c b d ≤ 0) : c a d ≤ 0 := by
  by_cases e1 : c a b = 0
  · rw [h.zero _ _ e1]; exact h2
  · by_cases e2 : c b d = 0
    · rw [← h.zero _ _ e2]; exact h1
    · have := h.trans a b d (by omega) (by omega)
      omega

theorem Three.anti (h : Three c) {a b : α} (h1 : c a b ≤ 0) (h2 : c b a ≤ 0) : a = b := h.zero a b (by have := h.swap a b; omega)

theorem rise_ext (h : Three c) : ∀ {s t : List α}, s.Pairwise (fun a b => c a b < 0) → t.Pairwise (fun a b => c a b < 0) → (∀ x, x ∈ s ↔ x ∈ t) → s = t
  | [], [], _, _, _ => rfl
  | [], b :: t, _, _, e => absurd ((e b).2 List.mem_cons_self) (by simp)
  | a :: s, [], _, _, e => absurd ((e a).1 List.mem_cons_self) (by simp)
  | a :: s, b :: t, hs, ht, e => by
    have hs' := List.pairwise_cons.1 hs
    have ht' := List.pairwise_cons.1 ht
    have hab : a = b := by
      rcases List.mem_cons.1 ((e a).1 List.mem_cons_self) with h1 | h1
      · exact h1
      · rcases List.mem_cons.1 ((e b).2 List.mem_cons_self) with h2 | h2
        · exact h2.symm
        · have x1 := ht'.1 a h1
          have x2 := hs'.1 b h2
          have := h.swap a b
          omega
    subst hab
    have irr : c a a = 0 := h.refl a
    rw [rise_ext h hs'.2 ht'.2 fun x => ⟨fun hx => ?_, fun hx => ?_⟩]
    · rcases List.mem_cons.1 ((e x).1 (List.mem_cons_of_mem _ hx)) with h1 | h1
      · subst h1; have := hs'.1 x hx; omega
      · exact h1
    · rcases List.mem_cons.1 ((e x).2 (List.mem_cons_of_mem _ hx)) with h1 | h1
      · subst h1; have := ht'.1 x hx; omega
      · exact h1

theorem sorted_unique (h : Three c) : ∀ {l m : List α}, l.Perm m → l.Pairwise (fun a b => c a b ≤ 0) → m.Pairwise (fun a b => c a b ≤ 0) → l = m
  | [], m, hp, _, _ => hp.nil_eq
  | a :: l, [], hp, _, _ => by simpa using hp.length_eq
  | a :: l, b :: m, hp, hl, hm => by
    have hl' := List.pairwise_cons.1 hl
    have hm' := List.pairwise_cons.1 hm
    have hab : a = b := by
      rcases List.mem_cons.1 (hp.mem_iff.1 List.mem_cons_self) with h1 | h1
      · exact h1
      · rcases List.mem_cons.1 (hp.mem_iff.2 (List.mem_cons_self (a := b) (l := m))) with h2 | h2
        · exact h2.symm
        · exact h.anti (hl'.1 b h2) (hm'.1 a h1)
    subst hab
    rw [sorted_unique h (List.Perm.cons_inv hp) hl'.2 hm'.2]

/-- Sorted. -/
def sortBy (c : α → α → Int) (l : List α) : List α := l.mergeSort fun a b => decide (c a b ≤ 0)

theorem sortBy_perm (l : List α) : (sortBy c l).Perm l := List.mergeSort_perm _ _
theorem sortBy_sorted (h : Three c) (l : List α) : (sortBy c l).Pairwise fun a b => c a b ≤ 0 := by
  have := List.pairwise_mergeSort (le := fun a b => decide (c a b ≤ 0)) (fun a b d h1 h2 => by
    simp only [decide_eq_true_eq] at *
    exact h.le_trans h1 h2) (fun a b => by
    simp only [Bool.or_eq_true, decide_eq_true_eq]
    have := h.swap a b
    omega) l
  exact this.imp fun h => by simpa using h

theorem sortBy_of (h : Three c) {l m : List α} (hp : m.Perm l) (hs : m.Pairwise fun a b => c a b ≤ 0) : m = sortBy c l :=
  sorted_unique h (hp.trans (sortBy_perm l).symm) hs (sortBy_sorted h l)

theorem sortBy_congr (h : Three c) {l m : List α} (hp : l.Perm m) : sortBy c l = sortBy c m := sortBy_of h ((sortBy_perm l).trans hp) (sortBy_sorted h l)

theorem strict_of (h : Three c) {l : List α} (hs : l.Pairwise fun a b => c a b ≤ 0) (hn : l.Nodup) : l.Pairwise fun a b => c a b < 0 :=
  (hs.and hn).imp fun {a b} ⟨h1, h2⟩ => by
    rcases Int.lt_or_eq_of_le h1 with h3 | h3
    · exact h3
    · exact absurd (h.zero _ _ h3) h2

theorem strict_nodup (h : Three c) {l : List α} (hs : l.Pairwise fun a b => c a b < 0) : l.Nodup := hs.imp fun {a b} h1 e => by
  subst e
  rw [h.refl] at h1
  omega

/-- One list against another, element by element; who ends first comes first. -/
def cmpX (c : α → α → Int) : List α → List α → Int
  | [], [] => 0
  | [], _ :: _ => -1
  | _ :: _, [] => 1
  | a :: x, b :: y => if c a b ≠ 0 then c a b else cmpX c x y

theorem cmpX_swap (h : Three c) : ∀ x y, cmpX c y x = - cmpX c x y
  | [], [] => rfl
  | [], _ :: _ => rfl
  | _ :: _, [] => rfl
  | a :: x, b :: y => by
    have := h.swap a b
    simp only [cmpX]
    by_cases e : c a b = 0
    · rw [if_neg (by omega), if_neg (by omega)]; exact cmpX_swap h x y
    · rw [if_pos (by omega), if_pos e]; omega

theorem cmpX_zero (h : Three c) : ∀ x y, cmpX c x y = 0 → x = y
  | [], [], _ => rfl
  | [], _ :: _, e => by simp [cmpX] at e
  | _ :: _, [], e => by simp [cmpX] at e
  | a :: x, b :: y, e => by
    simp only [cmpX] at e
    by_cases e' : c a b = 0
    · rw [if_neg (by omega)] at e
      rw [h.zero _ _ e', cmpX_zero h x y e]
    · rw [if_pos e'] at e; exact absurd e e'

theorem cmpX_trans (h : Three c) : ∀ x y z, cmpX c x y < 0 → cmpX c y z < 0 → cmpX c x z < 0
  | [], [], z, h1, _ => by simp [cmpX] at h1
  | [], _ :: _, [], _, h2 => by simp [cmpX] at h2
  | [], _ :: _, _ :: _, _, _ => by simp [cmpX]
  | _ :: _, [], _, h1, _ => by simp [cmpX] at h1
  | _ :: _, _ :: _, [], _, h2 => by simp [cmpX] at h2
  | a :: x, b :: y, d :: z, h1, h2 => by
    simp only [cmpX] at h1 h2 ⊢
    by_cases e1 : c a b = 0
    · rw [if_neg (by omega)] at h1
      have := h.zero _ _ e1
      subst this
      by_cases e2 : c a d = 0
      · rw [if_neg (by omega)] at h2 ⊢; exact cmpX_trans h x y z h1 h2
      · rw [if_pos e2] at h2 ⊢; exact h2
    · rw [if_pos e1] at h1
      by_cases e2 : c b d = 0
      · have := h.zero _ _ e2
        subst this
        rw [if_pos e1]; exact h1
      · rw [if_pos e2] at h2
        have := h.trans a b d h1 h2
        rw [if_pos (by omega)]; exact this

theorem three_cmpX (h : Three c) : Three (cmpX c) := ⟨fun a b => cmpX_swap h a b, cmpX_zero h, cmpX_trans h⟩

/-- Binds, by what varies, then by what it stands for. -/
def cmpB (a b : BindD) : Int := if cmpS a.1 b.1 ≠ 0 then cmpS a.1 b.1 else cmpS a.2 b.2

theorem three_cmpB : Three cmpB where
  swap a b := by
    have h1 := three_cmpS.swap a.1 b.1
    have h2 := three_cmpS.swap a.2 b.2
    unfold cmpB
    by_cases e : cmpS a.1 b.1 = 0
    · rw [if_neg (by omega), if_neg (by omega)]; exact h2
    · rw [if_pos (by omega), if_pos e]; exact h1
  zero a b h := by
    unfold cmpB at h
    by_cases e : cmpS a.1 b.1 = 0
    · rw [if_neg (by omega)] at h
      have := three_cmpS.zero _ _ e
      have := three_cmpS.zero _ _ h
      obtain ⟨a1, a2⟩ := a
      obtain ⟨b1, b2⟩ := b
      simp_all
    · rw [if_pos e] at h; exact absurd h e
  trans a b d h k := by
    unfold cmpB at *
    by_cases e1 : cmpS a.1 b.1 = 0
    · rw [if_neg (by omega)] at h
      rw [three_cmpS.zero _ _ e1]
      by_cases e2 : cmpS b.1 d.1 = 0
      · rw [if_neg (by omega)] at k ⊢; exact three_cmpS.trans _ _ _ h k
      · rw [if_pos e2] at k ⊢; exact k
    · rw [if_pos e1] at h
      by_cases e2 : cmpS b.1 d.1 = 0
      · rw [← three_cmpS.zero _ _ e2, if_pos e1]; exact h
      · rw [if_pos e2] at k
        have := three_cmpS.trans _ _ _ h k
        rw [if_pos (by omega)]; exact this

abbrev cmpBs : List BindD → List BindD → Int := cmpX cmpB
theorem three_cmpBs : Three cmpBs := three_cmpX three_cmpB
abbrev sortB (l : List BindD) : List BindD := sortBy cmpB l

/-- A body's lists: none, if they are too many on the way. -/
def allB (pick : Nat → List FactB) (body : List AtomD) : Option (List (List BindD)) := match metGo pick 0 body [[]] with
  | none => none
  | some ms => some (sortBy cmpBs ((ms.filter fun l => !barredB pick 0 body l).map sortB))

/-- The variables of those that are not Not. -/
def posVars (K : List Bs) (ats : List AtomD) : List Bs := ats.foldl (fun K a => if a.no then K else varsGo K a.terms) K

theorem posVars_cons (K : List Bs) (a : AtomD) (ats : List AtomD) : posVars K (a :: ats) = posVars (if a.no then K else varsGo K a.terms) ats := rfl

theorem posVars_pre : ∀ (ats : List AtomD) (K : List Bs), ∃ r, posVars K ats = K ++ r
  | [], K => ⟨[], by simp [posVars]⟩
  | a :: ats, K => by
    rw [posVars_cons]
    split
    · exact posVars_pre ats K
    · obtain ⟨r1, h1⟩ := varsGo_pre a.terms K
      obtain ⟨r2, h2⟩ := posVars_pre ats (varsGo K a.terms)
      exact ⟨r1 ++ r2, by rw [h2, h1, List.append_assoc]⟩

theorem posVars_nodup : ∀ (ats : List AtomD) {K : List Bs}, K.Nodup → (posVars K ats).Nodup
  | [], _, h => h
  | a :: ats, K, h => by
    rw [posVars_cons]
    split
    · exact posVars_nodup ats h
    · exact posVars_nodup ats (varsGo_nodup _ h)

theorem mem_posVars : ∀ (ats : List AtomD) {K : List Bs} {v : Bs}, v ∈ posVars K ats ↔ v ∈ K ∨ ∃ a ∈ ats, a.no = false ∧ ∃ t ∈ a.terms, t.1 = true ∧ t.2 = v
  | [], K, v => by simp [posVars]
  | a :: ats, K, v => by
    rw [posVars_cons, mem_posVars ats]
    cases ha : a.no
    · simp only [Bool.false_eq_true, if_false, mem_varsGo, List.mem_cons, exists_eq_or_imp, ha, true_and, or_assoc]
    · simp [ha]

theorem mem_meetAllB {a : AtomD} {fs : List FactB} {ls : List (List BindD)} {m : List BindD} : m ∈ meetAllB a fs ls ↔ ∃ l ∈ ls, ∃ f ∈ fs, meetB a f l = some m := by
  simp [meetAllB, List.mem_flatMap, List.mem_filterMap]

theorem keys_take {m : List BindD} {K r : List Bs} (h : keysB m = (K ++ r).map bs) : keysB (m.take K.length) = K.map bs := by
  unfold keysB at *
  rw [List.map_take, h, List.map_append, List.take_append_of_le_length (by simp), List.take_of_length_le (by simp)]

theorem met_mem (pick : Nat → List FactB) : ∀ (ats : List AtomD) (n : Nat) (ls ms : List (List BindD)) (K : List Bs), (∀ l ∈ ls, keysB l = K.map bs) → metGo pick n ats ls = some ms →
    ∀ m, m ∈ ms ↔ (∃ l ∈ ls, ∃ r, m = l ++ r) ∧ keysB m = (posVars K ats).map bs ∧ ∀ i a, ats[i]? = some a → a.no = false → ∃ f ∈ pick (n + i), fillB a m = some f
  | [], n, ls, ms, K, hK, h, m => by
    cases h
    constructor
    · intro hm
      exact ⟨⟨m, hm, [], by simp⟩, hK m hm, fun i a h => by simp at h⟩
    · rintro ⟨⟨l, hl, r, e⟩, hk, _⟩
      have h1 := hK l hl
      have : r = [] := by
        have h2 : (keysB m).length = (keysB l).length := by rw [hk, h1]; simp [posVars]
        rw [e] at h2
        simp [keysB] at h2
        exact h2
      rw [e, this]
      simpa using hl
  | a :: ats, n, ls, ms, K, hK, h, m => by
    simp only [metGo] at h
    rw [posVars_cons]
    have shift : (∀ i b, (a :: ats)[i]? = some b → b.no = false → ∃ f ∈ pick (n + i), fillB b m = some f) ↔ ((a.no = false → ∃ f ∈ pick n, fillB a m = some f) ∧ ∀ i b, ats[i]? = some b → b.no = false → ∃ f ∈ pick (n + 1 + i), fillB b m = some f) := by
      constructor
      · intro H
        refine ⟨H 0 a rfl, fun i b hb => ?_⟩
        have := H (i + 1) b (by simpa using hb)
        rwa [show n + (i + 1) = n + 1 + i by omega] at this
      · rintro ⟨H0, H1⟩ i b hb
        cases i with
        | zero => simp at hb; subst hb; exact H0
        | succ i => have := H1 i b (by simpa using hb); rwa [show n + 1 + i = n + (i + 1) by omega] at this
    rw [shift]
    cases ha : a.no
    · rw [ha] at h
      simp only [Bool.false_eq_true, if_false, true_imp_iff] at h ⊢
      split at h
      · cases h
      · have hK' : ∀ l ∈ meetAllB a (pick n) ls, keysB l = (varsGo K a.terms).map bs := fun l hl => by
          obtain ⟨l0, hl0, f, _, hm⟩ := mem_meetAllB.1 hl
          exact (meetB_ok (hK l0 hl0) hm).2.1
        rw [met_mem pick ats (n + 1) _ ms _ hK' h m]
        constructor
        · rintro ⟨⟨l', hl', r, e⟩, hk, hr⟩
          obtain ⟨l, hl, f, hf, hm⟩ := mem_meetAllB.1 hl'
          obtain ⟨⟨r0, e0⟩, _, hfill⟩ := meetB_ok (hK l hl) hm
          exact ⟨⟨l, hl, r0 ++ r, by rw [e, e0, List.append_assoc]⟩, hk, ⟨f, hf, by rw [e]; exact fillB_append hfill⟩, hr⟩
        · rintro ⟨⟨l, hl, r, e⟩, hk, ⟨f, hf, hfill⟩, hr⟩
          obtain ⟨q, hq⟩ := posVars_pre ats (varsGo K a.terms)
          rw [hq] at hk
          have hk1 := keys_take hk
          obtain ⟨m1, hm1⟩ : ∃ m1, m1 = m.take (varsGo K a.terms).length := ⟨_, rfl⟩
          rw [← hm1] at hk1
          have hsplit : m = m1 ++ m.drop (varsGo K a.terms).length := by rw [hm1]; exact (List.take_append_drop _ _).symm
          obtain ⟨r0, hr0⟩ := varsGo_pre a.terms K
          have hll : l.length = K.length := by
            have := congrArg List.length (hK l hl)
            simpa [keysB] using this
          have hpre : m1 = l ++ r.take (r0.length) := by
            rw [hm1, e, hr0, List.length_append, ← hll, List.take_length_add_append]
          have hf1 : fillB a m1 = some f := by
            rw [← hfill]
            refine fillB_congr fun t ht htv => ?_
            have hmem : bs t.2 ∈ keysB m1 := by
              rw [hk1]
              exact mem_map_bs.2 ((mem_varsGo _).2 (Or.inr ⟨t, ht, htv, rfl⟩))
            obtain ⟨s, hs⟩ := getB_isSome hmem
            rw [hsplit, getB_append, hs]
          refine ⟨⟨m1, mem_meetAllB.2 ⟨l, hl, f, hf, meetB_of (hK l hl) hpre hk1 hf1⟩, _, hsplit⟩, by rw [hq]; exact hk, hr⟩
    · rw [ha] at h
      simp only [if_true, Bool.true_eq_false, false_imp_iff, true_and] at h ⊢
      exact met_mem pick ats (n + 1) ls ms K hK h m

theorem met_nodup (pick : Nat → List FactB) (hp : ∀ i, (pick i).Nodup) : ∀ (ats : List AtomD) (n : Nat) (ls ms : List (List BindD)) (K : List Bs), (∀ l ∈ ls, keysB l = K.map bs) → ls.Nodup → metGo pick n ats ls = some ms → ms.Nodup
  | [], _, _, _, _, _, hn, h => by cases h; exact hn
  | a :: ats, n, ls, ms, K, hK, hn, h => by
    simp only [metGo] at h
    split at h
    · exact met_nodup pick hp ats (n + 1) ls ms K hK hn h
    · split at h
      · cases h
      · refine met_nodup pick hp ats (n + 1) _ ms (varsGo K a.terms) (fun l hl => ?_) ?_ h
        · obtain ⟨l0, hl0, f, _, hm⟩ := mem_meetAllB.1 hl
          exact (meetB_ok (hK l0 hl0) hm).2.1
        · unfold meetAllB
          rw [List.Nodup, List.pairwise_flatMap]
          refine ⟨fun l hl => ?_, ?_⟩
          · rw [List.pairwise_filterMap]
            refine (hp n).imp fun {f g} hfg x hx y hy e => ?_
            subst e
            have h1 := (meetB_ok (hK l hl) hx).2.2
            rw [(meetB_ok (hK l hl) hy).2.2] at h1
            exact hfg (Option.some.inj h1).symm
          · refine (List.Pairwise.and_mem.1 hn).imp fun {l l'} h3 x hx y hy e => ?_
            obtain ⟨hl, hl', hne⟩ := h3
            subst e
            obtain ⟨f, _, hx⟩ := List.mem_filterMap.1 hx
            obtain ⟨g, _, hy⟩ := List.mem_filterMap.1 hy
            obtain ⟨⟨r, e1⟩, _⟩ := meetB_ok (hK l hl) hx
            obtain ⟨⟨r', e2⟩, _⟩ := meetB_ok (hK l' hl') hy
            have hlen : l.length = l'.length := by
              have := congrArg List.length ((hK l hl).trans (hK l' hl').symm)
              simpa [keysB] using this
            exact hne (List.append_inj (e1.symm.trans e2) hlen).1

end Go.Proofs.YtbohggoeebhdmaaGreatDoor

/- Which lists a body has: just those with which it is so; what follows for any guess, and for a body turned around. Nothing of the program. -/
namespace Go.Proofs.YtbohggoeebhdmaaGreatDoor

theorem vars_iff {a : AtomD} {v : Bs} : v ∈ vars a ↔ ∃ t ∈ a.terms, t.1 = true ∧ t.2 = v := by
  unfold vars
  rw [mem_varsGo]
  simp

/-- Each variable stands in an atom that is not Not. -/
def Covers (body : List AtomD) : Prop := ∀ a ∈ body, ∀ t ∈ a.terms, t.1 = true → t.2 ∈ posVars [] body

theorem covers_of {body : List AtomD} (h : wrongBody body = 0) : Covers body := by
  unfold wrongBody at h
  split at h
  · simp at h
  · split at h
    · split at h
      · rename_i hall
        intro a ha t ht htv
        rw [List.all_eq_true] at hall
        have h1 := hall a ha
        rw [List.all_eq_true] at h1
        have h2 := h1 t.2 (vars_iff.2 ⟨t, ht, htv, rfl⟩)
        unfold givenBy at h2
        rw [List.any_eq_true] at h2
        obtain ⟨b, hb, h3⟩ := h2
        simp only [Bool.and_eq_true, Bool.not_eq_true', List.contains_eq_mem, decide_eq_true_eq] at h3
        refine (mem_posVars body).2 (Or.inr ⟨b, hb, h3.1, ?_⟩)
        exact vars_iff.1 h3.2
      · simp at h
    · rename_i hne
      exact absurd h hne

theorem barredB_iff (pick : Nat → List FactB) (l : List BindD) : ∀ (ats : List AtomD) (n : Nat), barredB pick n ats l = true ↔ ∃ i a, ats[i]? = some a ∧ a.no = true ∧ ∃ f ∈ pick (n + i), fillB a l = some f
  | [], n => by simp [barredB]
  | a :: ats, n => by
    simp only [barredB, Bool.or_eq_true, Bool.and_eq_true]
    rw [barredB_iff pick l ats (n + 1)]
    constructor
    · rintro (⟨h1, h2⟩ | ⟨i, b, hb, h1, f, hf, h2⟩)
      · cases e : fillB a l with
        | none => rw [e] at h2; cases h2
        | some f =>
          rw [e] at h2
          exact ⟨0, a, rfl, h1, f, inB_iff.1 h2, e⟩
      · exact ⟨i + 1, b, by simpa using hb, h1, f, by rwa [show n + (i + 1) = n + 1 + i by omega], h2⟩
    · rintro ⟨i, b, hb, h1, f, hf, h2⟩
      cases i with
      | zero =>
        simp at hb
        subst hb
        exact Or.inl ⟨h1, by rw [h2]; exact inB_iff.2 hf⟩
      | succ i => exact Or.inr ⟨i, b, by simpa using hb, h1, f, by rwa [show n + 1 + i = n + (i + 1) by omega], h2⟩

/-- A body is so with l: each atom is a fact that is there, or, if it must not be so, is not. -/
def SoB (pick : Nat → List FactB) (body : List AtomD) (l : List BindD) : Prop := ∀ i a, body[i]? = some a → ∃ f, fillB a l = some f ∧ inB (pick i) f = !a.no

theorem SoB.perm {pick : Nat → List FactB} {body : List AtomD} {l m : List BindD} (h : SoB pick body l) (hp : l.Perm m) (hn : (keysB l).Nodup) : SoB pick body m := fun i a ha => by
  obtain ⟨f, h1, h2⟩ := h i a ha
  exact ⟨f, by rw [← fillB_perm hp hn]; exact h1, h2⟩

theorem getElem_mem' {β : Type} {l : List β} {i : Nat} {a : β} (h : l[i]? = some a) : a ∈ l := by
  obtain ⟨hi, rfl⟩ := List.getElem?_eq_some_iff.1 h
  exact List.getElem_mem hi

/-- What is met, and not barred: just the lists of the variables in turn with which the body is so. -/
theorem kept_mem {pick : Nat → List FactB} {body : List AtomD} (hc : Covers body) {ms : List (List BindD)} (h : metGo pick 0 body [[]] = some ms) (m : List BindD) :
    m ∈ ms.filter (fun l => !barredB pick 0 body l) ↔ keysB m = (posVars [] body).map bs ∧ SoB pick body m := by
  rw [List.mem_filter, met_mem pick body 0 [[]] ms [] (fun l hl => by simp at hl; subst hl; rfl) h m]
  simp only [Bool.not_eq_true', Nat.zero_add]
  constructor
  · rintro ⟨⟨_, hk, hpos⟩, hb⟩
    refine ⟨hk, fun i a ha => ?_⟩
    cases hno : a.no
    · obtain ⟨f, hf, h1⟩ := hpos i a ha hno
      exact ⟨f, h1, by rw [inB_iff.2 hf]; rfl⟩
    · obtain ⟨f, hf⟩ := fillB_some (l := m) (a := a) fun t ht htv => by
        rw [hk]
        exact mem_map_bs.2 (hc a (getElem_mem' ha) t ht htv)
      refine ⟨f, hf, ?_⟩
      cases e : inB (pick i) f
      · rfl
      · have : barredB pick 0 body m = true := (barredB_iff pick m body 0).2 ⟨i, a, ha, hno, f, by rw [Nat.zero_add]; exact inB_iff.1 e, hf⟩
        rw [hb] at this
        cases this
  · rintro ⟨hk, hso⟩
    refine ⟨⟨⟨[], by simp, m, by simp⟩, hk, fun i a ha hno => ?_⟩, ?_⟩
    · obtain ⟨f, h1, h2⟩ := hso i a ha
      rw [hno] at h2
      exact ⟨f, inB_iff.1 h2, h1⟩
    · cases e : barredB pick 0 body m
      · rfl
      · obtain ⟨i, a, ha, hno, f, hf, h1⟩ := (barredB_iff pick m body 0).1 e
        obtain ⟨g, h2, h3⟩ := hso i a ha
        rw [h1] at h2
        cases h2
        rw [Nat.zero_add] at hf
        rw [hno, inB_iff.2 hf] at h3
        cases h3

theorem keys_perm {l m : List BindD} (h : l.Perm m) : (keysB l).Perm (keysB m) := h.map _

/-- A list of such variables in turn is told by what they stand for. -/
theorem list_ext : ∀ {l m : List BindD}, keysB l = keysB m → (keysB l).Nodup → (∀ v, getB l v = getB m v) → l = m
  | [], [], _, _, _ => rfl
  | [], b :: m, h, _, _ => by simp [keysB] at h
  | a :: l, [], h, _, _ => by simp [keysB] at h
  | a :: l, b :: m, h, hn, hg => by
    have hn' : a.1 ∉ keysB l ∧ (keysB l).Nodup := List.nodup_cons.1 hn
    have h1 : a.1 = b.1 ∧ keysB l = keysB m := by simpa [keysB] using h
    have h2 : a.2 = b.2 := by
      have := hg a.1
      simp only [getB, if_true] at this
      rw [if_pos h1.1.symm] at this
      exact Option.some.inj this
    have hab : a = b := Prod.ext h1.1 h2
    subst hab
    rw [list_ext h1.2 hn'.2 fun v => ?_]
    by_cases hv : a.1 = v
    · subst hv
      rw [getB_none.2 hn'.1, getB_none.2 (by rw [← h1.2]; exact hn'.1)]
    · have := hg v
      simpa only [getB, if_neg hv] using this

/-- Strictly by the variables. -/
theorem sortB_strict {m : List BindD} (hn : (keysB m).Nodup) : (sortB m).Pairwise fun a b => cmpB a b < 0 := by
  refine strict_of three_cmpB (sortBy_sorted three_cmpB m) ?_
  refine (sortBy_perm m).nodup_iff.2 ?_
  have : (m.map (·.1)).Nodup := hn
  rw [List.Nodup, List.pairwise_map] at this
  exact this.imp fun h e => h (by rw [e])

theorem sortB_inj {l m : List BindD} (hk : keysB l = keysB m) (hn : (keysB l).Nodup) (h : sortB l = sortB m) : l = m := by
  refine list_ext hk hn fun v => getB_perm ?_ hn v
  have h1 := (sortBy_perm (c := cmpB) l).symm
  have h2 := sortBy_perm (c := cmpB) m
  rw [show sortBy cmpB l = sortBy cmpB m from h] at h1
  exact h1.trans h2

/-- A list that is told: its variables are the body's, each once, rising, and the body is so with it. -/
def FitsB (pick : Nat → List FactB) (body : List AtomD) (r : List BindD) : Prop :=
  r.Pairwise (fun a b => cmpB a b < 0) ∧ (keysB r).Nodup ∧ (∀ v, v ∈ keysB r ↔ v ∈ (posVars [] body).map bs) ∧ SoB pick body r

theorem posKeys_nodup (body : List AtomD) : ((posVars [] body).map bs).Nodup := nodup_map_bs (posVars_nodup body List.nodup_nil)

theorem all_mem {pick : Nat → List FactB} {body : List AtomD} (hc : Covers body) {R : List (List BindD)} (h : allB pick body = some R) (r : List BindD) : r ∈ R ↔ FitsB pick body r := by
  unfold allB at h
  cases e : metGo pick 0 body [[]] with
  | none => rw [e] at h; cases h
  | some ms =>
    rw [e] at h
    cases h
    rw [(sortBy_perm _).mem_iff, List.mem_map]
    constructor
    · rintro ⟨m, hm, rfl⟩
      obtain ⟨hk, hso⟩ := (kept_mem hc e m).1 hm
      have hn : (keysB m).Nodup := by rw [hk]; exact posKeys_nodup body
      have hp := (sortBy_perm (c := cmpB) m)
      refine ⟨sortB_strict hn, (keys_perm hp).nodup_iff.2 hn, fun v => ?_, hso.perm hp.symm hn⟩
      rw [(keys_perm hp).mem_iff, hk]
    · rintro ⟨hr, hn, hv, hso⟩
      obtain ⟨m, hm⟩ : ∃ m : List BindD, m = (posVars [] body).map fun k => (bs k, (getB r (bs k)).getD ByteArray.empty) := ⟨_, rfl⟩
      have hk : keysB m = (posVars [] body).map bs := by rw [hm]; unfold keysB; rw [List.map_map]; rfl
      have hnm : (keysB m).Nodup := by rw [hk]; exact posKeys_nodup body
      have hmem : ∀ x, x ∈ m ↔ x ∈ r := fun x => by
        constructor
        · intro hx
          rw [hm] at hx
          obtain ⟨k, hk, rfl⟩ := List.mem_map.1 hx
          obtain ⟨s, hs⟩ := getB_isSome ((hv (bs k)).2 (mem_map_bs.2 hk))
          rw [hs]
          exact getB_mem hs
        · intro hx
          have h1 : x.1 ∈ (posVars [] body).map bs := (hv x.1).1 (List.mem_map.2 ⟨x, hx, rfl⟩)
          obtain ⟨k, hk, e⟩ := List.mem_map.1 h1
          rw [hm]
          refine List.mem_map.2 ⟨k, hk, ?_⟩
          have := getB_of_mem (v := x.1) (s := x.2) hn hx
          rw [e, this]
          rfl
      have hsm : sortB m = r := rise_ext three_cmpB (sortB_strict hnm) hr fun x => by rw [(sortBy_perm m).mem_iff]; exact hmem x
      refine ⟨m, (kept_mem hc e m).2 ⟨hk, ?_⟩, hsm⟩
      have hp : r.Perm m := by rw [← hsm]; exact sortBy_perm m
      exact hso.perm hp hn

theorem all_strict {pick : Nat → List FactB} {body : List AtomD} (hc : Covers body) (hp : ∀ i, (pick i).Nodup) {R : List (List BindD)} (h : allB pick body = some R) : R.Pairwise fun a b => cmpBs a b < 0 := by
  unfold allB at h
  cases e : metGo pick 0 body [[]] with
  | none => rw [e] at h; cases h
  | some ms =>
    rw [e] at h
    cases h
    refine strict_of three_cmpBs (sortBy_sorted three_cmpBs _) ((sortBy_perm _).nodup_iff.2 ?_)
    have hms : ms.Nodup := met_nodup pick hp body 0 [[]] ms [] (fun l hl => by simp at hl; subst hl; rfl) (by simp) e
    rw [List.Nodup, List.pairwise_map]
    have h1 : (ms.filter fun l => !barredB pick 0 body l).Nodup := hms.filter _
    refine (List.Pairwise.and_mem.1 h1).imp fun {l m} ⟨hl, hm, hne⟩ e' => hne ?_
    have k1 := ((kept_mem hc e l).1 hl).1
    have k2 := ((kept_mem hc e m).1 hm).1
    exact sortB_inj (k1.trans k2.symm) (by rw [k1]; exact posKeys_nodup body) e'

/-- Two tellings of the same are the same. -/
theorem all_ext {pick pick' : Nat → List FactB} {body body' : List AtomD} (hc : Covers body) (hc' : Covers body') (hp : ∀ i, (pick i).Nodup) (hp' : ∀ i, (pick' i).Nodup) {R R' : List (List BindD)} (h : allB pick body = some R) (h' : allB pick' body' = some R')
    (e : ∀ r, FitsB pick body r ↔ FitsB pick' body' r) : R = R' :=
  rise_ext three_cmpBs (all_strict hc hp h) (all_strict hc' hp' h') fun r => by rw [all_mem hc h, all_mem hc' h', e]

theorem SoB_const {fs : List FactB} {body : List AtomD} {l : List BindD} : SoB (fun _ => fs) body l ↔ ∀ a ∈ body, ∃ f, fillB a l = some f ∧ inB fs f = !a.no := by
  constructor
  · intro h a ha
    obtain ⟨i, hi⟩ := List.getElem?_of_mem ha
    exact h i a hi
  · intro h i a ha
    exact h a (getElem_mem' ha)

/-- A body turned around is so of the same. -/
theorem all_turned {fs : List FactB} {body : List AtomD} (hc : Covers body) (hc' : Covers body.reverse) (hp : fs.Nodup) {R R' : List (List BindD)} (h : allB (fun _ => fs) body = some R) (h' : allB (fun _ => fs) body.reverse = some R') : R = R' := by
  refine all_ext hc hc' (fun _ => hp) (fun _ => hp) h h' fun r => ?_
  have hv : ∀ v, v ∈ (posVars [] body).map bs ↔ v ∈ (posVars [] body.reverse).map bs := fun v => by
    simp only [List.mem_map, mem_posVars, List.mem_reverse]
  unfold FitsB
  rw [SoB_const, SoB_const]
  simp only [hv, List.mem_reverse]

/-- Whatever variables might stand for, if the body is so of it, it is told. -/
theorem all_guess {fs : List FactB} {body : List AtomD} (hc : Covers body) {R : List (List BindD)} (h : allB (fun _ => fs) body = some R) {env : List BindD} (hn : (keysB env).Nodup) (hv : ∀ v, v ∈ keysB env ↔ ∃ a ∈ body, v ∈ (vars a).map bs)
    (hso : ∀ a ∈ body, ∃ f, fillB a env = some f ∧ inB fs f = !a.no) : ∃ l ∈ R, l.length = env.length ∧ ∀ b ∈ env, getB l b.1 = some b.2 := by
  have hp := sortBy_perm (c := cmpB) env
  refine ⟨sortB env, (all_mem hc h _).2 ⟨sortB_strict hn, (keys_perm hp).nodup_iff.2 hn, fun v => ?_, ?_⟩, hp.length_eq, fun b hb => ?_⟩
  · rw [(keys_perm hp).mem_iff, hv]
    constructor
    · rintro ⟨a, ha, hva⟩
      obtain ⟨k, hk, rfl⟩ := List.mem_map.1 hva
      obtain ⟨t, ht, htv, e⟩ := vars_iff.1 hk
      exact mem_map_bs.2 (by rw [← e]; exact hc a ha t ht htv)
    · intro h
      obtain ⟨k, hk, rfl⟩ := List.mem_map.1 h
      rcases (mem_posVars body).1 hk with h | ⟨a, ha, _, ht⟩
      · cases h
      · exact ⟨a, ha, mem_map_bs.2 (vars_iff.2 ht)⟩
  · have h1 : SoB (fun _ => fs) body env := SoB_const.2 hso
    exact h1.perm hp.symm hn
  · rw [getB_perm hp ((keys_perm hp).nodup_iff.2 hn)]
    exact getB_of_mem hn hb

end Go.Proofs.YtbohggoeebhdmaaGreatDoor

/- All that follows: the document's answer of chapter 5, plain: what a rule makes, one round, a stratum, all; and what programs with which nothing is wrong are. Nothing of the program. -/
namespace Go.Proofs.YtbohggoeebhdmaaGreatDoor

/-- Rising, each once. -/
abbrev Up (s : List FactB) : Prop := s.Pairwise fun a b => cmpF a b < 0

def dropTwice : List FactB → List FactB
  | [] => []
  | f :: l => if inB l f then dropTwice l else f :: dropTwice l
theorem mem_dropTwice : ∀ {l : List FactB} {f : FactB}, f ∈ dropTwice l ↔ f ∈ l
  | [], f => by simp [dropTwice]
  | g :: l, f => by
    unfold dropTwice
    split
    · rename_i h
      rw [mem_dropTwice, List.mem_cons]
      exact ⟨Or.inr, fun h' => h'.elim (fun e => by rw [e]; exact inB_iff.1 h) id⟩
    · rw [List.mem_cons, List.mem_cons, mem_dropTwice]
theorem dropTwice_nodup : ∀ (l : List FactB), (dropTwice l).Nodup
  | [] => List.nodup_nil
  | g :: l => by
    unfold dropTwice
    split
    · exact dropTwice_nodup l
    · rename_i h
      exact List.nodup_cons.2 ⟨fun h' => h (inB_iff.2 (mem_dropTwice.1 h')), dropTwice_nodup l⟩
theorem dropTwice_len : ∀ (l : List FactB), (dropTwice l).length ≤ l.length
  | [] => Nat.le_refl _
  | g :: l => by
    have := dropTwice_len l
    unfold dropTwice
    split <;> simp <;> omega

/-- Facts as a set. -/
def setF (l : List FactB) : List FactB := sortBy cmpF (dropTwice l)
theorem mem_setF {l : List FactB} {f : FactB} : f ∈ setF l ↔ f ∈ l := by
  unfold setF; rw [(sortBy_perm _).mem_iff, mem_dropTwice]
theorem setF_up (l : List FactB) : Up (setF l) := strict_of three_cmpF (sortBy_sorted three_cmpF _) ((sortBy_perm _).nodup_iff.2 (dropTwice_nodup l))
theorem setF_len (l : List FactB) : (setF l).length ≤ l.length := by
  unfold setF; rw [(sortBy_perm _).length_eq]; exact dropTwice_len l
theorem up_ext {s t : List FactB} (hs : Up s) (ht : Up t) (h : ∀ f, f ∈ s ↔ f ∈ t) : s = t := rise_ext three_cmpF hs ht h
theorem setF_of {s l : List FactB} (hs : Up s) (h : ∀ f, f ∈ s ↔ f ∈ l) : s = setF l := up_ext hs (setF_up l) fun f => by rw [mem_setF, h]
theorem setF_up_self {s : List FactB} (hs : Up s) : setF s = s := (setF_of hs fun _ => Iff.rfl).symm
theorem setF_congr {l m : List FactB} (h : ∀ f, f ∈ l ↔ f ∈ m) : setF l = setF m := up_ext (setF_up l) (setF_up m) fun f => by rw [mem_setF, mem_setF, h]
theorem up_nodup {s : List FactB} (hs : Up s) : s.Nodup := strict_nodup three_cmpF hs
theorem sub_len : ∀ {s t : List FactB}, s.Nodup → (∀ f ∈ s, f ∈ t) → s.length ≤ t.length
  | [], _, _, _ => Nat.zero_le _
  | a :: s, t, hn, h => by
    have hn' := List.nodup_cons.1 hn
    obtain ⟨t1, t2, rfl⟩ := List.append_of_mem (h a (by simp))
    have := sub_len (t := t1 ++ t2) hn'.2 fun f hf => by
      have h1 := h f (by simp [hf])
      simp only [List.mem_append, List.mem_cons] at h1 ⊢
      rcases h1 with h1 | rfl | h1
      · exact Or.inl h1
      · exact absurd hf hn'.1
      · exact Or.inr h1
    simp only [List.length_cons, List.length_append] at this ⊢; omega
theorem up_le {s t : List FactB} (hs : Up s) (h : ∀ f ∈ s, f ∈ t) : s.length ≤ t.length := sub_len (up_nodup hs) h
theorem up_same {s t : List FactB} (hs : Up s) (ht : Up t) (h : ∀ f ∈ s, f ∈ t) (e : t.length ≤ s.length) : s = t := by
  refine up_ext hs ht fun f => ⟨h f, fun hf => Classical.byContradiction fun hn => ?_⟩
  have := sub_len (s := f :: s) (t := t) (List.nodup_cons.2 ⟨hn, up_nodup hs⟩) fun g hg => by
    rcases List.mem_cons.1 hg with rfl | hg
    · exact hf
    · exact h g hg
  simp only [List.length_cons] at this; omega

/-- What a rule makes of facts: none, if there are too many ways. -/
def headsP (r : RuleD) (fs : List FactB) : Option (List FactB) := match allB (fun _ => fs) r.body with
  | none => none
  | some R => some (setF (R.filterMap fun l => fillB r.head l))

def onceGo (n : Int) (fs : List FactB) : List RuleD → List Nat → List FactB → Int × List FactB
  | [], _, acc => (0, setF acc)
  | _ :: _, [], acc => (0, setF acc)
  | r :: p, s :: ss, acc => if (s : Int) = n then
      match headsP r fs with
      | none => (4, [])
      | some x => if 200 < (setF (acc ++ x)).length then (5, []) else onceGo n fs p ss (acc ++ x)
    else onceGo n fs p ss acc
/-- One round. -/
def onceP (p : List RuleD) (ss : List Nat) (n : Int) (fs : List FactB) : Int × List FactB := onceGo n fs p ss fs

/-- Over and over, until nothing comes. -/
def overGo (p : List RuleD) (ss : List Nat) (n : Int) : Nat → List FactB → Int × List FactB
  | 0, l => (0, l)
  | k + 1, l => if (onceP p ss n l).1 ≠ 0 then ((onceP p ss n l).1, []) else if (onceP p ss n l).2.length = l.length then (0, (onceP p ss n l).2) else overGo p ss n k (onceP p ss n l).2

def countP : List Nat → Nat
  | [] => 0
  | s :: ss => max (s + 1) (countP ss)
theorem lt_countP : ∀ {ss : List Nat} {s : Nat}, s ∈ ss → s < countP ss
  | t :: ss, s, h => by
    unfold countP
    rcases List.mem_cons.1 h with rfl | h
    · omega
    · have := lt_countP h; omega
theorem countP_congr {ss tt : List Nat} (h : ∀ s, s ∈ ss ↔ s ∈ tt) : countP ss = countP tt := by
  have key : ∀ {a b : List Nat}, (∀ s ∈ a, s ∈ b) → countP a ≤ countP b := by
    intro a
    induction a with
    | nil => intro b _; exact Nat.zero_le _
    | cons x a ih =>
      intro b hb
      have h1 := ih fun s hs => hb s (List.mem_cons_of_mem _ hs)
      have h2 := lt_countP (hb x (by simp))
      show max (x + 1) (countP a) ≤ countP b
      omega
  exact Nat.le_antisymm (key fun s hs => (h s).1 hs) (key fun s hs => (h s).2 hs)

/-- So many strata, from number n on. -/
def runGo (p : List RuleD) (ss : List Nat) : Nat → Nat → List FactB → Int × List FactB
  | 0, _, l => (0, l)
  | c + 1, n, l => if (overGo p ss n 201 l).1 ≠ 0 then ((overGo p ss n 201 l).1, []) else runGo p ss c (n + 1) (overGo p ss n 201 l).2

/-- A fact goes with all atoms of its name. -/
def fitF (p : List RuleD) (f : FactB) : Bool := p.all fun r => (r.head :: r.body).all fun a => !decide (bs a.name = f.1) || decide (a.terms.length = f.2.length)

/-! ### programs with which nothing is wrong -/

structure RightR (r : RuleD) : Prop where
  head : wrongAtom r.head = 0
  yes : r.head.no = false
  body : wrongBody r.body = 0
  vars : (vars r.head).all (givenBy r.body) = true

def atomsP (p : List RuleD) : List AtomD := p.flatMap fun r => r.head :: r.body

theorem fitAll_append (l q : List AtomD) : ∀ m : Nums, fitAll m (l ++ q) = if (fitAll m l).1 then fitAll (fitAll m l).2 q else fitAll m l := by
  induction l with
  | nil => intro m; simp [fitAll]
  | cons a l ih =>
    intro m
    by_cases h : (fitOne m a).1 = true
    · have h1 : ∀ q, fitAll m (a :: q) = fitAll (fitOne m a).2 q := fun q => by rw [fitAll, if_pos h]
      rw [List.cons_append, h1, h1, ih]
    · have h1 : ∀ q, fitAll m (a :: q) = (false, (fitOne m a).2) := fun q => by rw [fitAll, if_neg h]
      rw [List.cons_append, h1, h1]; rfl

theorem wrongRule_iff (m : Nums) (r : RuleD) : (wrongRule m r).1 = 0 ↔ RightR r ∧ (fitAll m (r.head :: r.body)).1 = true := by
  unfold wrongRule
  constructor
  · intro h
    split at h
    · rename_i h1
      split at h
      · cases h
      · rename_i h2
        split at h
        · rename_i h3
          split at h
          · rename_i h4
            split at h
            · rename_i h5
              refine ⟨⟨h1, by simpa using h2, h3, h4⟩, ?_⟩
              unfold fitAll
              rw [if_pos h5]
              dsimp only at h
              split at h
              · assumption
              · cases h
            · cases h
          · cases h
        · rename_i h3; exact absurd h h3
    · rename_i h1; exact absurd h h1
  · rintro ⟨⟨h1, h2, h3, h4⟩, h5⟩
    unfold fitAll at h5
    split at h5
    · rename_i h6
      rw [if_pos h1, if_neg (by simp [h2]), if_pos h3, if_pos h4, if_pos h6, if_pos h5]
    · cases h5

theorem wrongRule_next (m : Nums) (r : RuleD) (h : (wrongRule m r).1 = 0) : (wrongRule m r).2 = (fitAll m (r.head :: r.body)).2 := by
  obtain ⟨⟨h1, h2, h3, h4⟩, h5⟩ := (wrongRule_iff m r).1 h
  unfold fitAll at h5 ⊢
  split at h5
  · rename_i h6
    unfold wrongRule
    rw [if_pos h1, if_neg (by simp [h2]), if_pos h3, if_pos h4, if_pos h6, if_pos h6]
  · cases h5

theorem wrongGo_iff (p : List RuleD) : ∀ (m : Nums) (i : Nat), (wrongGo m i p).1 = 0 ↔ (∀ r ∈ p, RightR r) ∧ (fitAll m (atomsP p)).1 = true := by
  induction p with
  | nil => intro m i; simp [wrongGo, atomsP, fitAll]
  | cons r p ih =>
    intro m i
    have ea : atomsP (r :: p) = (r.head :: r.body) ++ atomsP p := rfl
    rw [ea, fitAll_append]
    unfold wrongGo
    by_cases h : (wrongRule m r).1 = 0
    · rw [if_pos h, ih, wrongRule_next m r h]
      obtain ⟨h1, h2⟩ := (wrongRule_iff m r).1 h
      rw [if_pos h2]
      simp [h1]
    · rw [if_neg h]
      refine ⟨fun h' => absurd h' h, fun ⟨h1, h2⟩ => ?_⟩
      exfalso
      split at h2
      · rename_i h3; exact h ((wrongRule_iff m r).2 ⟨h1 r (by simp), h3⟩)
      · rename_i h3; exact h3 h2

/-- All atoms of one name have as many terms. -/
def Even (l : List AtomD) : Prop := ∀ a ∈ l, ∀ b ∈ l, a.name = b.name → a.terms.length = b.terms.length

theorem fitAll_iff (l : List AtomD) : ∀ m : Nums, (fitAll m l).1 = true ↔ (∀ a ∈ l, ∀ n, m a.name = some n → n = a.terms.length) ∧ Even l := by
  induction l with
  | nil => intro m; simp [fitAll, Even]
  | cons a l ih =>
    intro m
    unfold fitAll
    cases e : m a.name with
    | none =>
      have h1 : fitOne m a = (true, m.put a.name a.terms.length) := by unfold fitOne; rw [e]
      rw [h1]
      simp only [if_true]
      rw [ih]
      constructor
      · rintro ⟨h2, h3⟩
        have h4 : ∀ b ∈ l, b.name = a.name → a.terms.length = b.terms.length := fun b hb hn => h2 b hb _ (by unfold Nums.put; rw [if_pos hn])
        refine ⟨fun b hb n hn => ?_, fun b hb c hc hbc => ?_⟩
        · rcases List.mem_cons.1 hb with rfl | hb
          · rw [e] at hn; cases hn
          · by_cases hne : b.name = a.name
            · rw [hne, e] at hn; cases hn
            · exact h2 b hb n (by unfold Nums.put; rw [if_neg hne]; exact hn)
        · rcases List.mem_cons.1 hb with rfl | hb'
          · rcases List.mem_cons.1 hc with rfl | hc
            · rfl
            · exact h4 c hc hbc.symm
          · rcases List.mem_cons.1 hc with rfl | hc
            · exact (h4 b hb' hbc).symm
            · exact h3 b hb' c hc hbc
      · rintro ⟨h2, h3⟩
        refine ⟨fun b hb n hn => ?_, fun b hb c hc => h3 b (by simp [hb]) c (by simp [hc])⟩
        unfold Nums.put at hn
        split at hn
        · rename_i hne; cases hn; exact h3 a (by simp) b (by simp [hb]) hne.symm
        · exact h2 b (by simp [hb]) n hn
    | some k =>
      have h1 : fitOne m a = (decide (k = a.terms.length), m) := by unfold fitOne; rw [e]
      rw [h1]
      by_cases hk : k = a.terms.length
      · simp only [hk, decide_true, if_true]
        rw [ih]
        have h4 : (∀ b ∈ l, ∀ n, m b.name = some n → n = b.terms.length) → ∀ b ∈ l, b.name = a.name → a.terms.length = b.terms.length := fun h b hb hn => h b hb _ (by rw [hn, e, hk])
        constructor
        · rintro ⟨h2, h3⟩
          refine ⟨fun b hb n hn => ?_, fun b hb c hc hbc => ?_⟩
          · rcases List.mem_cons.1 hb with rfl | hb
            · rw [e] at hn; cases hn; exact hk
            · exact h2 b hb n hn
          · rcases List.mem_cons.1 hb with rfl | hb'
            · rcases List.mem_cons.1 hc with rfl | hc
              · rfl
              · exact h4 h2 c hc hbc.symm
            · rcases List.mem_cons.1 hc with rfl | hc
              · exact (h4 h2 b hb' hbc).symm
              · exact h3 b hb' c hc hbc
        · rintro ⟨h2, h3⟩
          exact ⟨fun b hb => h2 b (by simp [hb]), fun b hb c hc => h3 b (by simp [hb]) c (by simp [hc])⟩
      · simp only [hk, decide_false]
        refine ⟨fun h => by simp at h, fun ⟨h2, _⟩ => ?_⟩
        exact absurd (h2 a (by simp) k e) hk

/-- A program with which nothing is wrong. -/
structure RightP (p : List RuleD) : Prop where
  few : p.length ≤ 16
  rules : ∀ r ∈ p, RightR r
  even : Even (atomsP p)

theorem rightP_iff {p : List RuleD} : (wrongP p).1 = 0 ↔ RightP p := by
  unfold wrongP
  constructor
  · intro h
    split at h
    · cases h
    · rename_i h1
      obtain ⟨h2, h3⟩ := (wrongGo_iff p _ _).1 h
      exact ⟨by omega, h2, ((fitAll_iff _ _).1 h3).2⟩
  · rintro ⟨h1, h2, h3⟩
    rw [if_neg (by omega)]
    exact (wrongGo_iff p _ _).2 ⟨h2, (fitAll_iff _ _).2 ⟨fun _ _ _ h => (by simp at h), h3⟩⟩

theorem RightP.turned {p : List RuleD} (h : RightP p) : RightP p.reverse :=
  ⟨by rw [List.length_reverse]; exact h.few, fun r hr => h.rules r (List.mem_reverse.1 hr), fun a ha b hb => h.even a (by simpa [atomsP] using ha) b (by simpa [atomsP] using hb)⟩

end Go.Proofs.YtbohggoeebhdmaaGreatDoor

/- What tells facts apart: each text behind its length; facts in a map by it. Nothing of the program. -/
namespace Go.Proofs.YtbohggoeebhdmaaGreatDoor
open Go.RowKit Go.Sort Go.Maps

theorem digit_val {a : Nat} (h : a < 10) : (UInt8.ofNat (48 + a)).toNat = 48 + a := by
  rw [UInt8.toNat_ofNat']; exact Nat.mod_eq_of_lt (by omega)

theorem decDigits_ne (u : Nat) : Lib.decDigits u ≠ [] := by
  rw [Lib.decDigits]
  split <;> simp

theorem decDigits_inj : ∀ (u v : Nat), Lib.decDigits u = Lib.decDigits v → u = v := by
  intro u
  induction u using Nat.strongRecOn with
  | ind u ih =>
    intro v h
    rw [Lib.decDigits, Lib.decDigits.eq_1 v] at h
    split at h <;> split at h
    · rename_i h1 h2
      have := List.cons.inj h
      have := congrArg UInt8.toNat this.1
      rw [digit_val h1, digit_val h2] at this
      omega
    · rename_i h1 h2
      have := congrArg List.length h
      have h3 := List.length_pos_iff.2 (decDigits_ne (v / 10))
      rw [List.length_append, List.length_singleton, List.length_singleton] at this; omega
    · rename_i h1 h2
      have := congrArg List.length h
      have h3 := List.length_pos_iff.2 (decDigits_ne (u / 10))
      rw [List.length_append, List.length_singleton, List.length_singleton] at this; omega
    · rename_i h1 h2
      obtain ⟨h3, h4⟩ := List.append_inj' h rfl
      have h5 := ih (u / 10) (by omega) (v / 10) h3
      have h6 := congrArg UInt8.toNat (List.cons.inj h4).1
      rw [digit_val (Nat.mod_lt _ (by omega)), digit_val (Nat.mod_lt _ (by omega))] at h6
      omega

theorem decDigits_no32 : ∀ (u : Nat), (32 : UInt8) ∉ Lib.decDigits u := by
  intro u
  induction u using Nat.strongRecOn with
  | ind u ih =>
    have key : ∀ a, a < 10 → (32 : UInt8) ≠ UInt8.ofNat (48 + a) := fun a ha e => by
      have := congrArg UInt8.toNat e
      rw [digit_val ha] at this
      have h32 : (32 : UInt8).toNat = 32 := rfl
      omega
    rw [Lib.decDigits]
    split
    · rename_i h
      simp only [List.mem_singleton]
      exact key u h
    · rename_i h
      rw [List.mem_append]
      rintro (h1 | h1)
      · exact ih (u / 10) (by omega) h1
      · simp only [List.mem_singleton] at h1
        exact key _ (Nat.mod_lt _ (by omega)) h1

theorem cut32 : ∀ {a b x y : Bs}, 32 ∉ a → 32 ∉ b → a ++ 32 :: x = b ++ 32 :: y → a = b ∧ x = y
  | [], [], x, y, _, _, h => ⟨rfl, (List.cons.inj h).2⟩
  | [], c :: b, x, y, _, hb, h => by
    have := (List.cons.inj h).1
    exact absurd (by rw [this]; simp) hb
  | c :: a, [], x, y, ha, _, h => by
    have := (List.cons.inj h).1
    exact absurd (by rw [← this]; simp) ha
  | c :: a, d :: b, x, y, ha, hb, h => by
    obtain ⟨h1, h2⟩ := List.cons.inj h
    obtain ⟨h3, h4⟩ := cut32 (a := a) (b := b) (fun h => ha (by simp [h])) (fun h => hb (by simp [h])) h2
    exact ⟨by rw [h1, h3], h4⟩

/-- A text behind its length. -/
def partK (s : Bs) : Bs := Lib.decDigits s.length ++ 32 :: s
theorem partK_cut {s t x y : Bs} (h : partK s ++ x = partK t ++ y) : s = t ∧ x = y := by
  unfold partK at h
  rw [List.append_assoc, List.append_assoc, List.cons_append, List.cons_append] at h
  obtain ⟨h1, h2⟩ := cut32 (decDigits_no32 _) (decDigits_no32 _) h
  exact List.append_inj h2 (decDigits_inj _ _ h1)

def partsK : List ByteArray → Bs
  | [] => []
  | s :: l => partK (raw s) ++ partsK l
theorem partsK_inj : ∀ {l m : List ByteArray}, partsK l = partsK m → l = m
  | [], [], _ => rfl
  | [], s :: m, h => by simp [partsK, partK] at h
  | s :: l, [], h => by simp [partsK, partK] at h
  | s :: l, t :: m, h => by
    obtain ⟨h1, h2⟩ := partK_cut h
    rw [← bs_raw s, h1, bs_raw, partsK_inj h2]
theorem partsK_append : ∀ (l m : List ByteArray), partsK (l ++ m) = partsK l ++ partsK m
  | [], m => rfl
  | s :: l, m => by simp [partsK, partsK_append l m]

/-- What tells a fact apart. -/
def keyF (f : FactB) : Bs := partsK (f.1 :: f.2)
theorem keyF_inj {f g : FactB} (h : keyF f = keyF g) : f = g := by
  have := partsK_inj h
  obtain ⟨h1, h2⟩ := List.cons.inj this
  exact Prod.ext h1 h2

/-! ### facts in a map -/

/-- A fact's two cells. -/
abbrev Two := ByteArray × Option Addr × Nat × Nat
def encT (x : Two) : Value := .agg #[.string x.1, .slice x.2.1 x.2.2.1 x.2.2.2]
def twoOf (v : Value) : Option Two := match v with
  | .agg a => match a.toList with
    | [.string s, .slice p n c] => some (s, p, n, c)
    | _ => none
  | _ => none
theorem twoOf_enc (x : Two) : twoOf (encT x) = some x := rfl
theorem twoOf_inv {v : Value} {x : Two} (h : twoOf v = some x) : v = encT x := by
  unfold twoOf at h
  split at h
  · rename_i a
    obtain ⟨l, rfl⟩ : ∃ l : List Value, a = l.toArray := ⟨a.toList, by simp⟩
    simp only at h
    split at h
    · cases h
      rfl
    · cases h
  · cases h
/-- How such a value reads: as it is. -/
def twoElem (v : Value) : Option (DataW Two × List MemPlace) := (twoOf v).map fun x => (.held x, [])
theorem twoElem_mk (x : Two) : twoElem (encT x) = some (.held x, []) := rfl
theorem twoElem_inv {v : Value} {z : DataW Two × List MemPlace} (h : twoElem v = some z) : ∃ x, v = encT x ∧ z = (.held x, []) := by
  unfold twoElem at h
  cases e : twoOf v with
  | none => rw [e] at h; cases h
  | some x => rw [e] at h; cases h; exact ⟨x, twoOf_inv e, rfl⟩

theorem encT_inj {x y : Two} (h : encT x = encT y) : x = y := by
  have := twoOf_enc x
  rw [h, twoOf_enc] at this
  exact (Option.some.inj this).symm

theorem factV_two {w : World} {v : Value} {f : FactD} (h : FactV w v f) : ∃ x, v = encT x := by
  obtain ⟨s, rfl, hs⟩ := h
  obtain ⟨a, c, rfl⟩ := sliceStr hs
  exact ⟨(f.1, a, _, c), rfl⟩

/-- Block b holds facts, each by what tells it apart: those of L. -/
def KnownM (P : Program) (K : TypeId) (w : World) (b n : Nat) (L : List FactB) : Prop :=
  ∃ D : DataW Two, w.ownsMap P K twoElem b n D ∧ (∀ s, Maps.has D (.string s) = true ↔ ∃ f ∈ L, keyF f = s) ∧ (∀ f ∈ L, ∃ x, D.atKey (.string (keyF f)) .nil = .held x ∧ FactV w (encT x) f) ∧ Maps.size D = (setF L).length

theorem KnownM.made (P : Program) (K : TypeId) (w : World) : KnownM P K (w.alloc (.map #[] 0)) w.heap.size 0 [] :=
  ⟨.map [], World.ownsMap_made _ _ _ _, fun s => by simp [Maps.has], fun f hf => (by cases hf), by simp [Maps.size, setF, dropTwice, sortBy]⟩

section
variable {P : Program} {K : TypeId} {w w' : World} {b n : Nat} {L : List FactB}
theorem KnownM.lt (h : KnownM P K w b n L) : b < w.heap.size := by obtain ⟨D, h, _⟩ := h; exact h.lt
theorem KnownM.later (h : KnownM P K w b n L) (k : Later w w') : KnownM P K w' b n L := by
  obtain ⟨D, h, h1, h2, h3⟩ := h
  exact ⟨D, owns_block h (k.block h.lt), h1, fun f hf => by obtain ⟨x, e, hx⟩ := h2 f hf; exact ⟨x, e, hx.later k⟩, h3⟩
theorem KnownM.mono (h : KnownM P K w b n L) {n' : Nat} (hn : n ≤ n') : KnownM P K w b n' L := by obtain ⟨D, h, hf⟩ := h; exact ⟨D, h.mono hn, hf⟩
theorem KnownM.few (h : KnownM P K w b n L) : (setF L).length ≤ n := by obtain ⟨D, h, _, _, h3⟩ := h; rw [← h3]; exact h.size_le

theorem setF_more {L : List FactB} {f : FactB} : (setF (L ++ [f])).length = if inB L f then (setF L).length else (setF L).length + 1 := by
  split
  · rename_i h
    have h := inB_iff.1 h
    rw [setF_congr (l := L ++ [f]) (m := L) fun g => by
      rw [List.mem_append, List.mem_singleton]
      exact ⟨fun h' => h'.elim id (fun e => by rw [e]; exact h), Or.inl⟩]
  · rename_i h
    have h : f ∉ L := fun h' => h (inB_iff.2 h')
    have h1 : (f :: setF L).Nodup := List.nodup_cons.2 ⟨fun h' => h (mem_setF.1 h'), up_nodup (setF_up L)⟩
    have e : ∀ g, g ∈ setF (L ++ [f]) ↔ g ∈ f :: setF L := fun g => by
      rw [mem_setF, List.mem_append, List.mem_singleton, List.mem_cons, mem_setF]
      exact ⟨fun h => h.symm, fun h => h.symm⟩
    have a := sub_len (up_nodup (setF_up (L ++ [f]))) fun g hg => (e g).1 hg
    have b := sub_len h1 fun g hg => (e g).2 hg
    simp only [List.length_cons] at a b
    omega

theorem KnownM.store {E T : TypeId} (h : KnownM P K w b n L) (hk : P.underlying K = some .string) (ht : P.underlying T = some (.map K E)) (hn : n < maxLen) {f : FactB} {v : Value} (hv : FactV w v f) (hf : (keyF f).length ≤ maxLen) :
    ∃ w', (Instr.mapUpdate T (.map (some b)) (.string (bs (keyF f))) v).run P w = .ok () w' ∧ w.grownBy w' (some b) ∧ ((∀ g ∈ L ++ [f], ∀ u, FactV w u g → FactV w' u g) → KnownM P K w' b (n + 1) (L ++ [f])) := by
  obtain ⟨D, hown, h1, h2, h3⟩ := h
  obtain ⟨x, rfl⟩ := factV_two hv
  obtain ⟨w', hrun, r1, r2⟩ := hown.update (string_keyed hk) ht hn (key_mk hk hf) (twoElem_mk x)
  have hhas : Maps.has D (.string (keyF f)) = inB L f := by
    cases e : inB L f with
    | true => exact (h1 _).2 ⟨f, inB_iff.1 e, rfl⟩
    | false =>
      cases e2 : Maps.has D (.string (keyF f)) with
      | false => rfl
      | true =>
        obtain ⟨g, hg, hgf⟩ := (h1 _).1 e2
        rw [keyF_inj hgf] at hg
        rw [inB_iff.2 hg] at e; cases e
  refine ⟨w', hrun, r2, fun hkeep => ⟨_, r1, fun s => ?_, fun g hg => ?_, ?_⟩⟩
  · by_cases e : s = keyF f
    · subst e
      rw [has_put_same hown.isMap (keyS _)]
      simp only [true_iff]
      exact ⟨f, by simp, rfl⟩
    · rw [has_put_other (str_ne e), h1]
      constructor
      · rintro ⟨g, hg, hs⟩; exact ⟨g, by simp [hg], hs⟩
      · rintro ⟨g, hg, hs⟩
        rcases List.mem_append.1 hg with hg | hg
        · exact ⟨g, hg, hs⟩
        · simp only [List.mem_singleton] at hg
          subst hg; exact absurd hs.symm e
  · by_cases e : g = f
    · subst e
      exact ⟨x, by rw [atKey_put_same hown.isMap (keyS _)], hkeep g hg _ hv⟩
    · have hgL : g ∈ L := (List.mem_append.1 hg).elim id (fun h => absurd (List.mem_singleton.1 h) e)
      obtain ⟨y, hy, hfy⟩ := h2 g hgL
      exact ⟨y, by rw [atKey_put_other (str_ne fun h => e (keyF_inj h))]; exact hy, hkeep g hg _ hfy⟩
  · rw [size_put (hown.tidy (string_keyed hk)), hhas, setF_more, h3]

theorem KnownM.len {E T : TypeId} (h : KnownM P K w b n L) (ht : P.underlying T = some (.map K E)) (ty : TypeId) : (Builtin.len_ #[T] ty #[.map (some b)]).run P w = .ok (.int .i64 ((setF L).length : Nat)) w := by
  obtain ⟨D, hown, _, _, h3⟩ := h
  rw [hown.len ht, h3]
end

end Go.Proofs.YtbohggoeebhdmaaGreatDoor

/- The walks of cmp.Compare at texts and whole numbers, slices.Compare at texts, and fact.Compare. -/
namespace Go.Proofs.YtbohggoeebhdmaaGreatDoor
open Go.RowKit Go.Sort

set_option maxHeartbeats 400000 in
theorem isNaNS (x : ByteArray) (w : World) : Calls Tryz.prog 111 #[.string x] w fun e w' => e = .returned (.bool false) ∧ w' = w := by
  go_enter Tryz.func111, Tryz.ntmps111
  go_wp2
  go_ret
  exact ⟨by simp, rfl⟩

set_option maxHeartbeats 400000 in
theorem isNaNI (x : Int) (w : World) : Calls Tryz.prog 112 #[.int .i64 x] w fun e w' => e = .returned (.bool false) ∧ w' = w := by
  go_enter Tryz.func112, Tryz.ntmps112
  go_wp2
  go_ret
  exact ⟨by simp, rfl⟩

set_option maxHeartbeats 400000 in
theorem compareS (x y : ByteArray) (w : World) : Calls Tryz.prog 64 #[.string x, .string y] w fun e w' => e = .returned (.int .i64 (cmpS x y)) ∧ w' = w := by
  unfold cmpS
  cases h : Op.bytesLess x.toList y.toList
  · cases h2 : (x.toList == y.toList)
    · go_enter Tryz.func64, Tryz.ntmps64
      go_wp2_with (go_at_call 111; refine (isNaNS _ _).mono ?_; rintro e w' ⟨rfl, rfl⟩)
      go_ret
      exact ⟨by simp, rfl⟩
    · go_enter Tryz.func64, Tryz.ntmps64
      go_wp2_with (go_at_call 111; refine (isNaNS _ _).mono ?_; rintro e w' ⟨rfl, rfl⟩)
      go_ret
      exact ⟨by simp, rfl⟩
  · go_enter Tryz.func64, Tryz.ntmps64
    go_wp2_with (go_at_call 111; refine (isNaNS _ _).mono ?_; rintro e w' ⟨rfl, rfl⟩)
    go_ret
    exact ⟨by simp, rfl⟩

set_option maxHeartbeats 400000 in
theorem compareI (x y : Int) (w : World) : Calls Tryz.prog 65 #[.int .i64 x, .int .i64 y] w fun e w' => e = .returned (.int .i64 (cmpI x y)) ∧ w' = w := by
  unfold cmpI
  by_cases h : x < y
  · go_enter Tryz.func65, Tryz.ntmps65
    go_wp2_with (go_at_call 112; refine (isNaNI _ _).mono ?_; rintro e w' ⟨rfl, rfl⟩)
    go_ret
    exact ⟨by simp, rfl⟩
  · by_cases h2 : y < x
    · go_enter Tryz.func65, Tryz.ntmps65
      go_wp2_with (go_at_call 112; refine (isNaNI _ _).mono ?_; rintro e w' ⟨rfl, rfl⟩)
      go_ret
      exact ⟨by simp, rfl⟩
    · go_enter Tryz.func65, Tryz.ntmps65
      go_wp2_with (go_at_call 112; refine (isNaNI _ _).mono ?_; rintro e w' ⟨rfl, rfl⟩)
      go_ret
      exact ⟨by simp, rfl⟩

set_option maxHeartbeats 400000 in
/-- slices.Compare at texts, the first list empty. -/
theorem sCompare_nil (a : Option Addr) (cap : Nat) (b : Option Addr) (n capb : Nat) (w : World) (hn : n ≤ 9223372036854775807) :
    Calls Tryz.prog 66 #[.slice a 0 cap, .slice b n capb] w fun e w' => e = .returned (.int .i64 (if 0 < n then -1 else 0)) ∧ w' = w := by
  by_cases h : 0 < n
  · rw [if_pos h]
    have h' : (0 : Int) < (n : Int) := by omega
    go_enter Tryz.func66, Tryz.ntmps66
    go_wp2
    refine wp_loop_rounds 1 ?_; rw [rounds_succ]
    go_wp2
    go_ret
    exact ⟨rfl, rfl⟩
  · rw [if_neg h]
    obtain rfl : n = 0 := by omega
    go_enter Tryz.func66, Tryz.ntmps66
    go_wp2
    refine wp_loop_rounds 1 ?_; rw [rounds_succ]
    go_wp2
    go_ret
    exact ⟨rfl, rfl⟩

set_option maxHeartbeats 400000 in
/-- slices.Compare at texts, the second list empty, the first one not. -/
theorem sCompare_nil' (b off n cap : Nat) (a2 : Option Addr) (cap2 : Nat) (s0 : ByteArray) (w : World) (h0 : 0 < n) (hn : n ≤ 9223372036854775807) (hc : w.cell? ⟨b, off, none⟩ = some (.string s0)) :
    Calls Tryz.prog 66 #[.slice (some ⟨b, off, none⟩) n cap, .slice a2 0 cap2] w fun e w' => e = .returned (.int .i64 1) ∧ w' = w := by
  have h' : (0 : Int) < (n : Int) := by omega
  go_enter Tryz.func66, Tryz.ntmps66
  go_wp2
  refine wp_loop_rounds 1 ?_; rw [rounds_succ]
  go_wp2
  go_ret
  exact ⟨rfl, rfl⟩

set_option maxHeartbeats 1000000 in
/-- slices.Compare at texts, neither list empty. -/
theorem sCompare_both (b off cap b2 off2 cap2 : Nat) (x y : List ByteArray) (w : World) (hx : x.length ≤ 9223372036854775807) (_hy : y.length ≤ 9223372036854775807)
    (hc : ∀ i, i < x.length → w.cell? ⟨b, off + i, none⟩ = some (.string (x.getD i ByteArray.empty))) (hd : ∀ i, i < y.length → w.cell? ⟨b2, off2 + i, none⟩ = some (.string (y.getD i ByteArray.empty))) :
    Calls Tryz.prog 66 #[.slice (some ⟨b, off, none⟩) x.length cap, .slice (some ⟨b2, off2, none⟩) y.length cap2] w fun e w' => e = .returned (.int .i64 (cmpL x y)) ∧ w' = w := by
  have HC : Hid _ := hc
  have HD : Hid _ := hd
  clear hc hd
  go_enter Tryz.func66, Tryz.ntmps66
  go_wp2
  go_loop [11] (fun i => ∃ k : Nat, k ≤ x.length ∧ k ≤ y.length ∧ i = .int .i64 k ∧ Hid (cmpL x y = cmpL (x.drop k) (y.drop k))) (fun i => x.length - (intOf i).toNat)
  case atStart => exact ⟨0, Nat.zero_le _, Nat.zero_le _, rfl, (by simp : cmpL x y = cmpL (x.drop 0) (y.drop 0))⟩
  case round =>
    obtain ⟨k, hk, hk2, rfl, HE⟩ := hrel
    by_cases hlt : k < x.length
    · have h1 := HC.out k hlt
      by_cases hlt2 : k < y.length
      · have h2 := HD.out k hlt2
        have e := cmpL_drop x y k hlt hlt2
        generalize x.getD k ByteArray.empty = sx at *
        generalize y.getD k ByteArray.empty = sy at *
        have E : Hid _ := e
        clear e
        by_cases hz : cmpS sx sy = 0
        · go_wp2_with (go_at_call 64; refine (compareS _ _ _).mono ?_; rintro e w' ⟨rfl, rfl⟩; rw [hz])
          go_round
          case rel =>
            refine ⟨k + 1, by omega, by omega, by go_num, ?_⟩
            show cmpL x y = _
            rw [HE.out, E.out, if_neg (by omega)]
          case measure => simp [intOf]; omega
        · have hz' : (cmpS sx sy == 0) = false := by simpa using hz
          have F : Hid (cmpL x y = cmpS sx sy) := by show _ = _; rw [HE.out, E.out, if_pos hz]
          generalize hr : cmpS sx sy = r at *
          have R : Hid _ := hr
          clear hr
          go_wp2_with (go_at_call 64; refine (compareS _ _ _).mono ?_; rintro e w' ⟨rfl, rfl⟩; rw [R.out])
          go_ret
          exact ⟨ret_int F.out.symm, rfl⟩
      · have F : Hid (cmpL x y = 1) := by show _ = _; rw [HE.out, cmpL_drop_end' x y k hlt (by omega)]
        go_wp2
        go_ret
        exact ⟨ret_int F.out.symm, rfl⟩
    · have F : Hid (cmpL x y = if k < y.length then -1 else 0) := by show _ = _; rw [HE.out, cmpL_drop_end x y k (by omega)]
      obtain rfl : k = x.length := by omega
      by_cases hy2 : x.length < y.length
      · go_wp2
        go_ret
        exact ⟨ret_int (by rw [F.out, if_pos hy2]), rfl⟩
      · go_wp2
        go_ret
        exact ⟨ret_int (by rw [F.out, if_neg hy2]), rfl⟩

/-- slices.Compare at texts, whatever the lists. -/
theorem sCompare (v1 v2 : Value) (x y : List ByteArray) (w : World) (h1 : Strs w v1 x) (h2 : Strs w v2 y) :
    Calls Tryz.prog 66 #[v1, v2] w fun e w' => e = .returned (.int .i64 (cmpL x y)) ∧ w' = w := by
  obtain ⟨l1, a1, c1, rfl, r1⟩ := h1
  obtain ⟨l2, a2, c2, rfl, r2⟩ := h2
  cases x with
  | nil =>
    have e : cmpL [] y = if 0 < y.length then -1 else 0 := by cases y <;> simp [cmpL]
    rw [e]
    exact sCompare_nil a1 c1 a2 y.length c2 w (by omega)
  | cons p x =>
    obtain ⟨b, off, rfl, _, hc⟩ := r1 (by simp)
    cases y with
    | nil => exact sCompare_nil' b off _ c1 a2 c2 p w (by simp) (by omega) (by simpa using hc 0 (by simp))
    | cons q y =>
      obtain ⟨b2, off2, rfl, _, hd⟩ := r2 (by simp)
      exact sCompare_both b off c1 b2 off2 c2 (p :: x) (q :: y) w (by omega) (by omega) hc hd

set_option maxHeartbeats 1000000 in
/-- fact.Compare: what the order says; two boxes are laid. -/
theorem compareF (v1 v2 : Value) (f g : FactD) (w : World) (h1 : FactV w v1 f) (h2 : FactV w v2 g) :
    Calls Tryz.prog 30 #[v1, v2] w fun e w' => e = .returned (.int .i64 (cmpF f g)) ∧ Later w w' := by
  obtain ⟨s1, rfl, k1⟩ := h1
  obtain ⟨s2, rfl, k2⟩ := h2
  have l1 := k1.1; have l2 := k2.1
  have hL : Hid (∀ w', Later w w' → Calls Tryz.prog 66 #[s1, s2] w' fun e w'' => e = .returned (.int .i64 (cmpL f.2 g.2)) ∧ w'' = w') := fun w' hw => sCompare s1 s2 _ _ w' (k1.later hw) (k2.later hw)
  obtain ⟨a1, c1, rfl⟩ := sliceStr k1
  obtain ⟨a2, c2, rfl⟩ := sliceStr k2
  clear k1 k2
  obtain ⟨n1, x⟩ := f
  obtain ⟨n2, y⟩ := g
  unfold cmpF
  dsimp only at *
  by_cases hz : cmpS n1 n2 = 0
  · by_cases hi : cmpI x.length y.length = 0
    · rw [if_neg (by omega), if_neg (by omega)]
      go_enter Tryz.func30, Tryz.ntmps30
      go_wp2_with (first
        | (go_at_call 64; refine (compareS _ _ _).mono ?_; rintro e w' ⟨rfl, rfl⟩; rw [hz])
        | (go_at_call 65; refine (compareI _ _ _).mono ?_; rintro e w' ⟨rfl, rfl⟩; rw [hi])
        | (go_at_call 66; refine (hL.out _ (((Later.refl _).alloc _).alloc _)).mono ?_; rintro e w' ⟨rfl, rfl⟩))
      go_ret
      exact ⟨rfl, ((Later.refl _).alloc _).alloc _⟩
    · rw [if_neg (by omega), if_pos hi]
      have hi' : (cmpI x.length y.length == 0) = false := by simpa using hi
      generalize hr : cmpI x.length y.length = r at *
      have R : Hid _ := hr
      clear hr
      go_enter Tryz.func30, Tryz.ntmps30
      go_wp2_with (first
        | (go_at_call 64; refine (compareS _ _ _).mono ?_; rintro e w' ⟨rfl, rfl⟩; rw [hz])
        | (go_at_call 65; refine (compareI _ _ _).mono ?_; rintro e w' ⟨rfl, rfl⟩; rw [R.out]))
      go_ret
      exact ⟨rfl, ((Later.refl _).alloc _).alloc _⟩
  · rw [if_pos hz]
    have hz' : (cmpS n1 n2 == 0) = false := by simpa using hz
    generalize hr : cmpS n1 n2 = r at *
    have R : Hid _ := hr
    clear hr
    go_enter Tryz.func30, Tryz.ntmps30
    go_wp2_with (go_at_call 64; refine (compareS _ _ _).mono ?_; rintro e w' ⟨rfl, rfl⟩; rw [R.out])
    go_ret
    exact ⟨rfl, ((Later.refl _).alloc _).alloc _⟩

end Go.Proofs.YtbohggoeebhdmaaGreatDoor

/- The walks of fact.Named, fact.Wrong and what they call. -/
namespace Go.Proofs.YtbohggoeebhdmaaGreatDoor
open Go.RowKit Go.Sort

set_option maxHeartbeats 400000 in
theorem begins (x : Int) (w : World) : Calls Tryz.prog 127 #[.int .u8 x] w fun e w' => e = .returned (.bool (smallB x)) ∧ w' = w := by
  go_enter Tryz.func127, Tryz.ntmps127
  go_wp2
  all_goals
    go_ret
    refine ⟨ret_bool ?_, rfl⟩
    rw [Bool.eq_iff_iff]
    simp [smallB]
    omega


set_option maxHeartbeats 400000 in
theorem goesOn (x : Int) (w : World) : Calls Tryz.prog 153 #[.int .u8 x] w fun e w' => e = .returned (.bool (signB x)) ∧ w' = w := by
  cases hs : smallB x
  · go_enter Tryz.func153, Tryz.ntmps153
    go_wp2_with (go_at_call 127; refine (begins _ _).mono ?_; rintro e w' ⟨rfl, rfl⟩; rw [hs])
    all_goals
      go_ret
      refine ⟨ret_bool ?_, rfl⟩
      rw [Bool.eq_iff_iff]
      simp [signB, hs]
      omega
  · go_enter Tryz.func153, Tryz.ntmps153
    go_wp2_with (go_at_call 127; refine (begins _ _).mono ?_; rintro e w' ⟨rfl, rfl⟩; rw [hs])
    go_ret
    exact ⟨ret_bool (by simp [signB, hs]), rfl⟩

/-- A name, byte by byte. -/
def namedB (s : ByteArray) : Bool :=
  decide (0 < s.size ∧ s.size ≤ 12) && (match s.data.toList with | [] => false | c :: r => smallB c.toNat && r.all fun c => signB c.toNat)

theorem namedB_long {s : ByteArray} (h : s.size = 0 ∨ 12 < s.size) : namedB s = false := by
  unfold namedB; rw [decide_eq_false (by omega)]; rfl

theorem size_data (s : ByteArray) : s.data.toList.length = s.size := Array.length_toList

/-- From byte k on there are signs of words alone. -/
def restB (s : ByteArray) (k : Nat) : Bool := (s.data.toList.drop k).all fun c => signB c.toNat

theorem restB_step {s : ByteArray} {k : Nat} (h : k < s.size) : restB s k = (signB s[k].toNat && restB s (k + 1)) := by
  have hl : k < s.data.toList.length := by rw [size_data]; exact h
  unfold restB
  rw [List.drop_eq_getElem_cons hl, List.all_cons]
  rfl

theorem restB_end {s : ByteArray} {k : Nat} (h : s.size ≤ k) : restB s k = true := by
  unfold restB; rw [List.drop_eq_nil_of_le (by rw [size_data]; exact h)]; rfl

theorem namedB_in {s : ByteArray} (h0 : 0 < s.size) (h1 : s.size ≤ 12) : namedB s = (smallB (s[0].toNat) && restB s 1) := by
  unfold namedB
  have hl := size_data s
  rw [decide_eq_true ⟨h0, h1⟩]
  cases h : s.data.toList with
  | nil => rw [h] at hl; simp at hl; omega
  | cons c r =>
    have : s[0] = c := by
      have : s[0] = s.data.toList[0]'(by omega) := rfl
      rw [this]; simp [h]
    simp [this, restB, h]

theorem extract_bs (s : ByteArray) (k : Nat) : s.extract 0 k = bs ((raw s).take k) := by
  apply raw_inj
  rw [raw_bs]
  unfold raw
  rw [ByteArray.data_extract]
  simp

theorem getRaw {s : ByteArray} {k : Nat} (h : k < s.size) (h' : k < (raw s).length) : (raw s)[k]'h' = s[k]'h := rfl

/-- The signs of words that a text begins with, from byte k on. -/
def goes (s : ByteArray) (k : Nat) : Bs := (raw s).take k ++ ((raw s).drop k).takeWhile isSign

theorem goes_step {s : ByteArray} {k : Nat} (h : k < s.size) : goes s k = if signB s[k].toNat then goes s (k + 1) else (raw s).take k := by
  have hl : k < (raw s).length := by rw [length_raw]; exact h
  unfold goes
  rw [List.drop_eq_getElem_cons hl, List.takeWhile_cons, getRaw h hl]
  by_cases hc : signB (s[k]'h).toNat = true
  · rw [if_pos hc, if_pos (show isSign (s[k]'h) = true from hc), List.take_succ_eq_append_getElem hl, getRaw h hl]; simp
  · rw [if_neg hc, if_neg (show ¬ isSign (s[k]'h) = true from hc)]; simp

theorem goes_end {s : ByteArray} {k : Nat} (h : s.size ≤ k) : goes s k = (raw s).take k := by
  unfold goes
  rw [List.drop_eq_nil_of_le (by rw [length_raw]; exact h)]; simp

set_option maxHeartbeats 1000000 in
/-- fact.Word: as many signs of words as a text begins with. -/
theorem wordC (s : ByteArray) (w : World) (hs : s.size ≤ 4294967296) : Calls Tryz.prog 128 #[.string s] w fun e w' => e = .returned (.string (bs ((raw s).takeWhile isSign))) ∧ w' = w := by
  have h0 : goes s 0 = (raw s).takeWhile isSign := by simp [goes]
  rw [← h0]
  clear h0
  go_enter Tryz.func128, Tryz.ntmps128
  go_wp2
  go_loop [3] (fun i => ∃ k : Nat, k ≤ s.size ∧ i = .int .i64 k ∧ Hid (goes s 0 = goes s k)) (fun i => s.size - (intOf i).toNat)
  case atStart => exact ⟨0, by omega, rfl, (rfl : _ = _)⟩
  case round =>
    obtain ⟨k, hk, rfl, HE⟩ := hrel
    by_cases hlt : k < s.size
    · have ha := goes_step hlt
      cases hc : signB (s[k]'hlt).toNat
      · have F : Hid (goes s 0 = (raw s).take k) := by show _ = _; rw [HE.out, ha, hc]; rfl
        clear ha
        go_wp2_with (go_at_call 153; refine (goesOn _ _).mono ?_; rintro e w' ⟨rfl, rfl⟩; rw [hc])
        go_ret
        exact ⟨by rw [F.out, ← extract_bs]; rfl, rfl⟩
      · have F : Hid (goes s 0 = goes s (k + 1)) := by show _ = _; rw [HE.out, ha, hc]; rfl
        clear ha
        have HK : Hid (k + 1 ≤ s.size) := hlt
        go_wp2_with (go_at_call 153; refine (goesOn _ _).mono ?_; rintro e w' ⟨rfl, rfl⟩; rw [hc])
        go_round
        case rel => exact ⟨k + 1, HK.out, by go_num, F⟩
        case measure => have := HK.out; simp [intOf]; omega
    · have F : Hid (goes s 0 = (raw s).take k) := by show _ = _; rw [HE.out, goes_end (by omega)]
      go_wp2
      go_ret
      exact ⟨by rw [F.out, ← extract_bs]; rfl, rfl⟩

theorem takeWhile_len (f : UInt8 → Bool) : ∀ l : Bs, decide ((l.takeWhile f).length = l.length) = l.all f := by
  intro l
  induction l with
  | nil => rfl
  | cons c t ih =>
    rw [List.takeWhile_cons, List.all_cons]
    cases hc : f c
    · simp
    · simp [← ih]

theorem namedB_word {s : ByteArray} (h0 : 0 < s.size) (h1 : s.size ≤ 12) (hb : smallB s[0].toNat = true) : namedB s = decide ((bs ((raw s).takeWhile isSign)).size = s.size) := by
  rw [size_bs, ← length_raw s, takeWhile_len, namedB_in h0 h1, hb]
  have hl : 0 < (raw s).length := by rw [length_raw]; exact h0
  have e : raw s = (s[0]'h0) :: (raw s).drop 1 := by
    have := List.drop_eq_getElem_cons hl
    rw [List.drop_zero, getRaw h0 hl] at this
    exact this
  have hs : isSign (s[0]'h0) = true := by unfold isSign signB; rw [hb]; rfl
  rw [e, List.all_cons, hs]
  rfl

theorem namedB_eq (s : ByteArray) : namedB s = isNamed (raw s) := by
  unfold namedB isNamed
  rw [length_raw]
  show (decide (0 < s.size ∧ s.size ≤ 12) && match raw s with | [] => false | c :: r => smallB c.toNat && r.all fun c => signB c.toNat) = _
  have hl := length_raw s
  cases h : raw s with
  | nil => simp
  | cons c t =>
    rw [h] at hl
    have : 0 < s.size := by rw [← hl]; simp
    simp only [List.all_cons]
    rw [show (t.all fun c => signB c.toNat) = t.all isSign from rfl]
    by_cases h12 : s.size ≤ 12
    · rw [decide_eq_true ⟨this, h12⟩, decide_eq_true h12]
      cases hc : smallB c.toNat
      · simp
      · rw [show isSign c = true by unfold isSign signB; rw [hc]; rfl]; simp
    · rw [decide_eq_false (fun h => h12 h.2), decide_eq_false h12]; rfl

set_option maxHeartbeats 1000000 in
theorem named (s : ByteArray) (w : World) : Calls Tryz.prog 90 #[.string s] w fun e w' => e = .returned (.bool (namedB s)) ∧ w' = w := by
  by_cases h0 : 0 < s.size
  · by_cases h1 : s.size ≤ 12
    · have h0' : ((s.size : Int) == 0) = false := by rw [beq_eq_false_iff_ne]; omega
      cases hb : smallB s[0].toNat
      · have F : Hid (namedB s = false) := by show _ = _; rw [namedB_in h0 h1, hb]; rfl
        go_enter Tryz.func90, Tryz.ntmps90
        go_wp2_with (go_at_call 127; refine (begins _ _).mono ?_; rintro e w' ⟨rfl, rfl⟩; rw [hb])
        go_ret
        exact ⟨ret_bool F.out.symm, rfl⟩
      · have F : Hid (namedB s = decide ((bs ((raw s).takeWhile isSign)).size = s.size)) := namedB_word h0 h1 hb
        generalize hx : bs ((raw s).takeWhile isSign) = x at F
        have HX := hide hx
        clear hx
        go_enter Tryz.func90, Tryz.ntmps90
        go_wp2_with (first
          | (go_at_call 127; refine (begins _ _).mono ?_; rintro e w' ⟨rfl, rfl⟩; rw [hb])
          | (go_at_call 128; refine (wordC _ _ (by omega)).mono ?_; rintro e w' ⟨rfl, rfl⟩; rw [HX.out]))
        go_ret
        refine ⟨ret_bool ?_, rfl⟩
        rw [F.out, Bool.eq_iff_iff]
        simp
        omega
    · rw [namedB_long (Or.inr (by omega))]
      have h0' : ((s.size : Int) == 0) = false := by rw [beq_eq_false_iff_ne]; omega
      go_enter Tryz.func90, Tryz.ntmps90
      go_wp2
      go_ret
      exact ⟨rfl, rfl⟩
  · rw [namedB_long (Or.inl (by omega))]
    have h0' : ((s.size : Int) == 0) = true := by rw [beq_iff_eq]; omega
    go_enter Tryz.func90, Tryz.ntmps90
    go_wp2
    go_ret
    exact ⟨rfl, rfl⟩

set_option maxHeartbeats 400000 in
theorem wrong1 (s : ByteArray) (w : World) : Calls Tryz.prog 92 #[.string s] w fun e w' => e = .returned (.bool (!namedB s)) ∧ w' = w := by
  generalize hr : namedB s = r
  have R : Hid _ := hr
  clear hr
  go_enter Tryz.func92, Tryz.ntmps92
  go_wp2_with (go_at_call 90; refine (named _ _).mono ?_; rintro e w' ⟨rfl, rfl⟩; rw [R.out])
  go_ret
  exact ⟨rfl, rfl⟩

/-- Is one of the texts from k on no name? -/
def noName (l : List ByteArray) (k : Nat) : Bool := (l.drop k).any fun s => !namedB s

theorem noName_step {l : List ByteArray} {k : Nat} (h : k < l.length) : noName l k = (!namedB (l.getD k ByteArray.empty) || noName l (k + 1)) := by
  unfold noName
  rw [List.drop_eq_getElem_cons h, List.any_cons, List.getD_eq_getElem?_getD, List.getElem?_eq_getElem h]; rfl

theorem noName_end {l : List ByteArray} {k : Nat} (h : l.length ≤ k) : noName l k = false := by
  unfold noName; rw [List.drop_eq_nil_of_le h]; rfl

set_option maxHeartbeats 1000000 in
/-- slices.IndexFunc at texts, with 'is no name': at or above 0 just where one is none. -/
theorem indexFunc (v : Value) (l : List ByteArray) (w : World) (h : Strs w v l) :
    Calls Tryz.prog 129 #[v, .func (.func 92) #[] #[]] w fun e w' => ∃ n : Int, e = .returned (.int .i64 n) ∧ decide (0 ≤ n) = noName l 0 ∧ w' = w := by
  obtain ⟨h0, a, cap, rfl, hc⟩ := h
  have HC : Hid _ := hc
  clear hc
  go_enter Tryz.func129, Tryz.ntmps129
  go_wp2
  go_loop [8] (fun i => ∃ k : Nat, k ≤ l.length ∧ i = .int .i64 k ∧ Hid (noName l 0 = noName l k)) (fun i => l.length - (intOf i).toNat)
  case atStart => exact ⟨0, by omega, rfl, (rfl : _ = _)⟩
  case round =>
    obtain ⟨k, hk, rfl, HE⟩ := hrel
    by_cases hlt : k < l.length
    · obtain ⟨b, off, rfl, _, hcell⟩ := HC.out (by intro e; rw [e] at hlt; simp at hlt)
      have h1 := hcell k hlt
      have hs := noName_step hlt
      clear hcell
      generalize l.getD k ByteArray.empty = s at *
      cases hn : namedB s
      · have F : Hid (noName l 0 = true) := by show _ = _; rw [HE.out, hs, hn]; rfl
        clear hs
        go_wp2_with (go_at_call 92; refine (wrong1 _ _).mono ?_; rintro e w' ⟨rfl, rfl⟩; rw [hn])
        go_ret
        exact ⟨_, rfl, by rw [F.out]; simp, rfl⟩
      · have F : Hid (noName l 0 = noName l (k + 1)) := by show _ = _; rw [HE.out, hs, hn]; rfl
        clear hs
        go_wp2_with (go_at_call 92; refine (wrong1 _ _).mono ?_; rintro e w' ⟨rfl, rfl⟩; rw [hn])
        go_round
        case rel => exact ⟨k + 1, by omega, by go_num, F⟩
        case measure => simp [intOf]; omega
    · have F : Hid (noName l 0 = false) := by show _ = _; rw [HE.out, noName_end (by omega)]
      go_wp2
      go_ret
      exact ⟨_, rfl, by rw [F.out]; simp, rfl⟩

set_option maxHeartbeats 400000 in
theorem containsFunc (v : Value) (l : List ByteArray) (w : World) (h : Strs w v l) :
    Calls Tryz.prog 91 #[v, .func (.func 92) #[] #[]] w fun e w' => e = .returned (.bool (noName l 0)) ∧ w' = w := by
  have hI := indexFunc v l w h
  obtain ⟨h0, a, cap, rfl, hc⟩ := h
  have HI := hide hI
  clear hc hI
  go_enter Tryz.func91, Tryz.ntmps91
  go_wp2_with (go_at_call 129; refine HI.out.mono ?_; rintro e w' ⟨n, rfl, hn, rfl⟩; replace hn := hide hn)
  go_ret
  exact ⟨ret_bool (unhide hn), rfl⟩

/-- What is wrong with a fact. -/
def wrongF (f : FactD) : Int := if !namedB f.1 then 7 else if 4 < f.2.length then 5 else if noName f.2 0 then 7 else 0

set_option maxHeartbeats 1000000 in
theorem wrong (v : Value) (f : FactD) (w : World) (h : FactV w v f) :
    Calls Tryz.prog 55 #[v] w fun e w' => e = .returned (.int .i64 (wrongF f)) ∧ Later w w' := by
  obtain ⟨s, rfl, k⟩ := h
  have HC : Hid (∀ w', Later w w' → Calls Tryz.prog 91 #[s, .func (.func 92) #[] #[]] w' fun e w'' => e = .returned (.bool (noName f.2 0)) ∧ w'' = w') := fun w' hw => containsFunc s f.2 w' (k.later hw)
  have l0 := k.1
  obtain ⟨a, c, rfl⟩ := sliceStr k
  clear k
  obtain ⟨n, x⟩ := f
  unfold wrongF
  dsimp only at *
  cases hn : namedB n
  · go_enter Tryz.func55, Tryz.ntmps55
    go_wp2_with (go_at_call 90; refine (named _ _).mono ?_; rintro e w' ⟨rfl, rfl⟩; rw [hn])
    go_ret
    exact ⟨rfl, (Later.refl _).alloc _⟩
  · by_cases h4 : 4 < x.length
    · rw [if_pos h4]
      go_enter Tryz.func55, Tryz.ntmps55
      go_wp2_with (go_at_call 90; refine (named _ _).mono ?_; rintro e w' ⟨rfl, rfl⟩; rw [hn])
      go_ret
      exact ⟨rfl, (Later.refl _).alloc _⟩
    · rw [if_neg h4]
      cases hb : noName x 0
      all_goals
        rw [hb] at HC
        go_enter Tryz.func55, Tryz.ntmps55
        go_wp2_with (first
          | (go_at_call 90; refine (named _ _).mono ?_; rintro e w' ⟨rfl, rfl⟩; rw [hn])
          | (go_at_call 91; refine (HC.out _ ((Later.refl _).alloc _)).mono ?_; rintro e w' ⟨rfl, rfl⟩))
        go_ret
        exact ⟨rfl, (Later.refl _).alloc _⟩

end Go.Proofs.YtbohggoeebhdmaaGreatDoor

/- The document's answer: the walks of ref.Less, ref.Equal, ref.In. -/
namespace Go.Proofs.YtbohggoeebhdmaaGreatDoor
open Go.RowKit Go.Sort

/-- A fact comes first. -/
def lessF (f g : FactD) : Bool := decide (cmpF f g < 0)

theorem cmpS_lt (a b : ByteArray) : decide (cmpS a b < 0) = Op.bytesLess a.toList b.toList := by
  unfold cmpS
  cases h : Op.bytesLess a.toList b.toList
  · cases h2 : (a.toList == b.toList) <;> simp
  · simp

theorem cmpS_ne {a b : ByteArray} (h : (a.toList == b.toList) = false) : cmpS a b ≠ 0 := by
  intro e
  rw [three_cmpS.zero _ _ e] at h
  simp at h

theorem cmpS_eq {a b : ByteArray} (h : (a.toList == b.toList) = true) : cmpS a b = 0 := by
  have : a.toList = b.toList := by simpa using h
  rw [toList_inj this]; exact three_cmpS.refl b

theorem lessF_name {f g : FactD} (h : (f.1.toList == g.1.toList) = false) : lessF f g = Op.bytesLess f.1.toList g.1.toList := by
  unfold lessF cmpF; rw [if_pos (cmpS_ne h), cmpS_lt]

theorem lessF_len {f g : FactD} (h : (f.1.toList == g.1.toList) = true) (hl : ((f.2.length : Int) == (g.2.length : Int)) = false) : lessF f g = decide ((f.2.length : Int) < (g.2.length : Int)) := by
  have hl' : (f.2.length : Int) ≠ (g.2.length : Int) := by simpa using hl
  unfold lessF cmpF; rw [if_neg (by rw [cmpS_eq h]; simp)]
  unfold cmpI
  by_cases hh : (f.2.length : Int) < (g.2.length : Int)
  · simp [hh]
  · have h2 : (g.2.length : Int) < (f.2.length : Int) := by omega
    rw [if_neg hh, if_pos h2, decide_eq_false hh]; rfl

theorem lessF_args {f g : FactD} (h : (f.1.toList == g.1.toList) = true) (hl : f.2.length = g.2.length) : lessF f g = decide (cmpL f.2 g.2 < 0) := by
  unfold lessF cmpF; rw [if_neg (by rw [cmpS_eq h]; simp), if_neg (by rw [hl, three_cmpI.refl]; simp)]

set_option maxHeartbeats 1000000 in
theorem rLess_args (n1 n2 : ByteArray) (x y : List ByteArray) (a1 a2 : Option Addr) (c1 c2 : Nat) (w : World) (hn : (n1.toList == n2.toList) = true) (hl : x.length = y.length) (hx : x.length ≤ 8796093022208)
    (k1 : x ≠ [] → ∃ b off, a1 = some ⟨b, off, none⟩ ∧ b < w.heap.size ∧ ∀ i, i < x.length → w.cell? ⟨b, off + i, none⟩ = some (.string (x.getD i ByteArray.empty)))
    (k2 : y ≠ [] → ∃ b off, a2 = some ⟨b, off, none⟩ ∧ b < w.heap.size ∧ ∀ i, i < y.length → w.cell? ⟨b, off + i, none⟩ = some (.string (y.getD i ByteArray.empty))) :
    Calls Tryz.prog 72 #[.agg #[.string n1, .slice a1 x.length c1], .agg #[.string n2, .slice a2 y.length c2]] w fun e w' => e = .returned (.bool (decide (cmpL x y < 0))) ∧ Later w w' := by
  have K1 := hide k1
  have K2 := hide k2
  clear k1 k2
  have hl2 : ((x.length : Int) == (y.length : Int)) = true := by rw [hl]; simp
  have HL := hide hl
  clear hl
  go_enter Tryz.func72, Tryz.ntmps72
  go_wp2
  go_loopw [33] (fun i wr => ∃ k q : Nat, k ≤ x.length ∧ i = .int .i64 k ∧ wr = ((w.alloc (.cells #[.string n1, .slice a1 x.length c1] 54)).alloc (.cells #[.string n2, .slice a2 y.length c2] 54)).drewN q ∧ Hid (cmpL x y = cmpL (x.drop k) (y.drop k))) (fun i _ => x.length - (intOf i).toNat)
  case atStart => exact ⟨0, 0, Nat.zero_le _, rfl, rfl, (by simp : cmpL x y = cmpL (x.drop 0) (y.drop 0))⟩
  case round =>
    obtain ⟨k, q, hk, rfl, rfl, HE⟩ := hrel
    by_cases hlt : k < x.length
    · have hne : x ≠ [] := by intro e; rw [e] at hlt; simp at hlt
      have hlt2 : k < y.length := by have := HL.out; omega
      have hne2 : y ≠ [] := by intro e; rw [e] at hlt2; simp at hlt2
      obtain ⟨b, off, rfl, hb, hc⟩ := K1.out hne
      obtain ⟨b2, off2, rfl, hb2, hd⟩ := K2.out hne2
      have g1 := hc k hlt
      have g2 := hd k hlt2
      have e := cmpL_drop x y k hlt hlt2
      clear hc hd
      have hltz : (k : Int) < (x.length : Int) := by omega
      have hltz2 : (k : Int) < (y.length : Int) := by omega
      generalize x.getD k ByteArray.empty = sx at *
      generalize y.getD k ByteArray.empty = sy at *
      have E := hide e
      clear e
      have b1 : b < w.heap.size + 1 := by omega
      have b3 : b2 < w.heap.size + 1 := by omega
      cases hs : (sx.toList == sy.toList)
      · have F : Hid (decide (cmpL x y < 0) = Op.bytesLess sx.toList sy.toList) := by show _ = _; rw [HE.out, E.out, if_pos (cmpS_ne hs), cmpS_lt]
        go_wp2
        go_quiet (fail)
        go_wp2
        go_quiet (fail)
        go_wp2
        go_ret
        exact ⟨ret_bool F.out.symm, (by repeat (first | exact Later.refl _ | assumption | refine Later.drewN ?_ _ | refine Later.drew ?_ | refine Later.alloc ?_ _ | refine Later.grow ?_ _))⟩
      · have F : Hid (cmpL x y = cmpL (x.drop (k + 1)) (y.drop (k + 1))) := by show _ = _; rw [HE.out, E.out, if_neg (by rw [cmpS_eq hs]; simp)]
        go_wp2
        go_quiet (fail)
        go_wp2
        go_roundw
        case rel => exact ⟨k + 1, _, by omega, by go_num, rfl, F⟩
        case measure => simp [intOf]; omega
    · have F : Hid (cmpL x y = 0) := by
        show _ = _
        rw [HE.out, cmpL_drop_end x y k (by omega), if_neg (by have := HL.out; omega)]
      go_wp2
      go_ret
      exact ⟨ret_bool (by rw [F.out]; simp), (by repeat (first | exact Later.refl _ | assumption | refine Later.drewN ?_ _ | refine Later.drew ?_ | refine Later.alloc ?_ _ | refine Later.grow ?_ _))⟩

set_option maxHeartbeats 400000 in
theorem rLess (v1 v2 : Value) (f g : FactD) (w : World) (h1 : FactV w v1 f) (h2 : FactV w v2 g) :
    Calls Tryz.prog 72 #[v1, v2] w fun e w' => e = .returned (.bool (lessF f g)) ∧ Later w w' := by
  obtain ⟨s1, rfl, l1, a1, c1, rfl, k1⟩ := h1
  obtain ⟨s2, rfl, l2, a2, c2, rfl, k2⟩ := h2
  cases hn : (f.1.toList == g.1.toList)
  · rw [lessF_name hn]
    clear k1 k2
    go_enter Tryz.func72, Tryz.ntmps72
    go_wp2
    go_ret
    exact ⟨rfl, (by repeat (first | exact Later.refl _ | assumption | refine Later.drewN ?_ _ | refine Later.drew ?_ | refine Later.alloc ?_ _ | refine Later.grow ?_ _))⟩
  · cases hl : ((f.2.length : Int) == (g.2.length : Int))
    · rw [lessF_len hn hl]
      clear k1 k2
      go_enter Tryz.func72, Tryz.ntmps72
      go_wp2
      go_ret
      exact ⟨ret_bool (by simp), (by repeat (first | exact Later.refl _ | assumption | refine Later.drewN ?_ _ | refine Later.drew ?_ | refine Later.alloc ?_ _ | refine Later.grow ?_ _))⟩
    · have hl' : f.2.length = g.2.length := by have : (f.2.length : Int) = (g.2.length : Int) := by simpa using hl
                                               omega
      rw [lessF_args hn hl']
      exact rLess_args f.1 g.1 f.2 g.2 a1 a2 c1 c2 w hn hl' l1 k1 k2

/-- The same fact. -/
def sameF (f g : FactD) : Bool := decide (cmpF f g = 0)

theorem sameF_less (f g : FactD) : sameF f g = (!lessF f g && !lessF g f) := by
  have := three_cmpF.swap f g
  unfold sameF lessF
  rw [Bool.eq_iff_iff]; simp; omega

theorem sameF_iff {f g : FactD} : sameF f g = true ↔ f = g := by
  unfold sameF
  rw [decide_eq_true_eq]
  exact ⟨three_cmpF.zero f g, fun e => by rw [e]; exact three_cmpF.refl g⟩

theorem factV_agg {w : World} {v : Value} {f : FactD} (h : FactV w v f) : ∃ s, v = .agg #[.string f.1, s] ∧ FactV w (.agg #[.string f.1, s]) f := by
  obtain ⟨s, rfl, hs⟩ := h; exact ⟨s, rfl, s, rfl, hs⟩

set_option maxHeartbeats 400000 in
theorem rEqual (v1 v2 : Value) (f g : FactD) (w : World) (h1 : FactV w v1 f) (h2 : FactV w v2 g) :
    Calls Tryz.prog 43 #[v1, v2] w fun e w' => e = .returned (.bool (sameF f g)) ∧ Later w w' := by
  have H1 : Hid (∀ w', Later w w' → Calls Tryz.prog 72 #[v1, v2] w' fun e w'' => e = .returned (.bool (lessF f g)) ∧ Later w' w'') := fun w' hw => rLess v1 v2 f g w' (h1.later hw) (h2.later hw)
  have H2 : Hid (∀ w', Later w w' → Calls Tryz.prog 72 #[v2, v1] w' fun e w'' => e = .returned (.bool (lessF g f)) ∧ Later w' w'') := fun w' hw => rLess v2 v1 g f w' (h2.later hw) (h1.later hw)
  obtain ⟨s1, rfl, l1, a1, c1, rfl, k1⟩ := h1
  obtain ⟨s2, rfl, l2, a2, c2, rfl, k2⟩ := h2
  clear k1 k2
  rw [sameF_less]
  generalize lessF f g = x at *
  generalize lessF g f = y at *
  obtain ⟨n1, ar1⟩ := f
  obtain ⟨n2, ar2⟩ := g
  dsimp only at *
  cases x
  · go_enter Tryz.func43, Tryz.ntmps43
    go_wp2_with fail
    refine (H1.out _ (by repeat (first | exact Later.refl _ | refine Later.alloc ?_ _))).mono ?_
    rintro e w1 ⟨rfl, hL⟩
    have z1 : w1.cell? ⟨w.heap.size, 0, none⟩ = some (.string n1) := by rw [hL.cell (by simp; omega)]; simp
    have z2 : w1.cell? ⟨w.heap.size, 1, none⟩ = some (.slice a1 ar1.length c1) := by rw [hL.cell (by simp; omega)]; simp
    have z3 : w1.cell? ⟨w.heap.size + 1, 0, none⟩ = some (.string n2) := by rw [hL.cell (by simp)]; simp
    have z4 : w1.cell? ⟨w.heap.size + 1, 1, none⟩ = some (.slice a2 ar2.length c2) := by rw [hL.cell (by simp)]; simp
    go_wp2_with fail
    refine (H2.out _ (Later.trans (((Later.refl _).alloc _).alloc _) hL)).mono ?_
    rintro e w2 ⟨rfl, hL2⟩
    go_wp2
    go_ret
    exact ⟨by simp, (((Later.refl _).alloc _).alloc _).trans (hL.trans hL2)⟩
  · go_enter Tryz.func43, Tryz.ntmps43
    go_wp2_with fail
    refine (H1.out _ (by repeat (first | exact Later.refl _ | refine Later.alloc ?_ _))).mono ?_
    rintro e w1 ⟨rfl, hL⟩
    go_wp2
    go_ret
    exact ⟨by simp, (((Later.refl _).alloc _).alloc _).trans hL⟩

/-- Is f among those from k on? -/
def inFrom (l : List FactD) (f : FactD) (k : Nat) : Bool := (l.drop k).any fun x => sameF x f

theorem inFrom_step {l : List FactD} {f : FactD} {k : Nat} (h : k < l.length) : inFrom l f k = (sameF (l.getD k noFact) f || inFrom l f (k + 1)) := by
  unfold inFrom
  rw [List.drop_eq_getElem_cons h, List.any_cons, List.getD_eq_getElem?_getD, List.getElem?_eq_getElem h]; rfl

theorem inFrom_end {l : List FactD} {f : FactD} {k : Nat} (h : l.length ≤ k) : inFrom l f k = false := by
  unfold inFrom; rw [List.drop_eq_nil_of_le h]; rfl

/-- One fact of a slice of facts: its two cells, and the fact as a value. -/
theorem Facts.at {w : World} {b off : Nat} {n cap : Nat} {l : List FactD} (h : Facts w (.slice (some ⟨b, off, none⟩) n cap) l) {k : Nat} (hk : k < l.length) :
    b < w.heap.size ∧ ∃ a len c, w.cell? ⟨b, off + k * 2, none⟩ = some (.string (l.getD k noFact).1) ∧ w.cell? ⟨b, off + k * 2 + 1, none⟩ = some (.slice a len c) ∧ FactV w (.agg #[.string (l.getD k noFact).1, .slice a len c]) (l.getD k noFact) := by
  obtain ⟨_, a, cap', e, h1⟩ := h
  obtain ⟨b', off', e', hb, hc⟩ := h1 (by intro e; rw [e] at hk; simp at hk)
  rw [e'] at e
  simp only [Value.slice.injEq, Option.some.injEq, Addr.mk.injEq] at e
  obtain ⟨⟨rfl, rfl, _⟩, _, _⟩ := e
  obtain ⟨c1, s, c2, c3⟩ := hc k hk
  obtain ⟨a2, cp, rfl⟩ := sliceStr c3
  exact ⟨hb, a2, _, cp, c1, c2, _, rfl, c3⟩

theorem Facts.addr {w : World} {v : Value} {l : List FactD} (h : Facts w v l) : ∃ a cap, v = .slice a l.length cap ∧ l.length ≤ 3518437208883 ∧ (l = [] ∨ ∃ b off, a = some ⟨b, off, none⟩) := by
  obtain ⟨h0, a, cap, rfl, h1⟩ := h
  refine ⟨a, cap, rfl, h0, ?_⟩
  by_cases e : l = []
  · exact Or.inl e
  · obtain ⟨b, off, rfl, _⟩ := h1 e
    exact Or.inr ⟨b, off, rfl⟩

set_option maxHeartbeats 1000000 in
theorem rIn (v1 v2 : Value) (l : List FactD) (f : FactD) (w : World) (h1 : Facts w v1 l) (h2 : FactV w v2 f) :
    Calls Tryz.prog 84 #[v1, v2] w fun e w' => e = .returned (.bool (inFrom l f 0)) ∧ Later w w' := by
  have H1 := hide h1
  have H2 := hide h2
  obtain ⟨s2, rfl, l2, a2, c2, rfl, _⟩ := h2
  obtain ⟨a, cap, rfl, hn, hz⟩ := h1.addr
  clear h1
  go_enter Tryz.func84, Tryz.ntmps84
  go_wp2
  go_loopw [9] (fun i wr => ∃ k : Nat, k ≤ l.length ∧ i = .int .i64 k ∧ Later (w.alloc (.cells #[.string f.1, .slice a2 f.2.length c2] 54)) wr ∧ Hid (inFrom l f 0 = inFrom l f k)) (fun i _ => l.length - (intOf i).toNat)
  case atStart => exact ⟨0, by omega, rfl, Later.refl _, (rfl : _ = _)⟩
  case round =>
    obtain ⟨k, hk, rfl, hL, HE⟩ := hrel
    by_cases hlt : k < l.length
    · rcases hz with rfl | ⟨b, off, rfl⟩
      · simp at hlt
      have hL0 : Later w wr := ((Later.refl _).alloc _).trans hL
      obtain ⟨hb, ax, lx, cx, g1, g2, fx⟩ := (H1.out.later hL0).at hlt
      have z0 : wr.cell? ⟨w.heap.size, 0, none⟩ = some (.string f.1) := by rw [hL.cell (by simp)]; simp
      have z1 : wr.cell? ⟨w.heap.size, 1, none⟩ = some (.slice a2 f.2.length c2) := by rw [hL.cell (by simp)]; simp
      have z2 : w.heap.size < wr.heap.size := by have := hL.size; simp at this; omega
      have hs := inFrom_step (f := f) hlt
      have hltz : (k : Int) < (l.length : Int) := by omega
      have HC : Hid (∀ w', Later wr w' → Calls Tryz.prog 43 #[.agg #[.string (l.getD k noFact).1, .slice ax lx cx], .agg #[.string f.1, .slice a2 f.2.length c2]] w' fun e w'' => e = .returned (.bool (sameF (l.getD k noFact) f)) ∧ Later w' w'') :=
        fun w' hw => rEqual _ _ _ _ w' (fx.later hw) ((H2.out.later hL0).later hw)
      generalize (l.getD k noFact).1 = nk at *
      generalize sameF (l.getD k noFact) f = r at *
      clear fx
      cases r
      · have F : Hid (inFrom l f 0 = inFrom l f (k + 1)) := by show _ = _; rw [HE.out, hs]; rfl
        clear hs
        go_wp2_with (go_at_call 43; refine (HC.out _ ((Later.refl _).alloc _)).mono ?_; rintro e w1 ⟨rfl, hL1⟩)
        go_roundw
        case rel => exact ⟨k + 1, by omega, by go_num, hL.trans (((Later.refl _).alloc _).trans hL1), F⟩
        case measure => simp [intOf]; omega
      · have F : Hid (inFrom l f 0 = true) := by show _ = _; rw [HE.out, hs]; rfl
        clear hs
        go_wp2_with (go_at_call 43; refine (HC.out _ ((Later.refl _).alloc _)).mono ?_; rintro e w1 ⟨rfl, hL1⟩)
        go_ret
        exact ⟨ret_bool F.out.symm, hL0.trans (((Later.refl _).alloc _).trans hL1)⟩
    · have F : Hid (inFrom l f 0 = false) := by show _ = _; rw [HE.out, inFrom_end (by omega)]
      go_wp2
      go_ret
      exact ⟨ret_bool F.out.symm, ((Later.refl _).alloc _).trans hL⟩

end Go.Proofs.YtbohggoeebhdmaaGreatDoor

/- The walks of fact.copied and fact.keep. -/
namespace Go.Proofs.YtbohggoeebhdmaaGreatDoor
open Go.RowKit Go.Sort

theorem infoStr : ∃ i, Tryz.prog.info? 9 = some i ∧ i.zero = some (.string ByteArray.empty) ∧ i.size = 1 ∧ i.bytes = 16 := ⟨Tryz.t9, by kernel_rfl, by kernel_rfl, by kernel_rfl, by kernel_rfl⟩
theorem infoFact : ∃ i, Tryz.prog.info? 54 = some i ∧ i.zero = some (.agg #[.string ByteArray.empty, .slice none 0 0]) ∧ i.size = 2 ∧ i.bytes = 40 := ⟨Tryz.t54, by kernel_rfl, by kernel_rfl, by kernel_rfl, by kernel_rfl⟩

/-- append onto nil of texts, some of them. -/
theorem append_strs (w : World) (b off cap : Nat) (l : List ByteArray) (hl : l.length ≤ 8796093022208) (h0 : l ≠ []) (hc : ∀ i, i < l.length → w.cell? ⟨b, off + i, none⟩ = some (.string (l.getD i ByteArray.empty))) :
    ∃ cp arr, (Builtin.append_ #[52, 52] 52 #[.slice none 0 0, .slice (some ⟨b, off, none⟩) l.length cap]).run Tryz.prog w = .ok (.slice (some ⟨w.heap.size, 0, none⟩) l.length cp) (w.drew.alloc (.cells arr 9)) ∧
      ∀ i, i < l.length → arr[i]? = some (.string (l.getD i ByteArray.empty)) := by
  obtain ⟨i, i1, i2, i3, i4⟩ := infoStr
  have hn : 0 < l.length := List.length_pos_iff.2 h0
  have hcells : ∀ j u, (l.map Value.string)[j]? = some u → w.cell? ((⟨b, off, none⟩ : Addr).add j) = some u := by
    intro j u hu
    rw [List.getElem?_map] at hu
    cases hj : l[j]? with
    | none => rw [hj] at hu; cases hu
    | some s =>
      rw [hj] at hu
      have hlt : j < l.length := (List.getElem?_eq_some_iff.1 hj).1
      have := hc j hlt
      rw [List.getD_eq_getElem?_getD, hj] at this
      rw [Addr.add_lit]
      rw [this]
      simpa using hu
  have hr := run_append_nil (P := Tryz.prog) w 52 52 9 i (.string ByteArray.empty) Tryz.underlying52 i1 i2 ⟨b, off, none⟩ l.length cap (l.map Value.string) (by rw [i3]; simp) hcells (by omega) (by omega) (by rw [i4]; omega)
  refine ⟨_, _, hr, fun k hk => ?_⟩
  rw [Array.getElem?_append_left (by simpa using hk)]
  simp [hk]

/-- append as one step of a region that draws its order, its run being known. -/
theorem step_append_run {P : Program} {ops : Array Oper} {o : Oper} {a : Act} {w : World} {K : Act → World → Prop} {Q : Exit → Act → World → Prop} {E : Prop}
    (hg : o.guard = none) (s x : Operand) (t : TypeId) (hop : o.op = Op.call { callee := Callee.builtin Builtin.append, args := #[s, x], argTypes := #[t, t] })
    (v1 v2 v' : Value) (w' : World) (hs : a.eval s = v1) (hx : a.eval x = v2) (hrun : (Builtin.append_ #[t, t] o.type #[v1, v2]).run P w = .ok v' w') (hK : K (a.put o.dst v') w') :
    if Region.wanted o (yielded ops a.tmps) = true then Oper.wp P o a w K Q else E := by
  have hw : Region.wanted o (yielded ops a.tmps) = true := by simp [Region.wanted, hg]
  rw [if_pos hw]
  unfold Oper.wp
  simp [execOp, hop, resolve, invoke, builtin, hs, hx, hrun, Result.andThen]
  exact hK

/-- A text's slice in a block of its own. -/
theorem strs_new (w : World) (arr : Array Value) (l : List ByteArray) (cp : Nat) (t : TypeId) (hl : l.length ≤ 8796093022208) (h : ∀ i, i < l.length → arr[i]? = some (.string (l.getD i ByteArray.empty))) :
    Strs (w.alloc (.cells arr t)) (.slice (some ⟨w.heap.size, 0, none⟩) l.length cp) l :=
  ⟨hl, _, cp, rfl, fun _ => ⟨w.heap.size, 0, rfl, by simp, fun i hi => by
    rw [Nat.zero_add, cell_of_row _ w.heap.size i arr t (0, 0) (heap_alloc_new w _)]
    exact h i hi⟩⟩

set_option maxHeartbeats 1000000 in
theorem copied_some (n : ByteArray) (l : List ByteArray) (b off cap : Nat) (w : World) (hne : l ≠ []) (h0 : l.length ≤ 8796093022208) (hb : b < w.heap.size) (hcell : ∀ i, i < l.length → w.cell? ⟨b, off + i, none⟩ = some (.string (l.getD i ByteArray.empty))) :
    Calls Tryz.prog 89 #[.agg #[.string n, .slice (some ⟨b, off, none⟩) l.length cap]] w fun e w' => ∃ s, e = .returned (.agg #[.string n, s]) ∧ Strs w' s l ∧ Later w w' ∧ ∀ k, s.ownBlock = some k → w.heap.size ≤ k ∧ k < w'.heap.size := by
  have hL : Later w ((w.alloc (.cells #[.string n, .slice (some ⟨b, off, none⟩) l.length cap] 54)).alloc (.cells #[.string { data := #[] }, .slice none 0 0] 54)).drew := (by repeat (first | exact Later.refl _ | assumption | refine Later.drewN ?_ _ | refine Later.drew ?_ | refine Later.alloc ?_ _ | refine Later.grow ?_ _))
  obtain ⟨cp, arr, hr, harr⟩ := append_strs ((w.alloc (.cells #[.string n, .slice (some ⟨b, off, none⟩) l.length cap] 54)).alloc (.cells #[.string { data := #[] }, .slice none 0 0] 54)).drew b off cap l h0 hne (fun i hi => by rw [hL.cell (p := ⟨b, off + i, none⟩) hb]; exact hcell i hi)
  have HA := hide harr
  clear harr hcell hL
  go_enter Tryz.func89, Tryz.ntmps89
  go_wp2
  go_region_law (refine step_append_run rfl (.const (.slice none 0 0)) (.tmp 6) 52 rfl _ _ _ _ (by simp [Act.eval]) (by simp [Act.eval]) hr ?_)
  all_goals
    clear hr
    go_wp2
    refine bodyPost_ret (v := .agg #[.string n, .slice (some ⟨w.heap.size + 1 + 1, 0, none⟩) l.length cp]) (by simp [results, Tryz.results89, go_sem]) rfl ⟨_, rfl, ?_, (by repeat (first | exact Later.refl _ | assumption | refine Later.drewN ?_ _ | refine Later.drew ?_ | refine Later.alloc ?_ _ | refine Later.grow ?_ _)), ?_⟩
    · have hs := strs_new ((w.alloc (.cells #[.string n, .slice (some ⟨b, off, none⟩) l.length cap] 54)).alloc (.cells #[.string n, .slice (some ⟨w.heap.size + 1 + 1, 0, none⟩) l.length cp] 54)) arr l cp 9 h0 HA.out
      have e : ((w.alloc (.cells #[.string n, .slice (some ⟨b, off, none⟩) l.length cap] 54)).alloc (.cells #[.string n, .slice (some ⟨w.heap.size + 1 + 1, 0, none⟩) l.length cp] 54)).heap.size = w.heap.size + 1 + 1 := by simp
      rw [e] at hs
      exact hs.later (by repeat (first | exact Later.refl _ | assumption | refine Later.drewN ?_ _ | refine Later.drew ?_ | refine Later.alloc ?_ _ | refine Later.grow ?_ _))
    · intro k hk
      simp [Value.ownBlock] at hk
      simp
      omega

theorem append_none (w : World) (a : Option Addr) (cap : Nat) :
    (Builtin.append_ #[52, 52] 52 #[.slice none 0 0, .slice a 0 cap]).run Tryz.prog w = .ok (.slice none 0 0) w := by
  obtain ⟨i, i1, i2, i3, i4⟩ := infoStr
  cases a with
  | none => simp [Builtin.append_, run_underlying Tryz.underlying52, sizeOf, typeInfo, i1, Builtin.lenOf, Builtin.firstCells]
  | some a => simp [Builtin.append_, run_underlying Tryz.underlying52, sizeOf, typeInfo, i1, Builtin.lenOf, Builtin.firstCells, loadCells, loadCellsFrom]

set_option maxHeartbeats 1000000 in
theorem copied_none (n : ByteArray) (a : Option Addr) (cap : Nat) (w : World) :
    Calls Tryz.prog 89 #[.agg #[.string n, .slice a 0 cap]] w fun e w' => ∃ s, e = .returned (.agg #[.string n, s]) ∧ Strs w' s [] ∧ Later w w' ∧ ∀ k, s.ownBlock = some k → w.heap.size ≤ k ∧ k < w'.heap.size := by
  go_enter Tryz.func89, Tryz.ntmps89
  go_wp2
  go_region_law (refine step_append_run rfl (.const (.slice none 0 0)) (.tmp 6) 52 rfl (.slice none 0 0) (.slice a 0 cap) (.slice none 0 0) _ (by simp [Act.eval]) (by simp [Act.eval]) (append_none _ _ _) ?_)
  all_goals
    go_wp2
    refine bodyPost_ret (v := .agg #[.string n, .slice none 0 0]) (by simp [results, Tryz.results89, go_sem]) rfl ⟨_, rfl, ⟨by simp, none, 0, rfl, fun h => absurd rfl h⟩, (by repeat (first | exact Later.refl _ | assumption | refine Later.drewN ?_ _ | refine Later.drew ?_ | refine Later.alloc ?_ _ | refine Later.grow ?_ _)), ?_⟩
    intro k hk
    simp [Value.ownBlock] at hk

theorem copied (v : Value) (f : FactD) (w : World) (h : FactV w v f) :
    Calls Tryz.prog 89 #[v] w fun e w' => ∃ s, e = .returned (.agg #[.string f.1, s]) ∧ Strs w' s f.2 ∧ Later w w' ∧ ∀ k, s.ownBlock = some k → w.heap.size ≤ k ∧ k < w'.heap.size := by
  obtain ⟨s, rfl, h0, a, cap, rfl, hc⟩ := h
  obtain ⟨n, l⟩ := f
  dsimp only at *
  cases l with
  | nil => exact copied_none n a cap w
  | cons x l =>
    obtain ⟨b, off, rfl, hb, hcell⟩ := hc (by simp)
    exact copied_some n (x :: l) b off cap w (by simp) h0 hb hcell

end Go.Proofs.YtbohggoeebhdmaaGreatDoor

/- Rows of facts that a call owns: append onto them; worlds in which only some blocks have turned. -/
namespace Go.Proofs.YtbohggoeebhdmaaGreatDoor
open Go.RowKit Go.Sort

/-- append onto nil or a row of the call's own: what run_append_own says, and that draws only add up, and where the new row lies. -/
theorem append_own {P : Program} (w : World) (base : Nat) (t ty e : TypeId) (i : TypeInfo) (z : Value) (size bytes : Nat) (ht : P.underlying t = some (.slice e)) (hi : P.info? e = some i) (hz : i.zero = some z)
    (hsize : i.size = size) (hby : i.bytes = bytes) (hzs : z.cells.size = size) (hsz : 0 < size)
    (v : Value) (n : Nat) (xs : List Value) (hown : w.ownsRow base e size v n xs)
    (a : Addr) (m c : Nat) (news : List Value) (hl : news.length = m * size) (hnews : ∀ j u, news[j]? = some u → w.cell? (a.add j) = some u) (h1 : ∀ u ∈ news, u.oneCell' = true)
    (h63 : n + m ≤ maxLen) (hbytes : (n + m) * bytes ≤ 140737488355328) (hbase : base ≤ w.heap.size) :
    ∃ v' w', (Builtin.append_ #[t, t] ty #[v, .slice (some a) m c]).run P w = .ok v' w' ∧ w'.ownsRow base e size v' (n + m) (xs ++ news) ∧ w.grownBy w' v.ownBlock ∧ w.drawn ≤ w'.drawn ∧
      ∀ k, v'.ownBlock = some k → v.ownBlock = some k ∨ w.heap.size ≤ k := by
  obtain ⟨v', w', hrun, r1, r2, _⟩ := run_append_own (P := P) w base t ty e i z size bytes ht hi hz hsize hby hzs hsz v n xs hown a m c news hl hnews h1 h63 hbytes hbase
  refine ⟨v', w', hrun, r1, r2, ?_⟩
  subst hsize
  subst hby
  have h63' : n + m ≤ 9223372036854775807 := by simp only [maxLen] at h63; omega
  rcases hown.2 with ⟨rfl, rfl⟩ | ⟨g, cap, cur, rfl, hbg, hg, hnc, hcm, hcs, htake⟩
  · by_cases hm : m = 0
    · subst hm
      have hn : news = [] := List.eq_nil_of_length_eq_zero (by simpa using hl)
      subst hn
      simp [Builtin.append_, run_underlying ht, sizeOf, typeInfo, hi, Builtin.lenOf, Builtin.firstCells, loadCells, loadCellsFrom] at hrun
      obtain ⟨rfl, rfl⟩ := hrun
      exact ⟨Nat.le_refl _, fun k hk => Or.inl hk⟩
    · rw [run_append_nil (P := P) w t ty e i z ht hi hz a m c news hl hnews (by omega) (by omega) (by have hb := hbytes; simp only [Nat.zero_add] at hb; omega)] at hrun
      simp only [Result.ok.injEq] at hrun
      obtain ⟨rfl, rfl⟩ := hrun
      exact ⟨Nat.le_succ _, fun k hk => Or.inr (by simp [Value.ownBlock] at hk; omega)⟩
  · by_cases hroom : n + m ≤ cap
    · have hfit : n * i.size + news.length ≤ cur.size := by rw [hl, hcs, ← Nat.add_mul]; exact Nat.mul_le_mul_right _ hroom
      rw [run_append_room (P := P) w t ty e i ht hi g n cap cur hg a m c news hl hnews h1 hroom hfit] at hrun
      simp only [Result.ok.injEq] at hrun
      obtain ⟨rfl, rfl⟩ := hrun
      exact ⟨Nat.le_refl _, fun k hk => Or.inl (by simpa [Value.ownBlock] using hk)⟩
    · rw [run_append_grow (P := P) w t ty e i z ht hi hz ⟨g, 0, none⟩ n cap xs hown.1 (hown.cells (g := g) rfl) a m c news hl hnews (by omega) (by omega) (growslice_fits (by omega) hbytes)] at hrun
      simp only [Result.ok.injEq] at hrun
      obtain ⟨rfl, rfl⟩ := hrun
      exact ⟨Nat.le_succ _, fun k hk => Or.inr (by simp [Value.ownBlock] at hk; omega)⟩

/-- append in a walk, its run being known. -/
theorem wpList_append_run {P : Program} {w : World} {ops : Array Oper} {rest : List Oper} {o : Oper} {a : Act} {Q : Exit → Act → World → Prop} (hgd : o.guard = none) (s x : Operand) (t : TypeId)
    (ho : o.op = .call { callee := .builtin .append, args := #[s, x], argTypes := #[t, t] }) (v1 v2 v' : Value) (w' : World) (hs : a.eval s = v1) (hx : a.eval x = v2)
    (hrun : (Builtin.append_ #[t, t] o.type #[v1, v2]).run P w = .ok v' w') (h : wpList P ops Q rest (a.put o.dst v') w') : wpList P ops Q (o :: rest) a w :=
  wpList_plain hgd fun _ hK => by
    unfold Oper.wp execOp
    simp only [ho, resolve, invoke, builtin, Sem.run_bind, Sem.run_pure, Result.andThen_ok, List.map_toArray, List.map_cons, List.map_nil, hs, hx, hrun]
    exact hK _ _ h

/-- The same behind a guard that lets it run. -/
theorem wpList_append_guarded {P : Program} {w : World} {ops : Array Oper} {rest : List Oper} {o : Oper} {a : Act} {Q : Exit → Act → World → Prop} (hw : Region.wanted o (yielded ops a.tmps) = true) (s x : Operand) (t : TypeId)
    (ho : o.op = .call { callee := .builtin .append, args := #[s, x], argTypes := #[t, t] }) (v1 v2 v' : Value) (w' : World) (hs : a.eval s = v1) (hx : a.eval x = v2)
    (hrun : (Builtin.append_ #[t, t] o.type #[v1, v2]).run P w = .ok v' w') (h : wpList P ops Q rest (a.put o.dst v') w') : wpList P ops Q (o :: rest) a w :=
  wpList_step fun _ hK => by
    rw [if_pos hw]
    unfold Oper.wp execOp
    simp only [ho, resolve, invoke, builtin, Sem.run_bind, Sem.run_pure, Result.andThen_ok, List.map_toArray, List.map_cons, List.map_nil, hs, hx, hrun]
    exact hK _ _ h

/-- Of what was there only blocks from lo up to hi may have turned. -/
structure Only (lo hi : Nat) (w w' : World) : Prop where
  os : w'.os = w.os
  tape : w'.tape = w.tape
  output : w'.output = w.output
  drawn : w.drawn ≤ w'.drawn
  size : w.heap.size ≤ w'.heap.size
  block : ∀ k, k < w.heap.size → k < lo ∨ hi ≤ k → w'.heap[k]? = w.heap[k]?

theorem Only.refl (lo hi : Nat) (w : World) : Only lo hi w w := ⟨rfl, rfl, rfl, Nat.le_refl _, Nat.le_refl _, fun _ _ _ => rfl⟩
theorem Only.trans {lo hi : Nat} {a b c : World} (h : Only lo hi a b) (k : Only lo hi b c) : Only lo hi a c :=
  ⟨k.os.trans h.os, k.tape.trans h.tape, k.output.trans h.output, Nat.le_trans h.drawn k.drawn, Nat.le_trans h.size k.size, fun i hi' ho => (k.block i (Nat.lt_of_lt_of_le hi' h.size) ho).trans (h.block i hi' ho)⟩
theorem Later.only {lo hi : Nat} {a b : World} (h : Later a b) : Only lo hi a b :=
  ⟨h.below.os, h.below.tape, h.below.output, h.drawn, h.size, fun _ hk _ => h.block hk⟩
theorem Only.later {lo hi : Nat} {w0 a b : World} (h : Only lo hi a b) (h0 : Later w0 a) (hl : w0.heap.size ≤ lo) : Later w0 b :=
  Later.of_below ⟨h.os.trans h0.below.os, h.tape.trans h0.below.tape, h.output.trans h0.below.output, Nat.le_trans h0.size h.size, fun k hk => (h.block k (Nat.lt_of_lt_of_le hk h0.size) (Or.inl (by omega))).trans (h0.block hk)⟩ (Nat.le_trans h0.drawn h.drawn)
theorem Only.cell {lo hi : Nat} {a b : World} (h : Only lo hi a b) {p : Addr} (hp : p.block < a.heap.size) (ho : p.block < lo ∨ hi ≤ p.block) : b.cell? p = a.cell? p := World.cell?_of_block (w := a) (h.block _ hp ho)
/-- Behind an append onto a row from lo on. -/
theorem Only.grown {lo hi lo' hi' : Nat} {a b c : World} {row : Option Nat} (h : Only lo hi a b) (hg : b.grownBy c row) (hd : b.drawn ≤ c.drawn) (hr : ∀ k, row = some k → a.heap.size ≤ k) (_ : lo' = lo) (_ : hi' = hi) : Only lo' hi' a c := by
  subst lo' hi'
  exact ⟨hg.os.trans h.os, hg.tape.trans h.tape, hg.output.trans h.output, Nat.le_trans h.drawn hd, Nat.le_trans h.size hg.size,
    fun k hk ho => (hg.block k (Nat.lt_of_lt_of_le hk h.size) (fun e => by have := hr k e.symm; omega)).trans (h.block k hk ho)⟩

/-- A row of facts that a call owns, from block base on; what they are said of lies from base on too, beside the row. -/
def OwnF (w : World) (base : Nat) (v : Value) (l : List FactD) : Prop :=
  ∃ xs, w.ownsRow base 54 2 v l.length xs ∧ ∀ i, i < l.length → xs[i * 2]? = some (.string (l.getD i noFact).1) ∧ ∃ s, xs[i * 2 + 1]? = some s ∧ Strs w s (l.getD i noFact).2 ∧ ∀ k, s.ownBlock = some k → base ≤ k ∧ k < w.heap.size ∧ v.ownBlock ≠ some k

theorem OwnF.nil (w : World) (base : Nat) : OwnF w base (.slice none 0 0) [] := ⟨[], World.ownsRow_nil w base 54 2, fun i hi => by simp at hi⟩

theorem Strs.kept {w w' : World} {s : Value} {l : List ByteArray} (h : Strs w s l) (hs : w.heap.size ≤ w'.heap.size) (hk : ∀ k, s.ownBlock = some k → w'.heap[k]? = w.heap[k]?) : Strs w' s l := by
  obtain ⟨h0, a, cap, rfl, h1⟩ := h
  refine ⟨h0, a, cap, rfl, fun hl => ?_⟩
  obtain ⟨b, off, rfl, hb, hc⟩ := h1 hl
  exact ⟨b, off, rfl, Nat.lt_of_lt_of_le hb hs, fun i hi => by rw [World.cell?_of_block (w := w) (hk b rfl)]; exact hc i hi⟩

theorem Strs.block_lt {w : World} {s : Value} {l : List ByteArray} (h : Strs w s l) (hl : l ≠ []) : ∀ k, s.ownBlock = some k → k < w.heap.size := by
  obtain ⟨h0, a, cap, rfl, h1⟩ := h
  obtain ⟨b, off, rfl, hb, _⟩ := h1 hl
  intro k hk
  simp [Value.ownBlock] at hk
  omega

theorem Strs.nil {w w' : World} {s : Value} (h : Strs w s []) : Strs w' s [] := by
  obtain ⟨h0, a, cap, rfl, _⟩ := h
  exact ⟨h0, a, cap, rfl, fun e => absurd rfl e⟩

theorem Strs.kept' {w w' : World} {s : Value} {l : List ByteArray} (h : Strs w s l) (hs : w.heap.size ≤ w'.heap.size) (hk : ∀ k, k < w.heap.size → s.ownBlock = some k → w'.heap[k]? = w.heap[k]?) : Strs w' s l := by
  by_cases hl : l = []
  · subst hl; exact h.nil
  · exact h.kept hs fun k e => hk k (h.block_lt hl k e) e

theorem OwnF.only {lo hi base : Nat} {w w' : World} {v : Value} {l : List FactD} (h : OwnF w base v l) (k : Only lo hi w w') (hb : hi ≤ base) : OwnF w' base v l := by
  obtain ⟨xs, ho, hx⟩ := h
  refine ⟨xs, ⟨ho.1, ?_⟩, fun i hi' => ?_⟩
  · rcases ho.2 with e | ⟨g, cap, cur, rfl, hbg, hg, r⟩
    · exact Or.inl e
    · exact Or.inr ⟨g, cap, cur, rfl, hbg, by rw [k.block g (Array.getElem?_eq_some_iff.1 hg).1 (Or.inr (by omega))]; exact hg, r⟩
  · obtain ⟨c1, s, c2, c3, c4⟩ := hx i hi'
    exact ⟨c1, s, c2, c3.kept' k.size fun j hj e => k.block j hj (Or.inr (by have := c4 j e; omega)), fun j e => ⟨(c4 j e).1, Nat.lt_of_lt_of_le (c4 j e).2.1 k.size, (c4 j e).2.2⟩⟩

theorem OwnF.later {base : Nat} {w w' : World} {v : Value} {l : List FactD} (h : OwnF w base v l) (k : Later w w') : OwnF w' base v l := h.only (lo := 0) (hi := 0) k.only (Nat.zero_le _)

theorem OwnF.facts {base : Nat} {w : World} {v : Value} {l : List FactD} (h : OwnF w base v l) (hl : l.length ≤ 3518437208883) : Facts w v l := by
  obtain ⟨xs, ho, hx⟩ := h
  rcases ho.2 with ⟨rfl, e⟩ | ⟨g, cap, cur, rfl, hbg, hg, _, _, hcs, htake⟩
  · have : l = [] := List.eq_nil_of_length_eq_zero e
    subst this
    exact ⟨hl, none, 0, rfl, fun e => absurd rfl e⟩
  · refine ⟨hl, _, cap, rfl, fun _ => ⟨g, 0, rfl, (Array.getElem?_eq_some_iff.1 hg).1, fun i hi => ?_⟩⟩
    obtain ⟨c1, s, c2, c3, _⟩ := hx i hi
    have cellOf : ∀ j u, xs[j]? = some u → w.cell? ⟨g, 0 + j, none⟩ = some u := fun j u hu => by
      have := ho.cells (g := g) rfl j u hu
      rwa [Addr.add_lit] at this
    exact ⟨cellOf _ _ c1, s, by rw [Nat.add_assoc]; exact cellOf _ _ c2, c3⟩

/-- One fact more. -/
theorem OwnF.append {base : Nat} {w : World} {v : Value} {l : List FactD} (h : OwnF w base v l) (f : FactD) (s : Value) (hs : Strs w s f.2) (hsb : ∀ k, s.ownBlock = some k → base ≤ k ∧ k < w.heap.size ∧ v.ownBlock ≠ some k) (hl : l.length + 1 ≤ 3518437208883) (hbase : base ≤ w.heap.size) (h1 : s.oneCell' = true) :
    ∃ v' w', (Builtin.append_ #[24, 24] 24 #[v, .slice (some ⟨w.heap.size, 0, none⟩) 1 1]).run Tryz.prog (w.alloc (.cells #[.string f.1, s] 54)) = .ok v' w' ∧ OwnF w' base v' (l ++ [f]) ∧ (w.alloc (.cells #[.string f.1, s] 54)).grownBy w' v.ownBlock ∧ w.drawn ≤ w'.drawn := by
  obtain ⟨xs, ho, hx⟩ := h
  obtain ⟨i, i1, i2, i3, i4⟩ := infoFact
  have hnews : ∀ j u, ([.string f.1, s] : List Value)[j]? = some u → (w.alloc (.cells #[.string f.1, s] 54)).cell? ((⟨w.heap.size, 0, none⟩ : Addr).add j) = some u := by
    intro j u hu
    rw [Addr.add_lit, Nat.zero_add, cell_of_row _ w.heap.size j #[.string f.1, s] 54 (0, 0) (heap_alloc_new w _)]
    simpa using hu
  obtain ⟨v', w', hrun, r1, r2, r3, r4⟩ := append_own (P := Tryz.prog) (w.alloc (.cells #[.string f.1, s] 54)) base 24 24 54 i _ 2 40 Tryz.underlying24 i1 i2 i3 i4 rfl (by omega) v l.length xs (ho.alloc _) ⟨w.heap.size, 0, none⟩ 1 1 [.string f.1, s] rfl hnews
    (by intro u hu; simp at hu; rcases hu with rfl | rfl <;> first | rfl | exact h1) (by simp only [maxLen]; omega) (by omega) (by simp; omega)
  refine ⟨v', w', hrun, ⟨xs ++ [.string f.1, s], by simpa using r1, fun j hj => ?_⟩, r2, r3⟩
  have hxl : xs.length = l.length * 2 := ho.1
  have keep : ∀ {s' : Value} {a : List ByteArray}, Strs w s' a → (∀ k, k < w.heap.size → s'.ownBlock = some k → v.ownBlock ≠ some k) → Strs w' s' a := fun hs' hne =>
    hs'.kept' (Nat.le_trans (by simp) r2.size) fun k hk e => (r2.block k (by simp; omega) (fun e' => hne k hk e e'.symm)).trans (Below.heap_alloc w _ k hk)
  have own' : ∀ k, v'.ownBlock = some k → v.ownBlock = some k ∨ w.heap.size < k := fun k hk => by
    rcases r4 k hk with e | e
    · exact Or.inl e
    · exact Or.inr (by simp at e; omega)
  by_cases hjl : j < l.length
  · obtain ⟨c1, s', c2, c3, c4⟩ := hx j hjl
    have e : (l ++ [f]).getD j noFact = l.getD j noFact := by
      rw [List.getD_eq_getElem?_getD, List.getD_eq_getElem?_getD, List.getElem?_append_left hjl]
    rw [e]
    refine ⟨by rw [List.getElem?_append_left (by omega)]; exact c1, s', by rw [List.getElem?_append_left (by omega)]; exact c2, keep c3 fun k _ e => (c4 k e).2.2, fun k hk => ⟨(c4 k hk).1, by have := (c4 k hk).2.1; have := r2.size; simp at this; omega, fun e => ?_⟩⟩
    rcases own' k e with e' | e'
    · exact (c4 k hk).2.2 e'
    · have := (c4 k hk).2.1; omega
  · have hj' : j = l.length := by simp at hj; omega
    subst hj'
    have e : (l ++ [f]).getD l.length noFact = f := by
      rw [List.getD_eq_getElem?_getD, List.getElem?_append_right (Nat.le_refl _)]; simp
    rw [e]
    refine ⟨by rw [List.getElem?_append_right (by omega), hxl]; simp, s, by rw [List.getElem?_append_right (by omega), hxl]; simp, keep hs fun k _ e => (hsb k e).2.2, fun k hk => ⟨(hsb k hk).1, by have := (hsb k hk).2.1; have := r2.size; simp at this; omega, fun e => ?_⟩⟩
    rcases own' k e with e' | e'
    · exact (hsb k hk).2.2 e'
    · have := hsb k hk; omega

/-- A row of facts of a call's own, from block base on; what they are said of lies ahead of base. -/
def RowF (w : World) (base : Nat) (v : Value) (l : List FactD) : Prop :=
  ∃ xs, w.ownsRow base 54 2 v l.length xs ∧ ∀ i, i < l.length → xs[i * 2]? = some (.string (l.getD i noFact).1) ∧ ∃ s, xs[i * 2 + 1]? = some s ∧ Strs w s (l.getD i noFact).2 ∧ ∀ k, s.ownBlock = some k → (l.getD i noFact).2 ≠ [] → k < base

/-- The cells of a slice of facts. -/
theorem Facts.cells {w : World} {a : Addr} {n cap : Nat} {l : List FactD} (h : Facts w (.slice (some a) n cap) l) :
    ∃ xs : List Value, xs.length = l.length * 2 ∧ (∀ j u, xs[j]? = some u → w.cell? (a.add j) = some u) ∧ (∀ u ∈ xs, u.oneCell' = true) ∧
      ∀ i, i < l.length → xs[i * 2]? = some (.string (l.getD i noFact).1) ∧ ∃ s, xs[i * 2 + 1]? = some s ∧ Strs w s (l.getD i noFact).2 := by
  obtain ⟨h0, a', cap', e, h1⟩ := h
  simp only [Value.slice.injEq] at e
  obtain ⟨rfl, rfl, rfl⟩ := e
  by_cases hl : l = []
  · subst hl
    exact ⟨[], rfl, fun j u h => by simp at h, fun u h => by simp at h, fun i hi => by simp at hi⟩
  · obtain ⟨b, off, e, hb, hc⟩ := h1 hl
    simp only [Option.some.injEq] at e
    subst e
    have hsv : ∀ i : Fin l.length, ∃ s, w.cell? ⟨b, off + i.1 * 2 + 1, none⟩ = some s ∧ Strs w s (l.getD i.1 noFact).2 := fun i => (hc i.1 i.2).2
    have key : ∀ j, j < l.length * 2 → ∃ u, w.cell? ⟨b, off + j, none⟩ = some u ∧ u.oneCell' = true := fun j hj => by
      have h3 := hc (j / 2) (by omega)
      rcases Nat.mod_two_eq_zero_or_one j with hm | hm
      · exact ⟨.string (l.getD (j / 2) noFact).1, by rw [← h3.1, show off + j / 2 * 2 = off + j by omega], rfl⟩
      · obtain ⟨s, c2, c3⟩ := h3.2
        refine ⟨s, by rw [← c2, show off + j / 2 * 2 + 1 = off + j by omega], ?_⟩
        obtain ⟨a, c, rfl⟩ := sliceStr c3
        rfl
    have get : ∀ j, (List.ofFn fun j : Fin (l.length * 2) => Classical.choose (key j.1 j.2))[j]? = if h : j < l.length * 2 then some (Classical.choose (key j h)) else none := fun j => by
      rw [List.getElem?_ofFn]
    refine ⟨List.ofFn fun j : Fin (l.length * 2) => Classical.choose (key j.1 j.2), by simp, fun j u hu => ?_, fun u hu => ?_, fun i hi => ?_⟩
    · rw [get] at hu
      split at hu
      · rename_i hj
        rw [Addr.add_lit, (Classical.choose_spec (key j hj)).1]; exact hu
      · cases hu
    · rw [List.mem_ofFn] at hu
      obtain ⟨j, rfl⟩ := hu
      exact (Classical.choose_spec (key j.1 j.2)).2
    · obtain ⟨c1, s, c2, c3⟩ := hc i hi
      have e0 := (Classical.choose_spec (key (i * 2) (by omega))).1
      have e1 := (Classical.choose_spec (key (i * 2 + 1) (by omega))).1
      refine ⟨?_, s, ?_, c3⟩
      · rw [get, dif_pos (by omega), ← e0]; exact c1
      · rw [get, dif_pos (by omega), ← e1, ← Nat.add_assoc]; exact c2

theorem append_none_facts (w : World) (base : Nat) (v : Value) (n : Nat) (xs : List Value) (cap : Nat) (ho : w.ownsRow base 54 2 v n xs) :
    (Builtin.append_ #[24, 24] 24 #[v, .slice none 0 cap]).run Tryz.prog w = .ok v w := by
  obtain ⟨i, i1, i2, i3, i4⟩ := infoFact
  rcases ho.2 with ⟨rfl, rfl⟩ | ⟨g, c, cur, rfl, _, _, hnc, _⟩
  · simp [Builtin.append_, run_underlying Tryz.underlying24, sizeOf, typeInfo, i1, Builtin.lenOf, Builtin.firstCells]
  · simp [Builtin.append_, run_underlying Tryz.underlying24, sizeOf, typeInfo, i1, Builtin.lenOf, Builtin.firstCells, hnc, storeCells]

/-- Facts that lie in a row of cells; what they are said of was there in w0. -/
def SrcF (w0 w : World) (a : Addr) (m : List FactD) : Prop :=
  ∃ ys : List Value, ys.length = m.length * 2 ∧ (∀ j u, ys[j]? = some u → w.cell? (a.add j) = some u) ∧ (∀ u ∈ ys, u.oneCell' = true) ∧
    ∀ i, i < m.length → ys[i * 2]? = some (.string (m.getD i noFact).1) ∧ ∃ s, ys[i * 2 + 1]? = some s ∧ Strs w0 s (m.getD i noFact).2

theorem SrcF.of {w0 w : World} {a : Addr} {n cap : Nat} {m : List FactD} (hm : Facts w0 (.slice (some a) n cap) m) (hL : Later w0 w) : SrcF w0 w a m := by
  obtain ⟨ys, y1, y2, y3, y4⟩ := hm.cells
  exact ⟨ys, y1, fun j u hu => by
    have hc := y2 j u hu
    rw [hL.cell (World.block_lt_of_cell? w0 _ hc)]; exact hc, y3, y4⟩

/-- append of such facts onto such a row. -/
theorem RowF.appendSrc {w0 w : World} {v : Value} {l m : List FactD} {a : Addr} {cap : Nat} (h : RowF w w0.heap.size v l) (hL : Later w0 w) (hm : SrcF w0 w a m) (hl : l.length + m.length ≤ 3518437208883) :
    ∃ v' w', (Builtin.append_ #[24, 24] 24 #[v, .slice (some a) m.length cap]).run Tryz.prog w = .ok v' w' ∧ RowF w' w0.heap.size v' (l ++ m) ∧ Later w0 w' ∧
      w.grownBy w' v.ownBlock ∧ ∀ k, v'.ownBlock = some k → v.ownBlock = some k ∨ w.heap.size ≤ k := by
  obtain ⟨xs, ho, hx⟩ := h
  obtain ⟨i, i1, i2, i3, i4⟩ := infoFact
  obtain ⟨ys, y1, y2, y3, y4⟩ := hm
  obtain ⟨v', w', hrun, r1, r2, r3, r4⟩ := append_own (P := Tryz.prog) w w0.heap.size 24 24 54 i _ 2 40 Tryz.underlying24 i1 i2 i3 i4 rfl (by omega) v l.length xs ho a m.length cap ys y1 y2 y3 (by simp only [maxLen]; omega) (by omega) hL.size
  have hL' : Later w0 w' := Later.of_below (hL.below.grown r2 hL.size fun k hk => (ho.lt k hk).1) (Nat.le_trans hL.drawn r3)
  refine ⟨v', w', hrun, ⟨xs ++ ys, by rw [List.length_append]; exact r1, fun j hj => ?_⟩, hL', r2, r4⟩
  have hxl : xs.length = l.length * 2 := ho.1
  have keep : ∀ {s : Value} {q : List ByteArray}, Strs w s q → (∀ k, s.ownBlock = some k → q ≠ [] → k < w0.heap.size) → Strs w' s q := fun {s q} hs hk => by
    by_cases hq : q = []
    · subst hq; exact hs.nil
    · exact hs.kept r2.size fun k e => (hL'.block (hk k e hq)).trans (hL.block (hk k e hq)).symm
  by_cases hjl : j < l.length
  · obtain ⟨c1, s', c2, c3, c4⟩ := hx j hjl
    have e : (l ++ m).getD j noFact = l.getD j noFact := by
      rw [List.getD_eq_getElem?_getD, List.getD_eq_getElem?_getD, List.getElem?_append_left hjl]
    rw [e]
    exact ⟨by rw [List.getElem?_append_left (by omega)]; exact c1, s', by rw [List.getElem?_append_left (by omega)]; exact c2, keep c3 c4, c4⟩
  · have hjm : j - l.length < m.length := by simp at hj; omega
    obtain ⟨c1, s', c2, c3⟩ := y4 (j - l.length) hjm
    have e : (l ++ m).getD j noFact = m.getD (j - l.length) noFact := by
      rw [List.getD_eq_getElem?_getD, List.getD_eq_getElem?_getD, List.getElem?_append_right (by omega)]
    rw [e]
    refine ⟨by rw [List.getElem?_append_right (by omega), show j * 2 - xs.length = (j - l.length) * 2 by omega]; exact c1, s', by rw [List.getElem?_append_right (by omega), show j * 2 + 1 - xs.length = (j - l.length) * 2 + 1 by omega]; exact c2, c3.later hL', fun k hk ha => c3.block_lt ha k hk⟩

/-- append of a slice of facts that was there ahead of base onto such a row. -/
theorem RowF.append {w0 w : World} {v : Value} {l m : List FactD} {a : Option Addr} {cap : Nat} (h : RowF w w0.heap.size v l) (hL : Later w0 w) (hm : Facts w0 (.slice a m.length cap) m) (hl : l.length + m.length ≤ 3518437208883) :
    ∃ v' w', (Builtin.append_ #[24, 24] 24 #[v, .slice a m.length cap]).run Tryz.prog w = .ok v' w' ∧ RowF w' w0.heap.size v' (l ++ m) ∧ Later w0 w' ∧
      w.grownBy w' v.ownBlock ∧ ∀ k, v'.ownBlock = some k → v.ownBlock = some k ∨ w.heap.size ≤ k := by
  cases a with
  | none =>
    obtain ⟨xs, ho, hx⟩ := h
    have hm0 : m = [] := by
      obtain ⟨_, a', _, e, h1⟩ := hm
      simp only [Value.slice.injEq] at e
      refine Classical.byContradiction fun hne => ?_
      obtain ⟨b, off, e', _⟩ := h1 hne
      rw [e'] at e; cases e.1
    subst hm0
    refine ⟨v, w, append_none_facts w _ v _ xs cap ho, ?_, hL, ⟨rfl, rfl, rfl, Nat.le_refl _, fun _ _ _ => rfl⟩, fun k hk => Or.inl hk⟩
    rw [List.append_nil]
    exact ⟨xs, ho, hx⟩
  | some a => exact h.appendSrc hL (SrcF.of hm hL) hl

theorem RowF.later {w w' : World} {base : Nat} {v : Value} {l : List FactD} (h : RowF w base v l) (k : Later w w') : RowF w' base v l := by
  obtain ⟨xs, ho, hx⟩ := h
  refine ⟨xs, ⟨ho.1, ?_⟩, fun i hi => ?_⟩
  · rcases ho.2 with e | ⟨g, cap, cur, rfl, hbg, hg, r⟩
    · exact Or.inl e
    · exact Or.inr ⟨g, cap, cur, rfl, hbg, by rw [k.block (Array.getElem?_eq_some_iff.1 hg).1]; exact hg, r⟩
  · obtain ⟨c1, s, c2, c3, c4⟩ := hx i hi
    exact ⟨c1, s, c2, c3.later k, c4⟩

theorem RowF.empty {w : World} {base : Nat} (hb : base ≤ w.heap.size) : RowF (w.alloc (.cells #[] 54)) base (.slice (some ⟨w.heap.size, 0, none⟩) 0 0) [] :=
  ⟨[], World.ownsRow_made w #[] 0 hb (by simp) (by simp), fun i hi => by simp at hi⟩

theorem RowF.nil (w : World) (base : Nat) : RowF w base (.slice none 0 0) [] := ⟨[], World.ownsRow_nil w _ _ _, fun i hi => by simp at hi⟩

/-- One fact in a block of its own. -/
theorem SrcF.one {w0 w : World} {c : Nat} {f : FactD} {s : Value} {t : TypeId} {fr : Nat × Nat} (h : w.heap[c]? = some (.cells #[.string f.1, s] t fr)) (hs : Strs w0 s f.2) : SrcF w0 w ⟨c, 0, none⟩ [f] := by
  refine ⟨[.string f.1, s], rfl, fun j u hu => ?_, fun u hu => ?_, fun i hi => ?_⟩
  · rw [Addr.add_lit, Nat.zero_add, cell_of_row _ _ _ _ _ _ h]; simpa using hu
  · simp at hu
    rcases hu with rfl | rfl
    · rfl
    · obtain ⟨a, c, rfl⟩ := sliceStr hs; rfl
  · have : i = 0 := by simp at hi; omega
    subst this
    exact ⟨rfl, s, rfl, hs⟩

theorem RowF.facts {base : Nat} {w : World} {v : Value} {l : List FactD} (h : RowF w base v l) (hl : l.length ≤ 3518437208883) : Facts w v l := by
  obtain ⟨xs, ho, hx⟩ := h
  rcases ho.2 with ⟨rfl, e⟩ | ⟨g, cap, cur, rfl, hbg, hg, _⟩
  · have : l = [] := List.eq_nil_of_length_eq_zero e
    subst this
    exact ⟨hl, none, 0, rfl, fun e => absurd rfl e⟩
  · refine ⟨hl, _, cap, rfl, fun _ => ⟨g, 0, rfl, (Array.getElem?_eq_some_iff.1 hg).1, fun i hi => ?_⟩⟩
    obtain ⟨c1, s, c2, c3, _⟩ := hx i hi
    have cellOf : ∀ j u, xs[j]? = some u → w.cell? ⟨g, 0 + j, none⟩ = some u := fun j u hu => by
      have := ho.cells (g := g) rfl j u hu
      rwa [Addr.add_lit] at this
    exact ⟨cellOf _ _ c1, s, by rw [Nat.add_assoc]; exact cellOf _ _ c2, c3⟩

/-- The first k, and those behind them. -/
theorem Facts.take {w : World} {a : Option Addr} {n cap : Nat} {l : List FactD} (h : Facts w (.slice a n cap) l) {k : Nat} (hk : k ≤ l.length) : Facts w (.slice a (l.take k).length cap) (l.take k) := by
  obtain ⟨h0, a', cap', e, h1⟩ := h
  simp only [Value.slice.injEq] at e
  obtain ⟨rfl, rfl, rfl⟩ := e
  refine ⟨by rw [List.length_take]; omega, _, _, rfl, fun hne => ?_⟩
  obtain ⟨b, off, e, hb, hc⟩ := h1 (by intro e; apply hne; rw [e]; simp)
  refine ⟨b, off, e, hb, fun i hi => ?_⟩
  rw [List.length_take] at hi
  have e : (l.take k).getD i noFact = l.getD i noFact := by
    rw [List.getD_eq_getElem?_getD, List.getD_eq_getElem?_getD, List.getElem?_take, if_pos (by omega)]
  rw [e]
  exact hc i (by omega)

theorem Facts.drop {w : World} {b off n cap : Nat} {l : List FactD} (h : Facts w (.slice (some ⟨b, off, none⟩) n cap) l) {k : Nat} (hk : k ≤ l.length) (c : Nat) : Facts w (.slice (some ⟨b, off + k * 2, none⟩) (l.drop k).length c) (l.drop k) := by
  obtain ⟨h0, a', cap', e, h1⟩ := h
  simp only [Value.slice.injEq] at e
  obtain ⟨rfl, rfl, rfl⟩ := e
  refine ⟨by rw [List.length_drop]; omega, _, _, rfl, fun hne => ?_⟩
  obtain ⟨b', off', e, hb, hc⟩ := h1 (by intro e; apply hne; rw [e]; simp)
  simp only [Option.some.injEq, Addr.mk.injEq] at e
  obtain ⟨rfl, rfl, _⟩ := e
  refine ⟨b, _, rfl, hb, fun i hi => ?_⟩
  rw [List.length_drop] at hi
  have e : (l.drop k).getD i noFact = l.getD (k + i) noFact := by
    rw [List.getD_eq_getElem?_getD, List.getD_eq_getElem?_getD, List.getElem?_drop]
  rw [e]
  have := hc (k + i) (by omega)
  rw [show off + (k + i) * 2 = off + k * 2 + i * 2 by omega] at this
  exact this

theorem OwnF.base {w : World} {base base' : Nat} {v : Value} {l : List FactD} (h : OwnF w base v l) (hb : base' ≤ base) : OwnF w base' v l := by
  obtain ⟨xs, ho, hx⟩ := h
  refine ⟨xs, ⟨ho.1, ?_⟩, fun i hi => ?_⟩
  · rcases ho.2 with e | ⟨g, cp, cur, e, hg, r⟩
    · exact Or.inl e
    · exact Or.inr ⟨g, cp, cur, e, Nat.le_trans hb hg, r⟩
  · obtain ⟨c1, s, c2, c3, c4⟩ := hx i hi
    exact ⟨c1, s, c2, c3, fun k hk => ⟨Nat.le_trans hb (c4 k hk).1, (c4 k hk).2⟩⟩

end Go.Proofs.YtbohggoeebhdmaaGreatDoor

/- Worlds in which of what was there only one block has turned. -/
namespace Go.Proofs.YtbohggoeebhdmaaGreatDoor
open Go.RowKit Go.Sort

/-- Of what was there only block p may have turned. -/
structure Tn (p : Nat) (w w' : World) : Prop where
  os : w'.os = w.os
  tape : w'.tape = w.tape
  output : w'.output = w.output
  size : w.heap.size ≤ w'.heap.size
  block : ∀ k, k < w.heap.size → k ≠ p → w'.heap[k]? = w.heap[k]?

theorem Tn.refl (p : Nat) (w : World) : Tn p w w := ⟨rfl, rfl, rfl, Nat.le_refl _, fun _ _ _ => rfl⟩
theorem Tn.trans {p : Nat} {a b c : World} (h : Tn p a b) (k : Tn p b c) : Tn p a c :=
  ⟨k.os.trans h.os, k.tape.trans h.tape, k.output.trans h.output, Nat.le_trans h.size k.size, fun i hi ho => (k.block i (Nat.lt_of_lt_of_le hi h.size) ho).trans (h.block i hi ho)⟩
theorem Tn.of_below {p : Nat} {a b : World} (h : Below a.heap.size a b) : Tn p a b := ⟨h.os, h.tape, h.output, h.size, fun k hk _ => h.block k hk⟩
theorem Tn.below {p n : Nat} {a b : World} (h : Tn p a b) (hp : n ≤ p) (hn : n ≤ a.heap.size) : Below n a b :=
  ⟨h.os, h.tape, h.output, h.size, fun k hk => h.block k (by omega) (by omega)⟩
theorem Tn.cell {p : Nat} {a b : World} (h : Tn p a b) {x : Addr} (hx : x.block < a.heap.size) (ho : x.block ≠ p) : b.cell? x = a.cell? x := World.cell?_of_block (w := a) (h.block _ hx ho)
theorem Tn.drewN {p : Nat} {a b : World} (h : Tn p a b) (n : Nat) : Tn p a (b.drewN n) := ⟨h.os, h.tape, h.output, h.size, h.block⟩
theorem Tn.drew {p : Nat} {a b : World} (h : Tn p a b) : Tn p a b.drew := ⟨h.os, h.tape, h.output, h.size, h.block⟩
theorem Tn.alloc {p : Nat} {a b : World} (h : Tn p a b) (o : Obj) : Tn p a (b.alloc o) :=
  h.trans (Tn.of_below (((Later.refl b).alloc o).below))
theorem heap_setCell_other (w : World) (x : Addr) (v : Value) {k : Nat} (h : k ≠ x.block) : (w.setCell x v).heap[k]? = w.heap[k]? := by
  simp only [World.setCell, Array.getElem?_modify]
  rw [if_neg (fun e => h e.symm)]
theorem size_setCell (w : World) (x : Addr) (v : Value) : (w.setCell x v).heap.size = w.heap.size := by simp [World.setCell]
theorem Tn.setCell {p : Nat} {a b : World} (h : Tn p a b) {x : Addr} (hx : x.block = p ∨ a.heap.size ≤ x.block) (v : Value) : Tn p a (b.setCell x v) :=
  ⟨h.os, h.tape, h.output, by rw [size_setCell]; exact h.size, fun k hk ho => by rw [heap_setCell_other _ _ _ (by rcases hx with e | e <;> omega)]; exact h.block k hk ho⟩

end Go.Proofs.YtbohggoeebhdmaaGreatDoor

/- How elements lie in cells, and lists of them; rows of a call's own, appended to. Nothing of the program. -/
namespace Go.Proofs.YtbohggoeebhdmaaGreatDoor
open Go.RowKit Go.Sort

theorem below_trans {n m : Nat} {a b c : World} (h : Below n a b) (k : Below m b c) (hm : n ≤ m := by omega) : Below n a c :=
  ⟨k.os.trans h.os, k.tape.trans h.tape, k.output.trans h.output, Nat.le_trans h.size k.size, fun i hi => (k.block i (Nat.lt_of_lt_of_le hi hm)).trans (h.block i hi)⟩

/-- How an element lies in its cells; B: where what it leads to may lie. -/
structure Kind (α : Type) where
  size : Nat
  is : (Nat → Prop) → World → List Value → α → Prop
  len : ∀ {B : Nat → Prop} {w : World} {c : List Value} {a : α}, is B w c a → c.length = size
  one : ∀ {B : Nat → Prop} {w : World} {c : List Value} {a : α}, is B w c a → ∀ u ∈ c, u.oneCell' = true
  kept : ∀ {B : Nat → Prop} {w w' : World} {c : List Value} {a : α}, is B w c a → w.heap.size ≤ w'.heap.size → (∀ k, k < w.heap.size → B k → w'.heap[k]? = w.heap[k]?) → is B w' c a
  mono : ∀ {B B' : Nat → Prop} {w : World} {c : List Value} {a : α}, is B w c a → (∀ k, k < w.heap.size → B k → B' k) → is B' w c a

variable {α : Type}

/-- No longer than its room. -/
def lenOk : Value → Prop
  | .slice _ n c => n ≤ c
  | _ => True

/-- A slice of such elements. -/
def Kind.sl (K : Kind α) (B : Nat → Prop) (w : World) (v : Value) (l : List α) : Prop :=
  (l.length ≤ 8796093022208 ∧ lenOk v) ∧ ∃ a cap, v = .slice a l.length cap ∧ (l ≠ [] → ∃ b off, a = some ⟨b, off, none⟩ ∧ B b ∧ b < w.heap.size ∧
    ∀ i x, l[i]? = some x → ∃ c, K.is B w c x ∧ ∀ j u, c[j]? = some u → w.cell? ⟨b, off + i * K.size + j, none⟩ = some u)

theorem Kind.sl_nil (K : Kind α) (B : Nat → Prop) (w : World) (a : Option Addr) (cap : Nat) : K.sl B w (.slice a 0 cap) [] := ⟨⟨by simp, Nat.zero_le _⟩, a, cap, rfl, fun h => absurd rfl h⟩

theorem Kind.sl_kept {K : Kind α} {B : Nat → Prop} {w w' : World} {v : Value} {l : List α} (h : K.sl B w v l) (hs : w.heap.size ≤ w'.heap.size) (hk : ∀ k, k < w.heap.size → B k → w'.heap[k]? = w.heap[k]?) : K.sl B w' v l := by
  obtain ⟨h0, a, cap, rfl, h1⟩ := h
  refine ⟨h0, a, cap, rfl, fun hl => ?_⟩
  obtain ⟨b, off, rfl, hB, hb, hc⟩ := h1 hl
  refine ⟨b, off, rfl, hB, Nat.lt_of_lt_of_le hb hs, fun i x hx => ?_⟩
  obtain ⟨c, c1, c2⟩ := hc i x hx
  exact ⟨c, K.kept c1 hs hk, fun j u hu => by rw [World.cell?_of_block (w := w) (hk b hb hB)]; exact c2 j u hu⟩

theorem Kind.sl_mono {K : Kind α} {B B' : Nat → Prop} {w : World} {v : Value} {l : List α} (h : K.sl B w v l) (hk : ∀ k, k < w.heap.size → B k → B' k) : K.sl B' w v l := by
  obtain ⟨h0, a, cap, rfl, h1⟩ := h
  refine ⟨h0, a, cap, rfl, fun hl => ?_⟩
  obtain ⟨b, off, rfl, hB, hb, hc⟩ := h1 hl
  refine ⟨b, off, rfl, hk b hb hB, hb, fun i x hx => ?_⟩
  obtain ⟨c, c1, c2⟩ := hc i x hx
  exact ⟨c, K.mono c1 hk, c2⟩

theorem Kind.slice {K : Kind α} {B : Nat → Prop} {w : World} {v : Value} {l : List α} (h : K.sl B w v l) : ∃ a cap, v = .slice a l.length cap := by
  obtain ⟨_, a, cap, rfl, _⟩ := h; exact ⟨a, cap, rfl⟩

/-- From lo on. -/
abbrev From (lo : Nat) : Nat → Prop := fun k => lo ≤ k

theorem Kind.sl_turned {K : Kind α} {p lo : Nat} {w w' : World} {v : Value} {l : List α} (h : K.sl (From lo) w v l) (k : Tn p w w') (hp : p < lo) : K.sl (From lo) w' v l :=
  Kind.sl_kept h k.size fun i hi hB => k.block i hi (by have : lo ≤ i := hB; omega)
theorem Kind.is_turned (K : Kind α) {p lo : Nat} {w w' : World} {c : List Value} {a : α} (h : K.is (From lo) w c a) (k : Tn p w w') (hp : p < lo) : K.is (From lo) w' c a :=
  K.kept h k.size fun i hi hB => k.block i hi (by have : lo ≤ i := hB; omega)

/-- A row of such elements that a call owns. -/
def Kind.own (K : Kind α) (ty : TypeId) (lo : Nat) (w : World) (v : Value) (l : List α) : Prop :=
  ∃ xs, w.ownsRow lo ty K.size v l.length xs ∧ ∀ i x, l[i]? = some x → ∃ c, K.is (fun k => lo ≤ k ∧ v.ownBlock ≠ some k) w c x ∧ ∀ j u, c[j]? = some u → xs[i * K.size + j]? = some u

theorem Kind.own_nil (K : Kind α) (ty : TypeId) (lo : Nat) (w : World) : K.own ty lo w (.slice none 0 0) [] := ⟨[], World.ownsRow_nil w lo ty K.size, fun i x h => by simp at h⟩

theorem Kind.own_turned {K : Kind α} {ty : TypeId} {p lo : Nat} {w w' : World} {v : Value} {l : List α} (h : K.own ty lo w v l) (k : Tn p w w') (hp : p < lo) : K.own ty lo w' v l := by
  obtain ⟨xs, ho, hx⟩ := h
  refine ⟨xs, ⟨ho.1, ?_⟩, fun i x hi => ?_⟩
  · rcases ho.2 with e | ⟨g, cap, cur, rfl, hbg, hg, r⟩
    · exact Or.inl e
    · exact Or.inr ⟨g, cap, cur, rfl, hbg, by rw [k.block g (Array.getElem?_eq_some_iff.1 hg).1 (by omega)]; exact hg, r⟩
  · obtain ⟨c, c1, c2⟩ := hx i x hi
    exact ⟨c, K.kept c1 k.size fun j hj hB => k.block j hj (by have := hB.1; omega), c2⟩

theorem Kind.own_lt {K : Kind α} {ty : TypeId} {lo : Nat} {w : World} {v : Value} {l : List α} (h : K.own ty lo w v l) {k : Nat} (hk : v.ownBlock = some k) : lo ≤ k ∧ k < w.heap.size := by
  obtain ⟨xs, ho, _⟩ := h; exact ho.lt k hk

theorem Kind.own_slice {K : Kind α} {ty : TypeId} {lo : Nat} {w : World} {v : Value} {l : List α} (h : K.own ty lo w v l) : ∃ a cap, v = .slice a l.length cap := by
  obtain ⟨xs, ho, _⟩ := h
  rcases ho.2 with ⟨rfl, e⟩ | ⟨g, cap, cur, rfl, _⟩
  · exact ⟨none, 0, by rw [e]⟩
  · exact ⟨_, cap, rfl⟩

theorem Kind.own_sl {K : Kind α} {ty : TypeId} {lo : Nat} {w : World} {v : Value} {l : List α} (h : K.own ty lo w v l) (hl : l.length ≤ 8796093022208) : K.sl (From lo) w v l := by
  obtain ⟨xs, ho, hx⟩ := h
  rcases ho.2 with ⟨rfl, e⟩ | ⟨g, cap, cur, rfl, hbg, hg, hnc, _⟩
  · have : l = [] := List.eq_nil_of_length_eq_zero e
    subst this
    exact K.sl_nil _ _ _ _
  · refine ⟨⟨hl, hnc⟩, _, cap, rfl, fun _ => ⟨g, 0, rfl, hbg, (Array.getElem?_eq_some_iff.1 hg).1, fun i x hi => ?_⟩⟩
    obtain ⟨c, c1, c2⟩ := hx i x hi
    refine ⟨c, K.mono c1 fun k _ h => h.1, fun j u hu => ?_⟩
    have := ho.cells (g := g) rfl _ u (c2 j u hu)
    rw [Addr.add_lit] at this
    rw [Nat.add_assoc]; exact this

/-- A row of one, made. -/
theorem Kind.own_one {K : Kind α} {ty : TypeId} {lo : Nat} {w : World} {c : List Value} {x : α} (hc : K.is (From lo) w c x) (hlo : lo ≤ w.heap.size) : K.own ty lo (w.alloc (.cells c.toArray ty)) (.slice (some ⟨w.heap.size, 0, none⟩) 1 1) [x] := by
  refine ⟨c, ?_, fun i y hi => ?_⟩
  · refine ⟨by rw [K.len hc]; simp, Or.inr ⟨w.heap.size, 1, c.toArray, rfl, hlo, ?_, by simp, by simp [maxLen], by simp [K.len hc], by have := K.len hc; simp [← this]⟩⟩
    exact heap_alloc_new w _
  · cases i with
    | zero =>
      simp at hi
      subst hi
      refine ⟨c, K.kept (K.mono hc fun k hk h => ⟨h, by simp [Value.ownBlock]; omega⟩) (by simp) fun k hk _ => Below.heap_alloc w _ k hk, fun j u hu => by rw [Nat.zero_mul, Nat.zero_add]; exact hu⟩
    | succ i => simp at hi

/-- append of one element more, in a block of its own. -/
theorem Kind.own_append {P : Program} {K : Kind α} {t ty : TypeId} {lo bytes : Nat} {w : World} {v : Value} {l : List α} (h : K.own ty lo w v l) {i : TypeInfo} {z : Value}
    (ht : P.underlying t = some (.slice ty)) (hi : P.info? ty = some i) (hz : i.zero = some z) (hsize : i.size = K.size) (hby : i.bytes = bytes) (hzs : z.cells.size = K.size) (hsz : 0 < K.size) (hb : bytes ≤ 100)
    {c : List Value} {x : α} (hc : K.is (fun k => lo ≤ k ∧ v.ownBlock ≠ some k) w c x) (hl : l.length + 1 ≤ 1099511627776) (hlo : lo ≤ w.heap.size) :
    ∃ v' w', (Builtin.append_ #[t, t] t #[v, .slice (some ⟨w.heap.size, 0, none⟩) 1 1]).run P (w.alloc (.cells c.toArray ty)) = .ok v' w' ∧ K.own ty lo w' v' (l ++ [x]) ∧ (w.alloc (.cells c.toArray ty)).grownBy w' v.ownBlock := by
  obtain ⟨xs, ho, hx⟩ := h
  have hcl := K.len hc
  have hnews : ∀ j u, c[j]? = some u → (w.alloc (.cells c.toArray ty)).cell? ((⟨w.heap.size, 0, none⟩ : Addr).add j) = some u := by
    intro j u hu
    rw [Addr.add_lit, Nat.zero_add, cell_of_row _ w.heap.size j c.toArray ty (0, 0) (heap_alloc_new w _)]
    simpa using hu
  obtain ⟨v', w', hrun, r1, r2, r3, r4⟩ := append_own (P := P) (w.alloc (.cells c.toArray ty)) lo t t ty i z K.size bytes ht hi hz hsize hby hzs hsz v l.length xs (ho.alloc _) ⟨w.heap.size, 0, none⟩ 1 1 c (by rw [hcl]; simp) hnews
    (K.one hc) (by simp only [maxLen]; omega) (Nat.le_trans (Nat.mul_le_mul hl hb) (by omega)) (by simp; omega)
  have hxl : xs.length = l.length * K.size := ho.1
  have own' : ∀ k, k < w.heap.size → v'.ownBlock = some k → v.ownBlock = some k := fun k hk e => by
    rcases r4 k e with e | e
    · exact e
    · simp at e; omega
  have keep : ∀ k, k < w.heap.size → (lo ≤ k ∧ v.ownBlock ≠ some k) → w'.heap[k]? = w.heap[k]? := fun k hk hB =>
    (r2.block k (by simp; omega) (fun e => hB.2 e.symm)).trans (Below.heap_alloc w _ k hk)
  have hsz' : w.heap.size ≤ w'.heap.size := Nat.le_trans (by simp) r2.size
  have move : ∀ {c : List Value} {y : α}, K.is (fun k => lo ≤ k ∧ v.ownBlock ≠ some k) w c y → K.is (fun k => lo ≤ k ∧ v'.ownBlock ≠ some k) w' c y := fun {c y} hy =>
    K.kept (K.mono hy fun k hk hB => (⟨⟨hB.1, fun e => hB.2 (own' k hk e)⟩, hB⟩ : (lo ≤ k ∧ v'.ownBlock ≠ some k) ∧ (lo ≤ k ∧ v.ownBlock ≠ some k))) hsz' (fun k hk hB => keep k hk hB.2) |> fun h => K.mono h fun _ _ hB => hB.1
  refine ⟨v', w', hrun, ⟨xs ++ c, by simpa using r1, fun j y hj => ?_⟩, r2⟩
  by_cases hjl : j < l.length
  · rw [List.getElem?_append_left hjl] at hj
    obtain ⟨d, d1, d2⟩ := hx j y hj
    refine ⟨d, move d1, fun q u hu => ?_⟩
    have := d2 q u hu
    rw [List.getElem?_append_left (List.getElem?_eq_some_iff.1 this).1]; exact this
  · rw [List.getElem?_append_right (by omega)] at hj
    have hj' : j = l.length := by
      have := (List.getElem?_eq_some_iff.1 hj).1
      simp at this; omega
    subst hj'
    simp at hj
    subst hj
    refine ⟨c, move hc, fun q u hu => ?_⟩
    rw [List.getElem?_append_right (by omega), hxl, Nat.add_sub_cancel_left]; exact hu

/-- A term lies in two cells. -/
def termK : Kind TermD where
  size := 2
  is := fun _ _ c t => c = [.bool t.1, .string (bs t.2)]
  len := fun h => by subst h; rfl
  one := fun h u hu => by subst h; simp at hu; rcases hu with rfl | rfl <;> rfl
  kept := fun h _ _ => h
  mono := fun h _ => h

/-- A text lies in one. -/
def strK : Kind Bs where
  size := 1
  is := fun _ _ c t => c = [.string (bs t)]
  len := fun h => by subst h; rfl
  one := fun h u hu => by subst h; simp at hu; subst hu; rfl
  kept := fun h _ _ => h
  mono := fun h _ => h

/-- An atom lies in three. -/
def atomK : Kind AtomD where
  size := 3
  is := fun B w c a => ∃ v, c = [.bool a.no, .string (bs a.name), v] ∧ termK.sl B w v a.terms
  len := fun ⟨v, h, _⟩ => by subst h; rfl
  one := fun ⟨v, h, hs⟩ u hu => by
    subst h
    obtain ⟨a, cap, rfl⟩ := Kind.slice hs
    simp at hu; rcases hu with rfl | rfl | rfl <;> rfl
  kept := fun ⟨v, h, hs⟩ h1 h2 => ⟨v, h, Kind.sl_kept hs h1 h2⟩
  mono := fun ⟨v, h, hs⟩ h1 => ⟨v, h, Kind.sl_mono hs h1⟩

/-- A rule lies in four. -/
def ruleK : Kind RuleD where
  size := 4
  is := fun B w c a => ∃ v u, c = [.bool a.head.no, .string (bs a.head.name), v, u] ∧ termK.sl B w v a.head.terms ∧ atomK.sl B w u a.body
  len := fun ⟨v, u, h, _, _⟩ => by subst h; rfl
  one := fun ⟨v, x, h, hs, hb⟩ u hu => by
    subst h
    obtain ⟨a, cap, rfl⟩ := Kind.slice hs
    obtain ⟨a, cap, rfl⟩ := Kind.slice hb
    simp at hu; rcases hu with rfl | rfl | rfl | rfl <;> rfl
  kept := fun ⟨v, u, h, hs, hb⟩ h1 h2 => ⟨v, u, h, Kind.sl_kept hs h1 h2, Kind.sl_kept hb h1 h2⟩
  mono := fun ⟨v, u, h, hs, hb⟩ h1 => ⟨v, u, h, Kind.sl_mono hs h1, Kind.sl_mono hb h1⟩

/-- An element as a value, what it leads to lying from lo on. -/
def Kind.val (K : Kind α) (lo : Nat) (w : World) (v : Value) (a : α) : Prop := ∃ c, v = .agg c.toArray ∧ K.is (From lo) w c a

/-- An element's cells. -/
theorem Kind.sl_at {α : Type} {K : Kind α} {B : Nat → Prop} {w : World} {a : Option Addr} {n cap i : Nat} {l : List α} {x : α} (h : K.sl B w (.slice a n cap) l) (hi : l[i]? = some x) :
    ∃ b off c, a = some ⟨b, off, none⟩ ∧ b < w.heap.size ∧ K.is B w c x ∧ ∀ j u, c[j]? = some u → w.cell? ⟨b, off + i * K.size + j, none⟩ = some u := by
  obtain ⟨_, a', cap', e, h1⟩ := h
  simp only [Value.slice.injEq] at e
  obtain ⟨rfl, _, _⟩ := e
  obtain ⟨b, off, rfl, _, hb, hc⟩ := h1 (by intro e; rw [e] at hi; simp at hi)
  obtain ⟨c, c1, c2⟩ := hc i x hi
  exact ⟨b, off, c, rfl, hb, c1, c2⟩

/-- Anywhere. -/
abbrev Anyw : Nat → Prop := fun _ => True
theorem Kind.sl_any {α : Type} {K : Kind α} {B : Nat → Prop} {w : World} {v : Value} {l : List α} (h : K.sl B w v l) : K.sl Anyw w v l := Kind.sl_mono h fun _ _ _ => trivial
theorem Kind.sl_later {α : Type} {K : Kind α} {w w' : World} {v : Value} {l : List α} (h : K.sl Anyw w v l) (k : Later w w') : K.sl Anyw w' v l := Kind.sl_kept h k.size fun _ hi _ => k.block hi
theorem Kind.sl_below {α : Type} {K : Kind α} {w w' : World} {v : Value} {l : List α} (h : K.sl Anyw w v l) (k : Below w.heap.size w w') : K.sl Anyw w' v l := Kind.sl_kept h k.size fun i hi _ => k.block i hi

end Go.Proofs.YtbohggoeebhdmaaGreatDoor

/- Builder's writers, laid by hand (the kit's command lays neither here), a builder's bytes, and what tells a fact apart. -/
namespace Go.Proofs.YtbohggoeebhdmaaGreatDoor
open Go.RowKit Go.Sort Go.Shelf

def bldRen : Go.Shelf.Ren := ⟨fun | 166 => 117 | 167 => 119 | 240 => 146 | 276 => 170 | n => n, fun | 0 => 0 | 3 => 3 | 4 => 4 | 5 => 5 | 9 => 9 | 20 => 20 | 37 => 154 | 70 => 153 | 72 => 156 | 75 => 158 | 80 => 164 | 164 => 213 | n => n, fun | n => n⟩

theorem laysWS : Go.Proofs.Lays.n166 Tryz.prog bldRen := {
  mixed := by kernel_rfl
  f166 := Tryz.func117.trans (congrArg some (by kernel_rfl))
  f240 := Tryz.func146.trans (congrArg some (by kernel_rfl))
  f276 := Tryz.func170.trans (congrArg some (by kernel_rfl))
  t0 := Tryz.underlying0
  a0 := Tryz.isAgg0
  z0 := Tryz.sizeOf0
  v0 := Tryz.zeroValue0
  t3 := Tryz.underlying3
  a3 := Tryz.isAgg3
  z3 := Tryz.sizeOf3
  v3 := Tryz.zeroValue3
  t4 := Tryz.underlying4
  a4 := Tryz.isAgg4
  z4 := Tryz.sizeOf4
  v4 := Tryz.zeroValue4
  t9 := Tryz.underlying9
  a9 := Tryz.isAgg9
  z9 := Tryz.sizeOf9
  v9 := Tryz.zeroValue9
  t20 := Tryz.underlying20
  a20 := Tryz.isAgg20
  z20 := Tryz.sizeOf20
  v20 := Tryz.zeroValue20
  t37 := Tryz.underlying154
  a37 := Tryz.isAgg154
  z37 := Tryz.sizeOf154
  v37 := Tryz.zeroValue154
  t70 := Tryz.underlying153
  a70 := Tryz.isAgg153
  z70 := Tryz.sizeOf153
  v70 := Tryz.zeroValue153
  t72 := Tryz.underlying156
  a72 := Tryz.isAgg156
  z72 := Tryz.sizeOf156
  v72 := Tryz.zeroValue156
  t75 := Tryz.underlying158
  a75 := Tryz.isAgg158
  z75 := Tryz.sizeOf158
  v75 := Tryz.zeroValue158
  t164 := Tryz.underlying213
  a164 := Tryz.isAgg213
  z164 := Tryz.sizeOf213
  v164 := Tryz.zeroValue213 }

theorem laysWB : Go.Proofs.Lays.n167 Tryz.prog bldRen := {
  mixed := by kernel_rfl
  f167 := Tryz.func119.trans (congrArg some (by kernel_rfl))
  f240 := Tryz.func146.trans (congrArg some (by kernel_rfl))
  f276 := Tryz.func170.trans (congrArg some (by kernel_rfl))
  t0 := Tryz.underlying0
  a0 := Tryz.isAgg0
  z0 := Tryz.sizeOf0
  v0 := Tryz.zeroValue0
  t4 := Tryz.underlying4
  a4 := Tryz.isAgg4
  z4 := Tryz.sizeOf4
  v4 := Tryz.zeroValue4
  t5 := Tryz.underlying5
  a5 := Tryz.isAgg5
  z5 := Tryz.sizeOf5
  v5 := Tryz.zeroValue5
  t9 := Tryz.underlying9
  a9 := Tryz.isAgg9
  z9 := Tryz.sizeOf9
  v9 := Tryz.zeroValue9
  t20 := Tryz.underlying20
  a20 := Tryz.isAgg20
  z20 := Tryz.sizeOf20
  v20 := Tryz.zeroValue20
  t37 := Tryz.underlying154
  a37 := Tryz.isAgg154
  z37 := Tryz.sizeOf154
  v37 := Tryz.zeroValue154
  t70 := Tryz.underlying153
  a70 := Tryz.isAgg153
  z70 := Tryz.sizeOf153
  v70 := Tryz.zeroValue153
  t72 := Tryz.underlying156
  a72 := Tryz.isAgg156
  z72 := Tryz.sizeOf156
  v72 := Tryz.zeroValue156
  t75 := Tryz.underlying158
  a75 := Tryz.isAgg158
  z75 := Tryz.sizeOf158
  v75 := Tryz.zeroValue158
  t164 := Tryz.underlying213
  a164 := Tryz.isAgg213
  z164 := Tryz.sizeOf213
  v164 := Tryz.zeroValue213 }

theorem bldExtra : Builder.Extra Tryz.prog bldRen := {
  sizeBuilder := by kernel_rfl
  liesBuilder := by kernel_rfl
  t5 := Tryz.underlying5
  a5 := Tryz.isAgg5
  z5 := Tryz.sizeOf5
  v5 := Tryz.zeroValue5
  infoByte := by kernel_rfl
  cellsByte := by kernel_rfl
  sizeByte := by kernel_rfl
  neB5 := by decide }

/-- A builder from block B on that holds these bytes. -/
def BldN (B : Nat) (l : Bs) (w : World) : Prop := Lib.IsBuilderF 156 5 B B (Lib.byteCells l) w

theorem BldN.new (w : World) : BldN w.heap.size [] (w.alloc (.cells #[.pointer none, .slice none 0 0] 156)) :=
  Lib.IsBuilderF.of (Or.inl ⟨Nat.le_refl _, .slice none 0 0, heap_alloc_new w _, World.ownsRow_nil _ _ _ _, by simp [Value.ownBlock]⟩)

theorem BldN.lt {B : Nat} {l : Bs} {w : World} (h : BldN B l w) : B < w.heap.size := h.elim Lib.BuilderAtF.lt Lib.BuilderAtF.lt
theorem BldN.drewN {B : Nat} {l : Bs} {w : World} (h : BldN B l w) (q : Nat) : BldN B l (w.drewN q) := h

theorem writeS (B : Nat) (l x : Bs) (w : World) (h : BldN B l w) (hlen : l.length + x.length ≤ 140737488355328) :
    Calls Tryz.prog 117 #[.pointer (some ⟨B, 0, none⟩), .string (bs x)] w fun e w' => e = .returned (.tuple #[.int .i64 x.length, .nilIface]) ∧ BldN B (l ++ x) w' ∧ Below B w w' ∧ Lib.OthersKept 5 (some B) w w' := by
  refine (Any.Builder_WriteString_k laysWS bldExtra B B _ (bs x) w h (by rw [Lib.byteCells_length, size_bs]; exact hlen) (Nat.le_of_lt h.lt)).mono ?_
  rintro e w' ⟨rfl, h1, h2, h3⟩
  refine ⟨by rw [size_bs], Or.inr ?_, h2, h3⟩
  rw [Lib.byteCells_append]
  have : Lib.strCells (bs x) = Lib.byteCells x := rfl
  rw [← this]; exact h1

theorem writeB (B : Nat) (l : Bs) (c : UInt8) (w : World) (h : BldN B l w) (hlen : l.length + 1 ≤ 140737488355328) :
    Calls Tryz.prog 119 #[.pointer (some ⟨B, 0, none⟩), .int .u8 c.toNat] w fun e w' => e = .returned .nilIface ∧ BldN B (l ++ [c]) w' ∧ Below B w w' ∧ Lib.OthersKept 5 (some B) w w' := by
  refine (Any.Builder_WriteByte_k laysWB bldExtra B B _ c.toNat w h (by rw [Lib.byteCells_length]; exact hlen) (Nat.le_of_lt h.lt)).mono ?_
  rintro e w' ⟨rfl, h1, h2, h3⟩
  refine ⟨rfl, Or.inr ?_, h2, h3⟩
  rw [Lib.byteCells_append]
  have : [Value.int .u8 (c.toNat : Int)] = Lib.byteCells [c] := rfl
  rw [← this]; exact h1

theorem stringS (B : Nat) (l : Bs) (w : World) (h : BldN B l w) :
    Calls Tryz.prog 120 #[.pointer (some ⟨B, 0, none⟩)] w fun e w' => e = .returned (.string (bs l)) ∧ Below B w w' := by
  refine (Tryz.Builder_String_any_k B B l w h (Nat.le_of_lt h.lt)).mono ?_
  rintro e w' ⟨rfl, h1, h2, h3⟩
  exact ⟨rfl, h2⟩

set_option maxHeartbeats 1000000 in
theorem apart1 (B : Nat) (l s : Bs) (w : World) (h : BldN B l w) (hs : s.length < 100) (hl : l.length ≤ 1000000) :
    Calls Tryz.prog 116 #[.string (bs s), .pointer (some ⟨B, 0, none⟩)] w fun e w' => (∃ v, e = .returned v) ∧ BldN B (l ++ partK s) w' ∧ Below B w w' ∧ Lib.OthersKept 5 (some B) w w' := by
  have hd : (Lib.decDigits s.length).length ≤ 2 := by
    by_cases h1 : s.length < 10
    · rw [Lib.decDigits_one h1]; simp
    · rw [Lib.decDigits_two h1 hs]; simp
  have HI : Hid (∀ w, Calls Tryz.prog 118 #[.int .i64 (s.length : Nat)] w fun e w' => e = .returned (.string (bs (Lib.decDigits s.length))) ∧ w' = w) := fun w => Tryz.strconv_Itoa_small s.length hs w
  have H1 := hide (writeS B l (Lib.decDigits s.length) w h (by omega))
  have hz : (bs s).size = s.length := size_bs s
  go_enter Tryz.func116, Tryz.ntmps116
  go_wp2_with fail
  refine (HI.out _).mono ?_
  rintro e w1 ⟨rfl, rfl⟩
  go_wp2_with fail
  refine H1.out.mono ?_
  rintro e w2 ⟨rfl, hB2, hb2, ho2⟩
  have H2 := hide (writeB B _ 32 w2 hB2 (by rw [List.length_append]; omega))
  have Hb2 := hide hb2
  have Ho2 := hide ho2
  clear hB2 hb2 ho2
  go_wp2_with fail
  refine H2.out.mono ?_
  rintro e w3 ⟨rfl, hB3, hb3, ho3⟩
  have H3 := hide (writeS B _ s w3 hB3 (by rw [List.length_append, List.length_append, List.length_singleton]; omega))
  have Hb3 := hide hb3
  have Ho3 := hide ho3
  clear hB3 hb3 ho3
  go_wp2_with fail
  refine H3.out.mono ?_
  rintro e w4 ⟨rfl, hB4, hb4, ho4⟩
  have HB4 := hide hB4
  have Hb4 := hide hb4
  have Ho4 := hide ho4
  clear hB4 hb4 ho4
  go_wp2
  go_end0
  refine ⟨⟨_, rfl⟩, ?_, (Hb2.out.trans Hb3.out).trans Hb4.out, (Ho2.out.trans Ho3.out).trans Ho4.out⟩
  have e : l ++ partK s = l ++ Lib.decDigits s.length ++ [32] ++ s := by simp [partK]
  rw [e]; exact HB4.out

/-- A fact of few and short texts. -/
def ShortF (f : FactB) : Prop := f.1.size < 100 ∧ f.2.length ≤ 4 ∧ ∀ s ∈ f.2, s.size < 100

theorem partK_len {s : Bs} (h : s.length < 100) : (partK s).length ≤ 102 := by
  have hd : (Lib.decDigits s.length).length ≤ 2 := by
    by_cases h1 : s.length < 10
    · rw [Lib.decDigits_one h1]; simp
    · rw [Lib.decDigits_two h1 h]; simp
  unfold partK
  rw [List.length_append, List.length_cons]; omega
theorem partsK_len : ∀ {l : List ByteArray}, (∀ s ∈ l, s.size < 100) → (partsK l).length ≤ 102 * l.length
  | [], _ => by simp [partsK]
  | s :: l, h => by
    have h1 := partsK_len (l := l) fun t ht => h t (by simp [ht])
    have h2 := partK_len (s := raw s) (by rw [length_raw]; exact h s (by simp))
    simp only [partsK, List.length_append, List.length_cons]; omega
theorem keyF_len {f : FactB} (h : ShortF f) : (keyF f).length ≤ 510 := by
  have := partsK_len (l := f.1 :: f.2) (fun s hs => (List.mem_cons.1 hs).elim (fun e => e ▸ h.1) (h.2.2 s))
  have := h.2.1
  simp only [List.length_cons] at *
  unfold keyF; omega

theorem enters_apart1 : ∀ args w, (callFunc 116 args).run Tryz.prog w = .ok (.enter 116 args) w := enters_of Tryz.func116 (by kernel_rfl) rfl

set_option maxHeartbeats 1000000 in
theorem apartC (v : Value) (f : FactB) (w : World) (hv : FactV w v f) (hs : ShortF f) :
    Calls Tryz.prog 76 #[v] w fun e w' => e = .returned (.string (bs (keyF f))) ∧ Below w.heap.size w w' := by
  obtain ⟨u, rfl, hu⟩ := hv
  obtain ⟨n, args⟩ := f
  obtain ⟨a, cap, rfl⟩ := sliceStr hu
  dsimp only at *
  have HU := hide hu
  have hl := hs.2.1
  dsimp only at hl
  obtain ⟨w1, hw1⟩ : ∃ w1, w1 = (w.alloc (.cells #[.string n, .slice a args.length cap] 54)).alloc (.cells #[.pointer none, .slice none 0 0] 156) := ⟨_, rfl⟩
  have hB1 : BldN (w.heap.size + 1) [] w1 := by
    rw [hw1]; have := BldN.new (w.alloc (.cells #[.string n, .slice a args.length cap] 54)); simpa using this
  have hL1 : Later w w1 := by rw [hw1]; exact ((Later.refl w).alloc _).alloc _
  have hA1 : w1.heap[w.heap.size]? = some (.cells #[.string n, .slice a args.length cap] 54 (0, 0)) := by
    rw [hw1, Below.heap_alloc _ _ _ (by simp)]; exact heap_alloc_new w _
  have H1 := hide (apart1 (w.heap.size + 1) [] (raw n) w1 hB1 (by rw [length_raw]; exact hs.1) (by simp))
  rw [bs_raw] at H1
  have HS := hide hs
  have HB0 := hide hL1.below
  have c0 : w1.cell? ⟨w.heap.size, 0, none⟩ = some (.string n) := by rw [cell_of_row _ _ _ _ _ _ hA1]; rfl
  have HA1 := hide hA1
  rw [hw1] at c0 H1
  have hmf : ∀ (fn : Fn) (first cap : Array Value) (w : World), (Instr.makeFunc fn first cap).run Tryz.prog w = .ok (.func fn first cap) w := fun _ _ _ _ => rfl
  clear hu hs hB1 hL1 hA1
  go_enter Tryz.func76, Tryz.ntmps76
  go_wp2_with fail
  refine H1.out.mono ?_
  rintro e w2 ⟨⟨u, rfl⟩, hB2, hb2, ho2⟩
  rw [← hw1] at hb2 ho2
  have hA2 : w2.heap[w.heap.size]? = some (.cells #[.string n, .slice a args.length cap] 54 (0, 0)) := ho2 _ _ HA1.out (by simp) (fun c fz e => by injection e with _ h _; exact absurd h (by decide))
  have c1 : w2.cell? ⟨w.heap.size, 1, none⟩ = some (.slice a args.length cap) := by rw [cell_of_row _ _ _ _ _ _ hA2]; rfl
  have HB2 : Hid (BldN (w.heap.size + 1) (partsK (n :: args.take 0)) w2) := by show BldN _ _ _; simpa [partsK] using hB2
  have HL2 : Hid (Below w.heap.size w w2) := HB0.out.trans (hb2.mono (Nat.le_succ _))
  clear hB2 hb2 ho2 hA2 c0 H1 HA1 hw1 HB0 hmf
  go_wp2
  go_loopg [15] args.length (fun k i wr => ∃ j : Nat, j + k = args.length ∧ i = .int .i64 j ∧ Hid (BldN (w.heap.size + 1) (partsK (n :: args.take j)) wr) ∧ Hid (Below w.heap.size w wr))
  case atStart => exact ⟨0, by omega, rfl, HB2, HL2⟩
  case round =>
    obtain ⟨j, hj, rfl, HBr, HLr⟩ := hrel
    by_cases hlt : j < args.length
    · obtain ⟨x, hx⟩ : ∃ x, args[j]? = some x := ⟨_, List.getElem?_eq_getElem hlt⟩
      have hxm : x ∈ args := List.mem_of_getElem? hx
      obtain ⟨_, a', cap', ea, hc⟩ := HU.out
      injection ea with e1 e2 e3
      subst e1
      subst e3
      obtain ⟨b, off, rfl, hb, hc⟩ := hc (by intro e; rw [e] at hlt; simp at hlt)
      have d0 : wr.cell? ⟨b, off + j, none⟩ = some (.string x) := by
        rw [HLr.out.cell (p := ⟨b, off + j, none⟩) hb, hc j hlt, List.getD_eq_getElem?_getD, hx]; rfl
      have hx' : partsK (n :: args.take (j + 1)) = partsK (n :: args.take j) ++ partK (raw x) := by
        rw [List.take_add_one, hx, ← List.cons_append, partsK_append]
        simp [partsK]
      have hlen := partsK_len (l := n :: args.take j) (fun s hs => (List.mem_cons.1 hs).elim (fun e => e ▸ HS.out.1) (fun h => HS.out.2.2 s (List.mem_of_mem_take h)))
      rw [List.length_cons, List.length_take] at hlen
      have HC := hide (apart1 (w.heap.size + 1) _ (raw x) wr HBr.out (by rw [length_raw]; exact HS.out.2.2 x hxm) (by omega))
      rw [← hx', bs_raw] at HC
      clear hc hx hx' hlen hxm
      go_wp2_with fail
      refine HC.out.mono ?_
      rintro e w4 ⟨⟨u4, rfl⟩, hB4, hb4, _⟩
      have HB4 := hide hB4
      have Hb4 := hide hb4
      clear hB4 hb4
      go_wp2
      go_roundg (args.length - (j + 1))
      case measure => omega
      case rel => exact ⟨j + 1, by omega, by go_num, HB4, HLr.out.trans (Hb4.out.mono (Nat.le_succ _))⟩
    · have hj' : j = args.length := by omega
      subst hj'
      rw [List.take_length] at HBr
      have HF := hide (stringS _ _ wr HBr.out)
      go_wp2_with fail
      refine HF.out.mono ?_
      rintro e w5 ⟨rfl, hb5⟩
      have Hb5 := hide hb5
      clear hb5
      go_wp2
      go_ret
      exact ⟨rfl, HLr.out.trans (Hb5.out.mono (Nat.le_succ _))⟩

end Go.Proofs.YtbohggoeebhdmaaGreatDoor

/- Facts out of a map, in whatever order: maps.Values, slices.Collect. -/
namespace Go.Proofs.YtbohggoeebhdmaaGreatDoor
open Go.RowKit Go.Maps Go.Sort Go.Shelf

attribute [local go_sem] Oper.semAt_some

/-- All have come: the keys, each once, each with what stands at it. -/
def AllT (D : DataW Two) (ps : List (Bs × Two)) : Prop := (ps.map (·.1)).Nodup ∧ (∀ x, x ∈ ps.map (·.1) ↔ Maps.has D (.string x) = true) ∧ (∀ p ∈ ps, ∀ zd, D.atKey (.string p.1) zd = .held p.2) ∧ ps.length ≤ Maps.size D

set_option maxRecDepth 100000 in
set_option maxHeartbeats 1000000 in
theorem values1 (n : Nat) (hn : 1 ≤ n) (l Bm b nn : Nat) (D0 : DataW Two) (J Jx : List Two → World → Prop)
    (hY : ∀ pre x W, J pre W → pre.length < Maps.size D0 → YieldAt Fence.wide (n - 1) Tryz.prog l #[encT x] W fun e W' =>
      (e = .returned (.bool true) ∧ J (pre ++ [x]) W' ∧ KeepsWalks W W') ∨ (e = .returned (.bool false) ∧ Jx (pre ++ [x]) W'))
    (W : World) (hJ : AbidesFrom W.heap.size J) (hm : W.cell? ⟨Bm, 0, none⟩ = some (.map (some b))) (hown : W.ownsMap Tryz.prog 9 twoElem b nn D0) (h0 : J [] W) :
    CallsIn Fence.wide n Tryz.prog 122 #[.func (.yield l) #[] #[], .pointer (some ⟨Bm, 0, none⟩)] W fun e W' => (∃ v, e = .returned v) ∧
      ((∃ xs, (∃ ps, AllT D0 ps ∧ xs = ps.map (·.2)) ∧ J xs W') ∨ (∃ pre, True ∧ Jx pre W')) := by
  refine callsIn_of_wp Tryz.func122 rfl trivial ?_ rfl
  simp only [Tryz.ntmps122, List.size_toArray, List.length_cons, List.length_nil, Nat.reduceAdd, Nat.reduceSub, Array.replicate_succ, Array.replicate_zero, List.push_toArray, List.append_toArray, List.nil_append, List.cons_append]
  gi_wp2_with (first
    | (gi_at_range; refine wpListIn_range_own _ rfl _ 81 rfl 9 54 (string_keyed Tryz.underlying9) Tryz.underlying81 _ b nn _ rfl hown ?_; intro w0 hrg0 hg0 hs0)
    | gi_in)
  go_frame
  gi_loopw [7] (fun _ wr => ∃ (left : Lit → Bool) (cnt : Nat) (ps : List (Bs × Two)), wr.ranges Tryz.prog 9 twoElem b W.heap.size nn D0 left cnt ∧ ps.length + cnt ≤ Maps.size D0 ∧ Collected D0 left (ps.map (·.1)) ∧ (∀ p ∈ ps, ∀ zd, D0.atKey (.string p.1) zd = .held p.2) ∧ J (ps.map (·.2)) wr)
    (fun _ wr => wr.rangeLeft b W.heap.size)
  case atStart =>
    exact ⟨_, _, [], hrg0, by simp, Collected.start D0, by simp, hJ [] W w0 none h0 hg0 (fun r e => by cases e)⟩
  case round =>
    obtain ⟨left, cnt, ps, hrg, hcs, hC, hV, hJs⟩ := hrel
    gi_wp2_with (first
      | (gi_at_next; refine wpListIn_next_ranges _ rfl _ rfl 9 (string_keyed Tryz.underlying9) twoElem encStr encT (fun key kl hk => by obtain ⟨x, hx, _⟩ := Maps.keyOf_str Tryz.underlying9 hk; exact ⟨x, hx⟩) (fun v y hv => by obtain ⟨c, rfl, _⟩ := twoElem_inv hv; exact ⟨c, rfl⟩) b W.heap.size nn _ _ _ rfl hrg ?_ ?_)
      | gi_in)
    · intro hc0 hl0
      gi_wp2
      go_end0
      exact ⟨⟨_, rfl⟩, .inl ⟨_, ⟨ps, ⟨hC.1, fun x => by rw [hC.2 x, hl0]; simp, hV, by omega⟩, rfl⟩, hJs⟩⟩
    · intro x c1 c2 c3 c4 kl yd yp w2 cnt2 hkey hlk hv hat hrg2 hlt hg2 hs2 hen
      obtain ⟨x', ex, rfl, _⟩ := Maps.keyOf_str Tryz.underlying9 hkey
      obtain rfl : x = x' := encStr_inj ex
      obtain ⟨c', ec, ez⟩ := twoElem_inv hv
      obtain rfl := (encT_inj ec).symm
      obtain rfl : yd = .held (c1, c2, c3, c4) := (Prod.mk.inj ez).1
      have hJ2 : J (ps.map (·.2)) w2 := hJ _ wr w2 (some W.heap.size) hJs hg2 (fun r e => by cases e; exact ⟨Nat.le_refl _, hrg.iter_walk⟩)
      have hk3 : KeepsWalks w2 (w2.alloc (.cells #[.string c1, .slice c2 c3 c4] 54)) := (KeepsOthers.alloc _ _).walks
      have hJ3 : J (ps.map (·.2)) (w2.alloc (.cells #[.string c1, .slice c2 c3 c4] 54)) := hJ _ w2 _ none hJ2 (World.grownBy_alloc w2 _ none) (fun r e => by cases e)
      have hrg3' := hrg2.of_walks hk3
      obtain ⟨fn, tmps, assign, body, hy, hR⟩ := hY (ps.map (·.2)) (c1, c2, c3, c4) _ hJ3 (by simp; omega)
      have hen' : (Instr.entry (.pointer (some ⟨W.heap.size, 0, none⟩))).run Tryz.prog w2 = .ok (.tuple #[encStr x, .agg #[.string c1, .slice c2 c3 c4]]) w2 := hen
      clear hs2 hen
      show wpListIn _ _ _ _ _ _ _ _
      unfold encT at hy ⊢
      dsimp only at hy ⊢
      gi_wp2
      refine hR.mono ?_
      have hC2 : Collected D0 (fun z => left z && !z.sameKey (.string x)) ((ps ++ [(x, (c1, c2, c3, c4))]).map (·.1)) := by simpa using hC.step hlk hat
      have hV2 : ∀ p ∈ ps ++ [(x, (c1, c2, c3, c4))], ∀ zd, D0.atKey (.string p.1) zd = .held p.2 := fun p hp => (List.mem_append.1 hp).elim (hV p) (fun e => by simp only [List.mem_singleton] at e; subst e; exact hat)
      rintro e W3 (⟨rfl, hJ4, hk4⟩ | ⟨rfl, hJx3⟩)
      · gi_wp2
        have hrg3 := hrg3'.of_walks hk4
        go_roundw
        case rel => exact ⟨_, cnt2, ps ++ [(x, (c1, c2, c3, c4))], hrg3, by simp; omega, hC2, hV2, by simpa using hJ4⟩
        case measure => rw [hrg3.left_eq, hrg.left_eq]; exact hlt
      · gi_wp2
        refine bodyPost_ret (results_none rfl _ _ _) rfl ?_
        exact ⟨⟨_, rfl⟩, .inr ⟨_, trivial, hJx3⟩⟩

def cellsT (l : List Two) : List Value := l.flatMap fun x => [.string x.1, .slice x.2.1 x.2.2.1 x.2.2.2]
theorem cellsT_len (l : List Two) : (cellsT l).length = l.length * 2 := by
  induction l with
  | nil => rfl
  | cons x l ih => simp only [cellsT, List.flatMap_cons, List.length_append, List.length_cons, List.length_nil] at ih ⊢; omega
theorem cellsT_append (l m : List Two) : cellsT (l ++ m) = cellsT l ++ cellsT m := by simp [cellsT]

set_option maxHeartbeats 1000000 in
theorem valuesC (mb : Option Nat) (w : World) :
    Calls Tryz.prog 78 #[.map mb] w fun e w' => e = .returned (.func (.func 122) #[] #[.pointer (some ⟨w.heap.size, 0, none⟩)]) ∧ w' = w.alloc (.cells #[.map mb] 81) := by
  go_enter Tryz.func78, Tryz.ntmps78
  go_wp2
  go_ret
  exact ⟨rfl, rfl⟩

theorem values_stops (n : Nat) (hn : 1 ≤ n) (Bm b nn : Nat) (D0 : DataW Two) (w : World) (hBm : Bm < w.heap.size) (hm : w.cell? ⟨Bm, 0, none⟩ = some (.map (some b))) (hown : w.ownsMap Tryz.prog 9 twoElem b nn D0) :
    SeqStopsK Fence.wide n Tryz.prog 122 #[.pointer (some ⟨Bm, 0, none⟩)] (fun x : Two => #[encT x]) KeepsWalks (fun xs => ∃ ps, AllT D0 ps ∧ xs = ps.map (·.2)) (fun _ => True) (Maps.size D0) w :=
  fun l J Jx W hW hJ _ hY h0 => values1 n hn l Bm b nn D0 J Jx hY W hJ ((hW.cell (p := ⟨Bm, 0, none⟩) hBm).trans hm) (owns_block hown (hW.block b hown.lt)) h0

theorem row_own (B : Nat) (t : TypeId) (cs : Array Value) {X Y : World} {row : Option Nat} (h : X.heap[B]? = some (.cells cs t (0, 0))) (hg : X.grownBy Y row) (hr : ∀ r, row = some r → ∃ o : Obj, X.heap[r]? = some o ∧ o.isCells = false) : Y.heap[B]? = some (.cells cs t (0, 0)) := by
  rw [hg.block B (Array.getElem?_eq_some_iff.1 h).1 (fun e => by obtain ⟨o, ho, hc⟩ := hr B e.symm; rw [h] at ho; cases ho; cases hc)]
  exact h

theorem infoFactV : (Tryz.prog.info? 54).map (fun i => (i.zero, i.size, i.bytes)) = some (some (.agg #[.string { data := #[] }, .slice none 0 0]), 2, 40) := by kernel_rfl

set_option maxRecDepth 100000 in
set_option maxHeartbeats 2000000 in
theorem appendSeqC (b nn Bm : Nat) (D0 : DataW Two) (w : World) (hBm : Bm < w.heap.size) (hm : w.cell? ⟨Bm, 0, none⟩ = some (.map (some b))) (hown : w.ownsMap Tryz.prog 9 twoElem b nn D0) (hN : Maps.size D0 ≤ 3518437208883) :
    CallsIn Fence.wide 3 Tryz.prog 121 #[.slice none 0 0, .func (.func 122) #[] #[.pointer (some ⟨Bm, 0, none⟩)]] w
      fun e w' => ∃ v xs, e = .returned v ∧ (∃ ps, AllT D0 ps ∧ xs = ps.map (·.2)) ∧ w'.ownsRow w.heap.size 54 2 v xs.length (cellsT xs) ∧ Below w.heap.size w w' := by
  refine callsIn_of_wp_marks Tryz.func121 rfl trivial ?_ rfl
  simp only [Tryz.ntmps121, List.size_toArray, List.length_cons, List.length_nil, Nat.reduceAdd, Nat.reduceSub, Array.replicate_succ, Array.replicate_zero, List.push_toArray, List.append_toArray, List.nil_append, List.cons_append]
  gi_wp2
  have bS := Boxed.new w 24 (.slice none 0 0)
  have hB0 : Below w.heap.size w (w.alloc (.cells #[.slice none 0 0] 24)) := (Below.refl _ w).alloc (Nat.le_refl _) _
  have hsz : (w.alloc (.cells #[.slice none 0 0] 24)).heap.size = w.heap.size + 1 := by simp
  obtain ⟨W0, hW0⟩ : ∃ W0, w.alloc (.cells #[.slice none 0 0] 24) = W0 := ⟨_, rfl⟩
  rw [hW0] at bS hB0 hsz ⊢
  clear hW0
  refine wpIn_rangeFunc_ownH rfl (by omega) (gf := 122) (lb := #[.pointer (some ⟨Bm, 0, none⟩)]) rfl trivial (enters_of Tryz.func122 (by kernel_rfl) rfl)
    (values_stops 2 (by omega) Bm b nn D0 W0 (by omega) ((hB0.cell (p := ⟨Bm, 0, none⟩) hBm).trans hm) (owns_block hown (hB0.block b hown.lt))) walksK_t walksK_b (Below.refl _ _) (fun _ => rfl)
    (fun pre W => (∃ v, Boxed W w.heap.size 24 v ∧ W.ownsRow w.heap.size 54 2 v pre.length (cellsT pre) ∧ True) ∧ Below w.heap.size w W)
    (fun _ _ _ => False)
    (OwnFrom.and (Own.from (holdsRow_own w.heap.size w.heap.size 24 54 2 (fun pre => pre.length) (fun pre => cellsT pre) (fun _ _ => True)) _) (ownFrom_below (Nat.le_refl _) (by omega)))
    (fun _ _ _ _ _ hs _ _ => hs)
    ⟨⟨_, bS, World.ownsRow_nil _ _ _ _, trivial⟩, hB0⟩
    (fun x a' W => ∃ Bx, w.heap.size < Bx ∧ W.heap[Bx]? = some (.cells #[.string x.1, .slice x.2.1 x.2.2.1 x.2.2.2] 54 (0, 0)) ∧ a' = { tmps := #[.slice none 0 0, .func (.func 122) #[] #[.pointer (some ⟨Bm, 0, none⟩)], .pointer (some ⟨w.heap.size, 0, none⟩), undef, .slice none 0 0, .pointer (some ⟨Bx, 0, none⟩), .func (.func 122) #[] #[.pointer (some ⟨Bm, 0, none⟩)], encT x, undef, undef, undef, undef, undef], defers := [] })
    (fun x a' _ X Y row hs hg hr => by obtain ⟨Bx, h1, h2, h3⟩ := hs; exact ⟨Bx, h1, row_own Bx _ _ h2 hg (fun r e => (hr r e).2), h3⟩)
    ?assign ?body ?done ?stop
  case assign =>
    rintro l pre ⟨c1, c2, c3, c4⟩ W K ⟨⟨v, bS1, hrow, _⟩, hB1⟩ hK
    unfold encT
    dsimp only
    gi_wp2
    exact hK _ _ ((KeepsOthers.alloc _ _).from _) ((KeepsOthers.alloc _ _).walks) ⟨⟨v, bS1.alloc _, hrow.alloc _, trivial⟩, hB1.alloc hB1.size _⟩ ⟨W.heap.size, bS1.lt, World.alloc_heap_new W _, rfl⟩
  case body =>
    rintro l pre ⟨c1, c2, c3, c4⟩ a' W hl ⟨r, hr⟩ ⟨⟨v, bS1, hrow, _⟩, hB1⟩ ⟨Bx, hBx, bX, rfl⟩ hlt
    have cS := bS1.cell
    have cX0 : W.cell? ⟨Bx, 0, none⟩ = some (.string c1) := by simp [World.cell?, bX]
    have cX1 : W.cell? ⟨Bx, 1, none⟩ = some (.slice c2 c3 c4) := by simp [World.cell?, bX]
    obtain ⟨i0, hi, hz0, hz1, hz2⟩ := info_parts infoFactV
    have hnew : ∀ j u, [Value.string c1, Value.slice c2 c3 c4][j]? = some u → (W.alloc (.cells #[.string c1, .slice c2 c3 c4] 54)).cell? (Addr.add ⟨W.heap.size, 0, none⟩ j) = some u := fun j u hj => by
      have hb := World.alloc_heap_new W (.cells #[.string c1, .slice c2 c3 c4] 54)
      match j, hj with
      | 0, hj => simp at hj; subst hj; show World.cell? _ ⟨W.heap.size, 0, none⟩ = _; unfold World.cell?; dsimp only; rw [hb]; rfl
      | 1, hj => simp at hj; subst hj; show World.cell? _ ⟨W.heap.size, 1, none⟩ = _; unfold World.cell?; dsimp only; rw [hb]; rfl
    have hone : ∀ u ∈ [Value.string c1, Value.slice c2 c3 c4], u.oneCell' = true := fun u hu => by
      simp at hu; rcases hu with rfl | rfl <;> rfl
    have hk63 : pre.length + 1 ≤ maxLen := by unfold maxLen; omega
    have hkb : (pre.length + 1) * 40 ≤ 140737488355328 := by omega
    have hsW := hB1.size
    gi_wp2_with (gi_at_builtin; refine wpListIn_append_own _ rfl _ _ 24 rfl w.heap.size 54 i0 (.agg #[.string { data := #[] }, .slice none 0 0]) 2 40 Tryz.underlying24 hi hz0 hz1 hz2 rfl (by decide) _ _ _ rfl (hrow.alloc _) ⟨W.heap.size, 0, none⟩ 1 1 [.string c1, .slice c2 c3 c4] rfl rfl hnew hone hk63 hkb (by simp; omega) ?_; intro v' w1 hown' hgrow _; obtain ⟨g', cap', rfl⟩ := ownsRow_succ hown'; obtain ⟨hv1, hv2, hr2, hk2, hb2⟩ := bS1.appended (by decide) hrow hB1.size (Nat.le_refl _) hown' hgrow; have hc1 := hv1.cell; have hf1 := hv1.frozen)
    have hr3 : (w1.setCell ⟨w.heap.size, 0, none⟩ (.slice (some ⟨g', 0, none⟩) (pre.length + 1) cap')).ownsRow w.heap.size 54 2 (.slice (some ⟨g', 0, none⟩) (pre.length + 1) cap') (pre ++ [((c1, c2, c3, c4) : Two)]).length (cellsT (pre ++ [((c1, c2, c3, c4) : Two)])) := by
      rw [cellsT_append, List.length_append]; exact hr2
    exact ⟨hk2.from _, hk2.walks, ⟨_, hv2, hr3⟩, hB1.trans hb2⟩
  case done =>
    rintro D zs W hD hS ⟨⟨v, bS1, hrow, _⟩, hB1⟩ hK
    have cS := bS1.cell
    gi_wp2
    refine ⟨by simp, .inl ⟨_, _, rfl, run_takeDeferred hK, ?_⟩⟩
    exact ⟨_, results_tmp rfl _ _ _, v, zs, rfl, hS, ownsRow_putObj hrow _ hK rfl, hB1.trans (belowK_b (w := w) (Nat.le_refl _) W D _ _ (by omega) hK rfl rfl)⟩
  case stop =>
    rintro D c pre W _ _ h _
    exact h.elim

set_option maxHeartbeats 1000000 in
theorem collectC (b nn Bm : Nat) (D0 : DataW Two) (w : World) (hBm : Bm < w.heap.size) (hm : w.cell? ⟨Bm, 0, none⟩ = some (.map (some b))) (hown : w.ownsMap Tryz.prog 9 twoElem b nn D0) (hN : Maps.size D0 ≤ 3518437208883) :
    Calls Tryz.prog 77 #[.func (.func 122) #[] #[.pointer (some ⟨Bm, 0, none⟩)]] w
      fun e w' => ∃ v xs, e = .returned v ∧ (∃ ps, AllT D0 ps ∧ xs = ps.map (·.2)) ∧ w'.ownsRow w.heap.size 54 2 v xs.length (cellsT xs) ∧ Below w.heap.size w w' := by
  have H := hide (callsIn_wide.1 (appendSeqC b nn Bm D0 w hBm hm hown hN))
  go_enter Tryz.func77, Tryz.ntmps77
  go_wp2_with fail
  refine H.out.mono ?_
  rintro e w1 ⟨v, xs, rfl, h1, h2, h3⟩
  have H1 := hide h1
  have H2 := hide h2
  have H3 := hide h3
  clear h1 h2 h3
  go_wp2
  go_ret
  exact ⟨v, xs, rfl, H1.out, H2.out, H3.out⟩

theorem strs_below {w w' : World} {v : Value} {l : List ByteArray} (h : Strs w v l) (k : Below w.heap.size w w') : Strs w' v l := by
  obtain ⟨h0, a, cap, rfl, h1⟩ := h
  refine ⟨h0, a, cap, rfl, fun hl => ?_⟩
  obtain ⟨b, off, rfl, hb, hc⟩ := h1 hl
  exact ⟨b, off, rfl, Nat.lt_of_lt_of_le hb k.size, fun i hi => by rw [k.cell (p := ⟨b, off + i, none⟩) hb]; exact hc i hi⟩
theorem factV_below {w w' : World} {v : Value} {f : FactD} (h : FactV w v f) (k : Below w.heap.size w w') : FactV w' v f := by
  obtain ⟨s, rfl, h1⟩ := h; exact ⟨s, rfl, strs_below h1 k⟩

theorem KnownM.below {P : Program} {K : TypeId} {w w' : World} {b n : Nat} {L : List FactB} (h : KnownM P K w b n L) (k : Below w.heap.size w w') : KnownM P K w' b n L := by
  obtain ⟨D, h, h1, h2, h3⟩ := h
  exact ⟨D, owns_block h (k.block b h.lt), h1, fun f hf => by obtain ⟨x, e, hx⟩ := h2 f hf; exact ⟨x, e, factV_below hx k⟩, h3⟩

theorem cellsT_at : ∀ {l : List Two} {i : Nat} {x : Two}, l[i]? = some x → (cellsT l)[i * 2]? = some (.string x.1) ∧ (cellsT l)[i * 2 + 1]? = some (.slice x.2.1 x.2.2.1 x.2.2.2)
  | y :: l, 0, x, h => by simp at h; subst h; exact ⟨rfl, rfl⟩
  | y :: l, i + 1, x, h => by
    simp at h
    have := cellsT_at h
    have e : cellsT (y :: l) = [.string y.1, .slice y.2.1 y.2.2.1 y.2.2.2] ++ cellsT l := rfl
    rw [e, show (i + 1) * 2 = 2 + i * 2 by omega, show 2 + i * 2 + 1 = 2 + (i * 2 + 1) by omega, List.getElem?_append_right (by simp), List.getElem?_append_right (by simp)]
    simpa using this

open Classical in
noncomputable def factOf (L : List FactB) (s : Bs) : FactB := if h : ∃ f ∈ L, keyF f = s then Classical.choose h else noFact
theorem factOf_key {L : List FactB} {s : Bs} (h : ∃ f ∈ L, keyF f = s) : factOf L s ∈ L ∧ keyF (factOf L s) = s := by
  unfold factOf
  rw [dif_pos h]
  exact Classical.choose_spec h

/-- Facts of a map, as a slice: in some order. -/
theorem known_facts {w w' : World} {L : List FactB} {v : Value} {D : DataW Two} {ps : List (Bs × Two)} (h1 : ∀ s, Maps.has D (.string s) = true ↔ ∃ f ∈ L, keyF f = s) (h2 : ∀ f ∈ L, ∃ x, D.atKey (.string (keyF f)) .nil = .held x ∧ FactV w (encT x) f) (h3 : Maps.size D ≤ 3518437208883)
    (hA : AllT D ps) (hr : w'.ownsRow w.heap.size 54 2 v (ps.map (·.2)).length (cellsT (ps.map (·.2)))) (hB : Below w.heap.size w w') : ∃ l : List FactB, (∀ f, f ∈ l ↔ f ∈ L) ∧ Facts w' v l := by
  have hk : ∀ p ∈ ps, ∃ f ∈ L, keyF f = p.1 := fun p hp => (h1 _).1 ((hA.2.1 _).1 (List.mem_map.2 ⟨p, hp, rfl⟩))
  refine ⟨ps.map fun p => factOf L p.1, fun f => ?_, ?_⟩
  · rw [List.mem_map]
    constructor
    · rintro ⟨p, hp, rfl⟩
      exact (factOf_key (hk p hp)).1
    · intro hf
      obtain ⟨p, hp, hpf⟩ := List.mem_map.1 ((hA.2.1 (keyF f)).2 ((h1 _).2 ⟨f, hf, rfl⟩))
      exact ⟨p, hp, keyF_inj ((factOf_key (hk p hp)).2.trans hpf)⟩
  · have hlen := hA.2.2.2
    refine RowF.facts (base := w.heap.size) ⟨cellsT (ps.map (·.2)), by simpa using hr, fun i hi => ?_⟩ (by simp; omega)
    rw [List.length_map] at hi
    obtain ⟨p, hp⟩ : ∃ p, ps[i]? = some p := ⟨_, List.getElem?_eq_getElem hi⟩
    have hpm : p ∈ ps := by obtain ⟨_, rfl⟩ := List.getElem?_eq_some_iff.1 hp; exact List.getElem_mem _
    have eg : (ps.map fun p => factOf L p.1).getD i noFact = factOf L p.1 := by
      rw [List.getD_eq_getElem?_getD, List.getElem?_map, hp]; rfl
    rw [eg]
    obtain ⟨c0, c1⟩ := cellsT_at (l := ps.map (·.2)) (i := i) (x := p.2) (by rw [List.getElem?_map, hp]; rfl)
    obtain ⟨g1, g2⟩ := factOf_key (hk p hpm)
    obtain ⟨x, hx, s, hs, hS⟩ := h2 _ g1
    rw [g2, hA.2.2.1 p hpm] at hx
    injection hx with hx
    subst hx
    unfold encT at hs
    injection hs with hs
    have hs' := congrArg Array.toList hs
    simp only [List.cons.injEq, Value.string.injEq, and_true] at hs'
    obtain ⟨e1, e2⟩ := hs'
    refine ⟨by rw [c0, e1], s, by rw [c1, e2], strs_below hS hB, fun k hk hne => ?_⟩
    obtain ⟨_, a, cap, rfl, hb⟩ := hS
    obtain ⟨b, off, rfl, hlt, _⟩ := hb hne
    simp [Value.ownBlock] at hk
    omega

end Go.Proofs.YtbohggoeebhdmaaGreatDoor

/- The walk of fact.keep, whatever the closure that is asked, and whatever it keeps to itself. -/
namespace Go.Proofs.YtbohggoeebhdmaaGreatDoor
open Go.RowKit Go.Sort

/-- The first k facts, those of them that p takes. -/
def pick (p : Nat → Bool) (l : List FactD) : Nat → List FactD
  | 0 => []
  | k + 1 => if p k then pick p l k ++ [l.getD k noFact] else pick p l k

theorem pick_le (p : Nat → Bool) (l : List FactD) : ∀ k, (pick p l k).length ≤ k
  | 0 => Nat.le_refl _
  | k + 1 => by
    have := pick_le p l k
    unfold pick
    split <;> simp <;> omega

/-- What is asked of a closure: in every round it tells p k; it turns nothing but its own blocks (from lo up to hi), and its own state goes on. -/
structure Asked (g : Nat) (cb : Array Value) (lo hi : Nat) (w0 : World) (l : List FactD) (p : Nat → Bool) (S : Nat → World → Prop) : Prop where
  ask : ∀ k w' v, k < l.length → Later w0 w' → hi ≤ w'.heap.size → S k w' → FactV w0 v (l.getD k noFact) →
    Calls Tryz.prog g (#[v] ++ cb) w' fun e w'' => e = .returned (.bool (p k)) ∧ Only lo hi w' w'' ∧ S (k + 1) w''
  kept : ∀ k w' w'', S k w' → (∀ j, j < hi → w''.heap[j]? = w'.heap[j]?) → w'.heap.size ≤ w''.heap.size → S k w''

set_option maxHeartbeats 1000000 in
theorem keep (g : Nat) (cb : Array Value) (eg : ∀ args w, (callFunc g args).run Tryz.prog w = .ok (.enter g args) w) (lo hi : Nat) (w0 w : World) (v : Value) (l : List FactD) (p : Nat → Bool) (S : Nat → World → Prop)
    (hf : Facts w0 v l) (h0 : Later w0 w) (hlo : w0.heap.size ≤ lo) (hhi : hi ≤ w.heap.size) (hA : Asked g cb lo hi w0 l p S) (hS : S 0 w) :
    Calls Tryz.prog 53 #[v, .func (.func g) #[] cb] w fun e w' => ∃ v', e = .returned v' ∧ OwnF w' w.heap.size v' (pick p l l.length) ∧ Only lo hi w w' ∧ S l.length w' := by
  have HF := hide hf
  have HA := hide hA
  have HS := hide hS
  obtain ⟨a, cap, rfl, hn, hz⟩ := hf.addr
  clear hf hA hS
  go_enter Tryz.func53, Tryz.ntmps53
  go_wp2
  go_loopw [5, 10] (fun o i wr => ∃ k : Nat, k ≤ l.length ∧ i = .int .i64 k ∧ Hid (OwnF wr w.heap.size o (pick p l k)) ∧ Hid (Only lo hi w wr) ∧ Hid (S k wr)) (fun _ i _ => l.length - (intOf i).toNat)
  case atStart => exact ⟨0, by omega, rfl, OwnF.nil _ _, Only.refl _ _ _, HS⟩
  case round =>
    obtain ⟨k, hk, rfl, HO, HW, HK⟩ := hrel
    by_cases hlt : k < l.length
    · rcases hz with rfl | ⟨b, off, rfl⟩
      · simp at hlt
      have hL0 : Later w0 wr := HW.out.later h0 hlo
      obtain ⟨hb0, ax, lx, cx, g1, g2, fx⟩ := HF.out.at hlt
      have hb : b < wr.heap.size := Nat.lt_of_lt_of_le hb0 hL0.size
      rw [← hL0.cell (p := ⟨b, off + k * 2, none⟩) hb0] at g1
      rw [← hL0.cell (p := ⟨b, off + k * 2 + 1, none⟩) hb0] at g2
      have hltz : (k : Int) < (l.length : Int) := by omega
      have hwr : w.heap.size ≤ wr.heap.size := HW.out.size
      have hp : pick p l (k + 1) = if p k then pick p l k ++ [l.getD k noFact] else pick p l k := rfl
      have hpl := pick_le p l k
      have hlast : pick p l (k + 1) = pick p l (k + 1) := rfl
      generalize hfk : l.getD k noFact = f at *
      have HFK := hide hfk
      have HP := hide hp
      clear hfk hp hlast
      obtain ⟨nk, lk⟩ := f
      dsimp only at *
      have hcall := fun w' (h1 : Later w0 w') (h2 : hi ≤ w'.heap.size) (h3 : S k w') => HA.out.ask k w' (.agg #[.string nk, .slice ax lx cx]) hlt h1 h2 h3 (by rw [HFK.out]; exact fx)
      have HC := hide hcall
      clear hcall
      have hS1 : S k (wr.alloc (.cells #[.string nk, .slice ax lx cx] 54)) := HA.out.kept k wr _ HK.out (fun j hj => Below.heap_alloc _ _ _ (by omega)) (by simp)
      go_wp2_with fail
      refine (HC.out _ (hL0.alloc _) (by simp; omega) hS1).mono ?_
      rintro e w1 ⟨rfl, hO1, hS2⟩
      have z0 : w1.cell? ⟨wr.heap.size, 0, none⟩ = some (.string nk) := by rw [hO1.cell (by simp) (Or.inr (by show hi ≤ wr.heap.size; omega))]; simp
      have z1 : w1.cell? ⟨wr.heap.size, 1, none⟩ = some (.slice ax lx cx) := by rw [hO1.cell (by simp) (Or.inr (by show hi ≤ wr.heap.size; omega))]; simp
      have hsz : wr.heap.size < w1.heap.size := by have := hO1.size; simp at this; omega
      have hW1 : Only lo hi w w1 := HW.out.trans ((((Later.refl wr).alloc _).only).trans hO1)
      have hOw : OwnF w1 w.heap.size u5 (pick p l k) := ((HO.out.later ((Later.refl wr).alloc _)).only hO1 hhi)
      have hL1 : Later w0 w1 := hW1.later h0 hlo
      have HO1 := hide hOw
      have HW1 := hide hW1
      have HS2 := hide hS2
      clear hOw hW1 hS2
      cases hpk : p k
      · have HN : Hid (pick p l (k + 1) = pick p l k) := by show _ = _; rw [HP.out, hpk]; rfl
        go_wp2
        go_roundw
        case rel => exact ⟨k + 1, by omega, by go_num, (by rw [HN.out]; exact HO1.out : OwnF _ _ _ _), HW1, HS2⟩
        case measure => simp [intOf]; omega
      · have HN : Hid (pick p l (k + 1) = pick p l k ++ [(nk, lk)]) := by show _ = _; rw [HP.out, hpk]; rfl
        go_wp2_with fail
        refine (copied _ (nk, lk) _ (fx.later hL1)).mono ?_
        rintro e w2 ⟨sv, rfl, hs, hL2, hsb⟩
        have HO2 := hide (HO1.out.later hL2)
        obtain ⟨a3, c3, rfl⟩ := sliceStr hs
        obtain ⟨v', w', hrun, hO3, hg3, hd3⟩ := HO2.out.append (nk, lk) _ hs (fun q hq => ⟨by have := (hsb q hq).1; omega, (hsb q hq).2, fun e => by
          obtain ⟨xs, ho, _⟩ := HO1.out
          have := (ho.lt q e).2
          have := (hsb q hq).1
          omega⟩) (by omega) (by have := hL2.size; omega) rfl
        dsimp only at hrun hg3 hd3
        have hown : ∀ q, u5.ownBlock = some q → w.heap.size ≤ q := fun q e => by obtain ⟨xs, ho, _⟩ := HO1.out; exact (ho.lt q e).1
        have HR := hide hrun
        have HW3 : Hid (Only lo hi w w') := Only.grown (HW1.out.trans ((hL2.alloc _).only)) hg3 hd3 hown rfl rfl
        have HO3 := hide hO3
        have HS3 : Hid (S (k + 1) w') := HA.out.kept (k + 1) w1 _ HS2.out (fun j hj => by
          rw [hg3.block j (by have := hL2.size; simp; omega) (fun e => by have := hown j e.symm; omega), Below.heap_alloc _ _ _ (by have := hL2.size; omega)]
          exact hL2.block (by omega)) (by have := hg3.size; have := hL2.size; simp at *; omega)
        clear hrun hO3 hg3
        go_wp2_with (at_builtin; refine wpList_append_run rfl (.tmp 17) (.tmp 20) 24 rfl _ _ _ _ rfl rfl HR.out ?_)
        go_roundw
        case rel => exact ⟨k + 1, by omega, by go_num, (by rw [HN.out]; exact HO3.out : OwnF _ _ _ _), HW3, HS3⟩
        case measure => simp [intOf]; omega
    · go_wp2
      go_ret
      obtain rfl : k = l.length := by omega
      exact ⟨_, rfl, HO.out, HW.out, HK.out⟩

end Go.Proofs.YtbohggoeebhdmaaGreatDoor

/- Sets of facts, in plain Lean: lists that rise, each fact once. -/
namespace Go.Proofs.YtbohggoeebhdmaaGreatDoor
open Go.RowKit Go.Sort

/-- Rising, each once. -/
def Rises (s : List FactD) : Prop := s.Pairwise fun a b => cmpF a b < 0

theorem le_lt {a b c : FactD} (h : cmpF a b ≤ 0) (k : cmpF b c < 0) : cmpF a c < 0 := by
  by_cases e : cmpF a b = 0
  · rw [three_cmpF.zero _ _ e]; exact k
  · exact three_cmpF.trans a b c (by omega) k

theorem lt_irrefl {a : FactD} (h : cmpF a a < 0) : False := by rw [three_cmpF.refl] at h; omega

theorem lt_asym {a b : FactD} (h : cmpF a b < 0) (k : cmpF b a < 0) : False := lt_irrefl (three_cmpF.trans a b a h k)

/-- A set is told by what is in it. -/
theorem Rises.ext : ∀ {s t : List FactD}, Rises s → Rises t → (∀ f, f ∈ s ↔ f ∈ t) → s = t
  | [], [], _, _, _ => rfl
  | [], b :: t, _, _, h => by have := (h b).2 (List.mem_cons_self ..); cases this
  | a :: s, [], _, _, h => by have := (h a).1 (List.mem_cons_self ..); cases this
  | a :: s, b :: t, hs, ht, h => by
    have hs' := List.pairwise_cons.1 hs
    have ht' := List.pairwise_cons.1 ht
    have e : a = b := by
      rcases List.mem_cons.1 ((h a).1 (List.mem_cons_self ..)) with e | e
      · exact e
      · rcases List.mem_cons.1 ((h b).2 (List.mem_cons_self ..)) with e' | e'
        · exact e'.symm
        · exact absurd (ht'.1 a e) fun k => lt_asym k (hs'.1 b e')
    subst e
    rw [Rises.ext hs'.2 ht'.2 fun f => ⟨fun hf => ?_, fun hf => ?_⟩]
    · rcases List.mem_cons.1 ((h f).1 (List.mem_cons_of_mem _ hf)) with e | e
      · subst e; exact absurd (hs'.1 f hf) lt_irrefl
      · exact e
    · rcases List.mem_cons.1 ((h f).2 (List.mem_cons_of_mem _ hf)) with e | e
      · subst e; exact absurd (ht'.1 f hf) lt_irrefl
      · exact e

/-- s is the set of l's facts. -/
def SetOf (s l : List FactD) : Prop := Rises s ∧ (∀ f, f ∈ s ↔ f ∈ l) ∧ s.length ≤ l.length

theorem getD_mem_take {l : List FactD} {i k : Nat} (hi : i < k) (hk : k ≤ l.length) : l.getD i noFact ∈ l.take k := by
  rw [List.getD_eq_getElem?_getD, List.getElem?_eq_getElem (by omega)]
  exact List.mem_take_iff_getElem.2 ⟨i, by omega, rfl⟩

theorem mem_take_getD {l : List FactD} {k : Nat} {f : FactD} (h : f ∈ l.take k) : ∃ i, i < k ∧ i < l.length ∧ f = l.getD i noFact := by
  obtain ⟨i, hi, rfl⟩ := List.mem_take_iff_getElem.1 h
  exact ⟨i, by omega, by omega, by rw [List.getD_eq_getElem?_getD, List.getElem?_eq_getElem (by omega)]; rfl⟩

theorem take_succ {l : List FactD} {k : Nat} (h : k < l.length) : l.take (k + 1) = l.take k ++ [l.getD k noFact] := by
  rw [List.take_succ_eq_append_getElem h, List.getD_eq_getElem?_getD, List.getElem?_eq_getElem h]; rfl

theorem sorted_getD {l : List FactD} (h : l.Pairwise fun a b => cmpF a b ≤ 0) {i j : Nat} (hij : i ≤ j) (hj : j < l.length) : cmpF (l.getD i noFact) (l.getD j noFact) ≤ 0 := by
  by_cases e : i = j
  · subst e; rw [three_cmpF.refl]; exact Int.le_refl _
  · have := List.pairwise_iff_getElem.1 h i j (by omega) hj (by omega)
    rw [List.getD_eq_getElem?_getD, List.getD_eq_getElem?_getD, List.getElem?_eq_getElem (by omega), List.getElem?_eq_getElem hj]
    exact this

/-- Is a fact another one than the one ahead? -/
def newP (l : List FactD) (k : Nat) : Bool := decide (k = 0) || !decide (cmpF (l.getD (k - 1) noFact) (l.getD k noFact) = 0)

/-- Of facts that do not fall: each one once. -/
theorem pick_new {l : List FactD} (h : l.Pairwise fun a b => cmpF a b ≤ 0) : ∀ k, k ≤ l.length → SetOf (pick (newP l) l k) (l.take k)
  | 0, _ => ⟨List.Pairwise.nil, fun f => by simp [pick], by simp [pick]⟩
  | k + 1, hk => by
    obtain ⟨i1, i2, _⟩ := pick_new h k (by omega)
    have hlen : (pick (newP l) l (k + 1)).length ≤ (l.take (k + 1)).length := by
      have := pick_le (newP l) l (k + 1)
      rw [List.length_take]; omega
    rw [take_succ (by omega)] at hlen
    rw [take_succ (by omega)]
    cases hp : newP l k with
    | true =>
      have e : pick (newP l) l (k + 1) = pick (newP l) l k ++ [l.getD k noFact] := by simp [pick, hp]
      rw [e]
      refine ⟨?_, fun f => by rw [List.mem_append, List.mem_append, i2 f], by rw [← e]; exact hlen⟩
      unfold Rises
      rw [List.pairwise_append]
      refine ⟨i1, List.pairwise_singleton _ _, fun a ha b hb => ?_⟩
      rw [List.mem_singleton] at hb
      subst hb
      obtain ⟨i, hi, hil, rfl⟩ := mem_take_getD ((i2 a).1 ha)
      refine le_lt (sorted_getD h (i := i) (j := k - 1) (by omega) (by omega)) ?_
      have h1 := sorted_getD h (i := k - 1) (j := k) (by omega) (by omega)
      have h2 : cmpF (l.getD (k - 1) noFact) (l.getD k noFact) ≠ 0 := by
        intro e
        unfold newP at hp
        rw [decide_eq_true e, decide_eq_false (by omega)] at hp
        cases hp
      omega
    | false =>
      have e : pick (newP l) l (k + 1) = pick (newP l) l k := by simp [pick, hp]
      rw [e]
      refine ⟨i1, fun f => ?_, by rw [← e]; exact hlen⟩
      rw [i2 f, List.mem_append, List.mem_singleton]
      refine ⟨Or.inl, fun hf => hf.elim id fun hf => ?_⟩
      unfold newP at hp
      rw [Bool.or_eq_false_iff, decide_eq_false_iff_not, Bool.not_eq_false', decide_eq_true_eq] at hp
      have := three_cmpF.zero _ _ hp.2
      rw [hf, ← this]
      exact getD_mem_take (by omega) (by omega)

/-- Those that p takes. -/
theorem pick_filter (q : FactD → Bool) (l : List FactD) : ∀ k, k ≤ l.length → pick (fun i => q (l.getD i noFact)) l k = (l.take k).filter q
  | 0, _ => by simp [pick]
  | k + 1, hk => by
    have e : pick (fun i => q (l.getD i noFact)) l (k + 1) = if q (l.getD k noFact) then pick (fun i => q (l.getD i noFact)) l k ++ [l.getD k noFact] else pick (fun i => q (l.getD i noFact)) l k := rfl
    rw [e, take_succ (by omega), List.filter_append, ← pick_filter q l k (by omega)]
    generalize l.getD k noFact = x
    cases hq : q x <;> simp [hq]

/-- Two lists with the same facts have one set. -/
theorem SetOf.same {s t l m : List FactD} (h : SetOf s l) (k : SetOf t m) (e : ∀ f, f ∈ l ↔ f ∈ m) : s = t :=
  h.1.ext k.1 fun f => (h.2.1 f).trans ((e f).trans (k.2.1 f).symm)

/-- A set's set is itself. -/
theorem SetOf.eq {s t l : List FactD} (h : SetOf s l) (k : Rises t) (e : ∀ f, f ∈ l ↔ f ∈ t) : s = t :=
  h.1.ext k fun f => (h.2.1 f).trans (e f)

end Go.Proofs.YtbohggoeebhdmaaGreatDoor
