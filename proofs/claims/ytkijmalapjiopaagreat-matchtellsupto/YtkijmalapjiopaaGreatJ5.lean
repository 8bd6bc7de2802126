/- Texts of this claim, one behind the other. -/
import Derived.Test.YtkijmalapjiopaaGreatJ4
import Derived.Test.YtkijmalapjiopaaGreatJ3
import Derived.Deep.RegionHeld
/- Which lists a body has: just those with which it is so; what follows for any guess, and for a body turned around. Nothing of the program. -/
namespace Go.Proofs.YtkijmalapjiopaaGreat

theorem vars_iff {a : AtomD} {v : Bs} : v ∈ vars a ↔ ∃ t ∈ a.terms, t.1 = true ∧ t.2 = v := by
  unfold vars
  rw [mem_varsGo]
  simp

/-- Each variable stands in an atom that is not Not. -/
def Covers (body : List AtomD) : Prop := ∀ a ∈ body, ∀ t ∈ a.terms, t.1 = true → t.2 ∈ posVars [] body

theorem covers_of {body : List AtomD} (h : wrongBody body = 0) : Covers body := by
  unfold wrongBody at h
  split at h
  · simp at h
  · split at h
    · split at h
      · rename_i hall
        intro a ha t ht htv
        rw [List.all_eq_true] at hall
        have h1 := hall a ha
        rw [List.all_eq_true] at h1
        have h2 := h1 t.2 (vars_iff.2 ⟨t, ht, htv, rfl⟩)
        unfold givenBy at h2
        rw [List.any_eq_true] at h2
        obtain ⟨b, hb, h3⟩ := h2
        simp only [Bool.and_eq_true, Bool.not_eq_true', List.contains_eq_mem, decide_eq_true_eq] at h3
        refine (mem_posVars body).2 (Or.inr ⟨b, hb, h3.1, ?_⟩)
        exact vars_iff.1 h3.2
      · simp at h
    · rename_i hne
      exact absurd h hne

theorem barredB_iff (pick : Nat → List FactB) (l : List BindD) : ∀ (ats : List AtomD) (n : Nat), barredB pick n ats l = true ↔ ∃ i a, ats[i]? = some a ∧ a.no = true ∧ ∃ f ∈ pick (n + i), fillB a l = some f
  | [], n => by simp [barredB]
  | a :: ats, n => by
    simp only [barredB, Bool.or_eq_true, Bool.and_eq_true]
    rw [barredB_iff pick l ats (n + 1)]
    constructor
    · rintro (⟨h1, h2⟩ | ⟨i, b, hb, h1, f, hf, h2⟩)
      · cases e : fillB a l with
        | none => rw [e] at h2; cases h2
        | some f =>
          rw [e] at h2
          exact ⟨0, a, rfl, h1, f, inB_iff.1 h2, e⟩
      · exact ⟨i + 1, b, by simpa using hb, h1, f, by rwa [show n + (i + 1) = n + 1 + i by omega], h2⟩
    · rintro ⟨i, b, hb, h1, f, hf, h2⟩
      cases i with
      | zero =>
        simp at hb
        subst hb
        exact Or.inl ⟨h1, by rw [h2]; exact inB_iff.2 hf⟩
      | succ i => exact Or.inr ⟨i, b, by simpa using hb, h1, f, by rwa [show n + 1 + i = n + (i + 1) by omega], h2⟩

/-- A body is so with l: each atom is a fact that is there, or, if it must not be so, is not. -/
def SoB (pick : Nat → List FactB) (body : List AtomD) (l : List BindD) : Prop := ∀ i a, body[i]? = some a → ∃ f, fillB a l = some f ∧ inB (pick i) f = !a.no

theorem getElem_mem' {β : Type} {l : List β} {i : Nat} {a : β} (h : l[i]? = some a) : a ∈ l := by
  obtain ⟨hi, rfl⟩ := List.getElem?_eq_some_iff.1 h
  exact List.getElem_mem hi

/-- What is met, and not barred: just the lists of the variables in turn with which the body is so. -/
theorem kept_mem {pick : Nat → List FactB} {body : List AtomD} (hc : Covers body) {ms : List (List BindD)} (h : metGo pick 0 body [[]] = some ms) (m : List BindD) :
    m ∈ ms.filter (fun l => !barredB pick 0 body l) ↔ keysB m = (posVars [] body).map bs ∧ SoB pick body m := by
  rw [List.mem_filter, met_mem pick body 0 [[]] ms [] (fun l hl => by simp at hl; subst hl; rfl) h m]
  simp only [Bool.not_eq_true', Nat.zero_add]
  constructor
  · rintro ⟨⟨_, hk, hpos⟩, hb⟩
    refine ⟨hk, fun i a ha => ?_⟩
    cases hno : a.no
    · obtain ⟨f, hf, h1⟩ := hpos i a ha hno
      exact ⟨f, h1, by rw [inB_iff.2 hf]; rfl⟩
    · obtain ⟨f, hf⟩ := fillB_some (l := m) (a := a) fun t ht htv => by
        rw [hk]
        exact mem_map_bs.2 (hc a (getElem_mem' ha) t ht htv)
      refine ⟨f, hf, ?_⟩
      cases e : inB (pick i) f
      · rfl
      · have : barredB pick 0 body m = true := (barredB_iff pick m body 0).2 ⟨i, a, ha, hno, f, by rw [Nat.zero_add]; exact inB_iff.1 e, hf⟩
        rw [hb] at this
        cases this
  · rintro ⟨hk, hso⟩
    refine ⟨⟨⟨[], by simp, m, by simp⟩, hk, fun i a ha hno => ?_⟩, ?_⟩
    · obtain ⟨f, h1, h2⟩ := hso i a ha
      rw [hno] at h2
      exact ⟨f, inB_iff.1 h2, h1⟩
    · cases e : barredB pick 0 body m
      · rfl
      · obtain ⟨i, a, ha, hno, f, hf, h1⟩ := (barredB_iff pick m body 0).1 e
        obtain ⟨g, h2, h3⟩ := hso i a ha
        rw [h1] at h2
        cases h2
        rw [Nat.zero_add] at hf
        rw [hno, inB_iff.2 hf] at h3
        cases h3

/-- A list of such variables in turn is told by what they stand for. -/
theorem list_ext : ∀ {l m : List BindD}, keysB l = keysB m → (keysB l).Nodup → (∀ v, getB l v = getB m v) → l = m
  | [], [], _, _, _ => rfl
  | [], b :: m, h, _, _ => by simp [keysB] at h
  | a :: l, [], h, _, _ => by simp [keysB] at h
  | a :: l, b :: m, h, hn, hg => by
    have hn' : a.1 ∉ keysB l ∧ (keysB l).Nodup := List.nodup_cons.1 hn
    have h1 : a.1 = b.1 ∧ keysB l = keysB m := by simpa [keysB] using h
    have h2 : a.2 = b.2 := by
      have := hg a.1
      simp only [getB, if_true] at this
      rw [if_pos h1.1.symm] at this
      exact Option.some.inj this
    have hab : a = b := Prod.ext h1.1 h2
    subst hab
    rw [list_ext h1.2 hn'.2 fun v => ?_]
    by_cases hv : a.1 = v
    · subst hv
      rw [getB_none.2 hn'.1, getB_none.2 (by rw [← h1.2]; exact hn'.1)]
    · have := hg v
      simpa only [getB, if_neg hv] using this

/-- Strictly by the variables. -/
theorem sortB_strict {m : List BindD} (hn : (keysB m).Nodup) : (sortB m).Pairwise fun a b => cmpB a b < 0 := by
  refine strict_of three_cmpB (sortBy_sorted three_cmpB m) ?_
  refine (sortBy_perm m).nodup_iff.2 ?_
  have : (m.map (·.1)).Nodup := hn
  rw [List.Nodup, List.pairwise_map] at this
  exact this.imp fun h e => h (by rw [e])

theorem sortB_inj {l m : List BindD} (hk : keysB l = keysB m) (hn : (keysB l).Nodup) (h : sortB l = sortB m) : l = m := by
  refine list_ext hk hn fun v => getB_perm ?_ hn v
  have h1 := (sortBy_perm (c := cmpB) l).symm
  have h2 := sortBy_perm (c := cmpB) m
  rw [show sortBy cmpB l = sortBy cmpB m from h] at h1
  exact h1.trans h2

/-- A list that is told: its variables are the body's, each once, rising, and the body is so with it. -/
def FitsB (pick : Nat → List FactB) (body : List AtomD) (r : List BindD) : Prop :=
  r.Pairwise (fun a b => cmpB a b < 0) ∧ (keysB r).Nodup ∧ (∀ v, v ∈ keysB r ↔ v ∈ (posVars [] body).map bs) ∧ SoB pick body r

theorem posKeys_nodup (body : List AtomD) : ((posVars [] body).map bs).Nodup := nodup_map_bs (posVars_nodup body List.nodup_nil)

theorem all_strict {pick : Nat → List FactB} {body : List AtomD} (hc : Covers body) (hp : ∀ i, (pick i).Nodup) {R : List (List BindD)} (h : allB pick body = some R) : R.Pairwise fun a b => cmpBs a b < 0 := by
  unfold allB at h
  cases e : metGo pick 0 body [[]] with
  | none => rw [e] at h; cases h
  | some ms =>
    rw [e] at h
    cases h
    refine strict_of three_cmpBs (sortBy_sorted three_cmpBs _) ((sortBy_perm _).nodup_iff.2 ?_)
    have hms : ms.Nodup := met_nodup pick hp body 0 [[]] ms [] (fun l hl => by simp at hl; subst hl; rfl) (by simp) e
    rw [List.Nodup, List.pairwise_map]
    have h1 : (ms.filter fun l => !barredB pick 0 body l).Nodup := hms.filter _
    refine (List.Pairwise.and_mem.1 h1).imp fun {l m} ⟨hl, hm, hne⟩ e' => hne ?_
    have k1 := ((kept_mem hc e l).1 hl).1
    have k2 := ((kept_mem hc e m).1 hm).1
    exact sortB_inj (k1.trans k2.symm) (by rw [k1]; exact posKeys_nodup body) e'

end Go.Proofs.YtkijmalapjiopaaGreat

/- How binds lie in cells, lists of such, and rows of lists that a call owns, each in a block of its own. Nothing of the program but two types' numbers. -/
namespace Go.Proofs.YtkijmalapjiopaaGreat
open Go.RowKit Go.Sort

/-- A bind lies in two cells. -/
def bindK : Kind BindD where
  size := 2
  is := fun _ _ c b => c = [.string b.1, .string b.2]
  len := fun h => by subst h; rfl
  one := fun h u hu => by subst h; simp at hu; rcases hu with rfl | rfl <;> rfl
  kept := fun h _ _ => h
  mono := fun h _ => h

/-- A slice of such elements lies in one cell. -/
def slK {α : Type} (K : Kind α) : Kind (List α) where
  size := 1
  is := fun B w c l => ∃ v, c = [v] ∧ K.sl B w v l
  len := fun ⟨v, h, _⟩ => by subst h; rfl
  one := fun ⟨v, h, hs⟩ u hu => by
    subst h
    obtain ⟨a, cap, rfl⟩ := Kind.slice hs
    simp at hu; subst hu; rfl
  kept := fun ⟨v, h, hs⟩ h1 h2 => ⟨v, h, Kind.sl_kept hs h1 h2⟩
  mono := fun ⟨v, h, hs⟩ h1 => ⟨v, h, Kind.sl_mono hs h1⟩

/-- Lists of binds. -/
abbrev listK : Kind (List BindD) := slK bindK

/-- Rows of a call's own in worlds that turn only other blocks. -/
theorem Kind.own_kept {α : Type} {K : Kind α} {ty : TypeId} {lo : Nat} {w w' : World} {v : Value} {l : List α} (h : K.own ty lo w v l) (hs : w.heap.size ≤ w'.heap.size) (hk : ∀ k, k < w.heap.size → lo ≤ k → w'.heap[k]? = w.heap[k]?) : K.own ty lo w' v l := by
  obtain ⟨xs, ho, hx⟩ := h
  refine ⟨xs, ⟨ho.1, ?_⟩, fun i x hi => ?_⟩
  · rcases ho.2 with e | ⟨g, cap, cur, rfl, hbg, hg, r⟩
    · exact Or.inl e
    · exact Or.inr ⟨g, cap, cur, rfl, hbg, by rw [hk g (Array.getElem?_eq_some_iff.1 hg).1 hbg]; exact hg, r⟩
  · obtain ⟨c, c1, c2⟩ := hx i x hi
    exact ⟨c, K.kept c1 hs fun j hj hB => hk j hj hB.1, c2⟩

/-- A row of binds hangs on its one block alone. -/
theorem own_block {ty : TypeId} {lo : Nat} {w w' : World} {v : Value} {l : List BindD} (h : bindK.own ty lo w v l) (hk : ∀ k, v.ownBlock = some k → w'.heap[k]? = w.heap[k]?) : bindK.own ty lo w' v l := by
  obtain ⟨xs, ho, hx⟩ := h
  refine ⟨xs, ⟨ho.1, ?_⟩, hx⟩
  rcases ho.2 with e | ⟨g, cap, cur, rfl, hbg, hg, r⟩
  · exact Or.inl e
  · exact Or.inr ⟨g, cap, cur, rfl, hbg, by rw [hk g rfl]; exact hg, r⟩

theorem own_base {ty : TypeId} {lo lo' : Nat} {w : World} {v : Value} {l : List BindD} (h : bindK.own ty lo w v l) (hl : lo' ≤ lo) : bindK.own ty lo' w v l := by
  obtain ⟨xs, ho, hx⟩ := h
  refine ⟨xs, ⟨ho.1, ?_⟩, hx⟩
  rcases ho.2 with e | ⟨g, cap, cur, rfl, hbg, r⟩
  · exact Or.inl e
  · exact Or.inr ⟨g, cap, cur, rfl, by omega, r⟩

/-- A list's block, if there is one. -/
abbrev ofBlock (v : Value) : Nat → Prop := fun k => v.ownBlock = some k

/-- Two lists lie apart. -/
def apart (u u' : Value) : Prop := ∀ k, u.ownBlock = some k → u'.ownBlock ≠ some k

theorem apart.symm {u u' : Value} (h : apart u u') : apart u' u := fun k h1 h2 => h k h2 h1

/-- A row of lists that a call owns, each in a block of its own; what each is, and where it lies. -/
def Lists (tyS ty : TypeId) (lo : Nat) (w : World) (v : Value) (ps : List (Value × List BindD)) : Prop :=
  w.ownsRow lo tyS 1 v ps.length (ps.map (·.1)) ∧ (∀ p ∈ ps, bindK.own ty lo w p.1 p.2 ∧ apart p.1 v) ∧ ps.Pairwise fun p q => apart p.1 q.1

theorem Lists.nil (tyS ty : TypeId) (lo : Nat) (w : World) : Lists tyS ty lo w (.slice none 0 0) [] := ⟨World.ownsRow_nil w lo tyS 1, fun p hp => by simp at hp, List.Pairwise.nil⟩

theorem Lists.kept {tyS ty : TypeId} {lo : Nat} {w w' : World} {v : Value} {ps : List (Value × List BindD)} (h : Lists tyS ty lo w v ps) (hk : ∀ k, k < w.heap.size → lo ≤ k → w'.heap[k]? = w.heap[k]?) : Lists tyS ty lo w' v ps := by
  obtain ⟨ho, hp, ha⟩ := h
  refine ⟨⟨ho.1, ?_⟩, fun p h1 => ⟨own_block (hp p h1).1 fun k e => ?_, (hp p h1).2⟩, ha⟩
  · rcases ho.2 with e | ⟨g, cap, cur, rfl, hbg, hg, r⟩
    · exact Or.inl e
    · exact Or.inr ⟨g, cap, cur, rfl, hbg, by rw [hk g (Array.getElem?_eq_some_iff.1 hg).1 hbg]; exact hg, r⟩
  · have := Kind.own_lt (hp p h1).1 e
    exact hk k this.2 this.1

theorem Lists.later {tyS ty : TypeId} {lo : Nat} {w w' : World} {v : Value} {ps : List (Value × List BindD)} (h : Lists tyS ty lo w v ps) (k : Later w w') : Lists tyS ty lo w' v ps := h.kept fun _ hi _ => k.block hi

theorem Lists.slice {tyS ty : TypeId} {lo : Nat} {w : World} {v : Value} {ps : List (Value × List BindD)} (h : Lists tyS ty lo w v ps) : ∃ a cap, v = .slice a ps.length cap := by
  rcases h.1.2 with ⟨rfl, e⟩ | ⟨g, cap, cur, rfl, _⟩
  · exact ⟨none, 0, by rw [e]⟩
  · exact ⟨_, cap, rfl⟩

/-- Read. -/
theorem Lists.sl {tyS ty : TypeId} {lo : Nat} {w : World} {v : Value} {ps : List (Value × List BindD)} (h : Lists tyS ty lo w v ps) (hl : ps.length ≤ 8796093022208) (hs : ∀ p ∈ ps, p.2.length ≤ 8796093022208) : listK.sl (From lo) w v (ps.map (·.2)) := by
  obtain ⟨ho, hp, _⟩ := h
  rcases ho.2 with ⟨rfl, e⟩ | ⟨g, cap, cur, rfl, hbg, hg, hnc, _⟩
  · have : ps = [] := List.eq_nil_of_length_eq_zero e
    subst this
    exact listK.sl_nil _ _ _ _
  · refine ⟨⟨by simpa using hl, hnc⟩, _, cap, by simp, fun _ => ⟨g, 0, rfl, hbg, (Array.getElem?_eq_some_iff.1 hg).1, fun i x hi => ?_⟩⟩
    rw [List.getElem?_map] at hi
    cases e : ps[i]? with
    | none => rw [e] at hi; cases hi
    | some p =>
      rw [e] at hi
      cases hi
      have hpm := List.mem_of_getElem? e
      refine ⟨[p.1], ⟨p.1, rfl, Kind.own_sl (hp p hpm).1 (hs p hpm)⟩, fun j u hu => ?_⟩
      cases j with
      | succ j => simp at hu
      | zero =>
        simp at hu
        subst hu
        have := ho.cells (g := g) rfl i p.1 (by rw [List.getElem?_map, e]; rfl)
        rw [Addr.add_lit] at this
        show w.cell? ⟨g, 0 + i * 1 + 0, none⟩ = _
        rw [Nat.mul_one, Nat.add_zero]; exact this

end Go.Proofs.YtkijmalapjiopaaGreat

/- A region that draws its order, step by step: an operation that yields its value in every world that meets the condition is taken first. -/
namespace Go.Proofs.YtkijmalapjiopaaGreat

theorem take_at {P : Program} {md : Region.Mode} {ops : Array Oper} {Q : Exit → Act → World → Prop} {S : World → Prop} {i : Nat} {oi : Oper} {d : Option Nat} {v : Value} {fuel : Nat} {listed : Array Bool} {a : Act} {w : World} (hi : ops[i]? = some oi) (hd : oi.dst = d)
    (hs : Region.noSelect ops = true) (hf : Region.free md ops listed i = true) (hr : (Region.ready md ops listed).contains i = true)
    (hQ : ∀ c a w, Q (.panic c) (a.put oi.dst v) w → Q (.panic c) a w) (hy : YieldsIf P ops S oi v a) (hS : S w)
    (h : wpAnyH P md ops Q S fuel (listed.setIfInBounds i true) (a.put d v) w) : wpAnyH P md ops Q S (fuel + 1) listed a w :=
  wpAnyH_take hi hs hf hr hQ hy hS (by rw [hd]; exact h)

/-- The same, in few words: the operation's guard says yes, or no. -/
theorem take_yes {P : Program} {md : Region.Mode} {ops : Array Oper} {Q : Exit → Act → World → Prop} {S : World → Prop} {i : Nat} {oi : Oper} {d : Option Nat} {v : Value} {fuel : Nat} {listed : Array Bool} {a : Act} {w : World} (hi : ops[i]? = some oi) (hd : oi.dst = d) (hS : S w)
    (hy : ∀ w, S w → (execOp a.eval oi).run P w = .ok (.value v) w) (h : wpAnyH P md ops Q S fuel (listed.setIfInBounds i true) (a.put d v) w) (hs : Region.noSelect ops = true := by kernel_rfl) (hf : Region.free md ops listed i = true := by kernel_rfl) (hr : (Region.ready md ops listed).contains i = true := by kernel_rfl)
    (hQ : ∀ c a w, Q (.panic c) (a.put oi.dst v) w → Q (.panic c) a w := by exact fun _ _ _ h => h) (hw : Region.wanted oi (yielded ops a.tmps) = true := by rfl) : wpAnyH P md ops Q S (fuel + 1) listed a w :=
  take_at hi hd hs hf hr hQ (Or.inl ⟨hw, hy⟩) hS h

theorem take_no {P : Program} {md : Region.Mode} {ops : Array Oper} {Q : Exit → Act → World → Prop} {S : World → Prop} {i : Nat} {oi : Oper} {d : Option Nat} {fuel : Nat} {listed : Array Bool} {a : Act} {w : World} (hi : ops[i]? = some oi) (hd : oi.dst = d) (hS : S w)
    (h : wpAnyH P md ops Q S fuel (listed.setIfInBounds i true) (a.put d undef) w) (hs : Region.noSelect ops = true := by kernel_rfl) (hf : Region.free md ops listed i = true := by kernel_rfl) (hr : (Region.ready md ops listed).contains i = true := by kernel_rfl)
    (hQ : ∀ c a w, Q (.panic c) (a.put oi.dst undef) w → Q (.panic c) a w := by exact fun _ _ _ h => h) (hw : Region.wanted oi (yielded ops a.tmps) = false := by rfl) : wpAnyH P md ops Q S (fuel + 1) listed a w :=
  take_at hi hd hs hf hr hQ (Or.inr ⟨hw, rfl⟩) hS h

theorem aput (a : Act) (d : Tmp) (v : Value) : a.put (some d) v = { a with tmps := a.tmps.setIfInBounds d v } := rfl

theorem aset {α : Type} (l : List α) (i : Nat) (x : α) : l.toArray.setIfInBounds i x = (l.set i x).toArray := List.setIfInBounds_toArray ..

theorem aze {α : Type} (l : List α) (x y : α) : (x :: l).set 0 y = y :: l := rfl

theorem asu {α : Type} (l : List α) (i : Nat) (x y : α) : (x :: l).set (i + 1) y = x :: l.set i y := rfl

/-- append as one of those that may come up, its run being known. -/
theorem held_append {P : Program} {md : Region.Mode} {ops : Array Oper} {Q : Exit → Act → World → Prop} {S : World → Prop} {i : Nat} {o : Oper} {d : Option Nat} {fuel : Nat} {listed : Array Bool} {a : Act} {w : World} {rs : List Nat} (ho : ops[i]? = some o) (hd : o.dst = d)
    (hg : o.guard = none) (s x : Operand) (t ty : TypeId) (hop : o.op = Op.call { callee := Callee.builtin Builtin.append, args := #[s, x], argTypes := #[t, t] }) (hty : o.type = ty)
    (v1 v2 v' : Value) (w' : World) (hs : a.eval s = v1) (hx : a.eval x = v2) (hrun : (Builtin.append_ #[t, t] ty #[v1, v2]).run P w = .ok v' w') (hS : S w')
    (h : S w' → wpAnyH P md ops Q S fuel (listed.setIfInBounds i true) (a.put d v') w') (rest : AllReadyH P md ops Q S fuel listed a w rs) : AllReadyH P md ops Q S fuel listed a w (i :: rs) :=
  AllReadyH.cons ho (fun _ hK => step_append_run hg s x t hop v1 v2 v' w' hs hx (by rw [hty]; exact hrun) (by rw [hd]; exact hK.out _ _ hS h)) rest

theorem SrcF.later {w0 w w' : World} {a : Addr} {m : List FactD} (h : SrcF w0 w a m) (k : Later w w') : SrcF w0 w' a m := by
  obtain ⟨ys, y1, y2, y3, y4⟩ := h
  exact ⟨ys, y1, fun j u hu => by
    have hc := y2 j u hu
    rw [k.cell (World.block_lt_of_cell? w _ hc)]; exact hc, y3, y4⟩

theorem SrcF.grown {w0 w w' : World} {g off : Nat} {m : List FactD} {row : Option Nat} (h : SrcF w0 w ⟨g, off, none⟩ m) (k : w.grownBy w' row) (hne : some g ≠ row) : SrcF w0 w' ⟨g, off, none⟩ m := by
  obtain ⟨ys, y1, y2, y3, y4⟩ := h
  exact ⟨ys, y1, fun j u hu => by
    have hc := y2 j u hu
    rw [Addr.add_lit] at hc ⊢
    exact k.cell hc hne, y3, y4⟩

end Go.Proofs.YtkijmalapjiopaaGreat

/- The walks of match.Get, match.worth and what they call. -/
namespace Go.Proofs.YtkijmalapjiopaaGreat
open Go.RowKit Go.Sort

theorem eq_list {a b : ByteArray} : (a.toList == b.toList) = decide (a = b) := by
  rw [Bool.eq_iff_iff]
  simp only [beq_iff_eq, decide_eq_true_eq]
  exact ⟨toList_inj, fun h => by rw [h]⟩

set_option maxHeartbeats 400000 in
theorem get1 (b1 b2 v : ByteArray) (c : Nat) (w : World) (hc : w.cell? ⟨c, 0, none⟩ = some (.string v)) (hb : c < w.heap.size) :
    Calls Tryz.prog 33 #[.agg #[.string b1, .string b2], .pointer (some ⟨c, 0, none⟩)] w fun e w' => e = .returned (.bool (decide (b1 = v))) ∧ Later w w' := by
  have E := hide (eq_list (a := b1) (b := v))
  go_enter Tryz.func33, Tryz.ntmps33
  go_wp2
  go_ret
  exact ⟨ret_bool E.out, (by repeat (first | exact Later.refl _ | assumption | refine Later.drewN ?_ _ | refine Later.drew ?_ | refine Later.alloc ?_ _ | refine Later.grow ?_ _))⟩

theorem getB_drop {l : List BindD} {k : Nat} {b : BindD} (h : l[k]? = some b) (v : ByteArray) : getB (l.drop k) v = if b.1 = v then some b.2 else getB (l.drop (k + 1)) v := by
  obtain ⟨h1, e1⟩ := List.getElem?_eq_some_iff.1 h
  rw [List.drop_eq_getElem_cons h1, e1]; rfl

set_option maxHeartbeats 1000000 in
/-- slices.IndexFunc at binds, asked for a variable. -/
theorem indexBind (u : Value) (l : List BindD) (v : ByteArray) (c : Nat) (w : World) (hu : bindK.sl Anyw w u l) (hc : w.cell? ⟨c, 0, none⟩ = some (.string v)) (hb : c < w.heap.size) :
    Calls Tryz.prog 32 #[u, .func (.func 33) #[] #[.pointer (some ⟨c, 0, none⟩)]] w fun e w' => ∃ n : Int, e = .returned (.int .i64 n) ∧ ((n = -1 ∧ getB l v = none) ∨ ∃ k b, n = (k : Nat) ∧ l[k]? = some b ∧ getB l v = some b.2) ∧ Later w w' := by
  obtain ⟨a, cap, rfl⟩ := Kind.slice hu
  have hl := hu.1.1
  have HU := hide hu
  have HC : Hid (∀ w' b1 b2, Later w w' → Calls Tryz.prog 33 #[.agg #[.string b1, .string b2], .pointer (some ⟨c, 0, none⟩)] w' fun e w'' => e = .returned (.bool (decide (b1 = v))) ∧ Hid (Later w w'')) := fun w' b1 b2 hL =>
    (get1 b1 b2 v c w' (by rw [hL.cell hb]; exact hc) (Nat.lt_of_lt_of_le hb hL.size)).mono fun e w'' ⟨he, hL2⟩ => ⟨he, hL.trans hL2⟩
  clear hu hc hb
  go_enter Tryz.func32, Tryz.ntmps32
  go_wp2
  go_loopg [8] l.length (fun g i wr => ∃ k : Nat, k + g = l.length ∧ i = .int .i64 k ∧ Hid (getB l v = getB (l.drop k) v) ∧ Hid (Later w wr))
  case atStart => exact ⟨0, by omega, rfl, (rfl : _ = _), Later.refl _⟩
  case round =>
    obtain ⟨k, hk, rfl, HE, HL⟩ := hrel
    by_cases hlt : k < l.length
    · obtain ⟨b, hx⟩ : ∃ x, l[k]? = some x := ⟨_, List.getElem?_eq_getElem hlt⟩
      obtain ⟨b1, o1, _, rfl, hb1, rfl, hcl⟩ := Kind.sl_at HU.out hx
      have d0 : wr.cell? ⟨b1, o1 + k * 2, none⟩ = some (.string b.1) := by rw [HL.out.cell hb1]; exact hcl 0 _ rfl
      have d1 : wr.cell? ⟨b1, o1 + k * 2 + 1, none⟩ = some (.string b.2) := by rw [HL.out.cell hb1]; exact hcl 1 _ rfl
      have hbr : b1 < wr.heap.size := Nat.lt_of_lt_of_le hb1 HL.out.size
      have HD := hide (getB_drop hx v)
      have HX := hide hx
      have HCk := hide (HC.out wr b.1 b.2 HL.out)
      clear hcl hx
      obtain ⟨bv, bn⟩ := b
      dsimp only at *
      by_cases hq : bv = v
      · have hq' : decide (bv = v) = true := by simpa using hq
        have F : Hid (getB l v = some bn) := by show _ = _; rw [HE.out, HD.out, if_pos hq]
        rw [hq'] at HCk
        clear hq hq' HD HE
        go_wp2_with (go_at_call 33; refine HCk.out.mono ?_; rintro e w2 ⟨rfl, hL2⟩)
        go_ret
        exact ⟨_, rfl, Or.inr ⟨k, (bv, bn), rfl, HX.out, F.out⟩, hL2.out⟩
      · have hq' : decide (bv = v) = false := by simpa using hq
        have F : Hid (getB l v = getB (l.drop (k + 1)) v) := by show _ = _; rw [HE.out, HD.out, if_neg hq]
        rw [hq'] at HCk
        clear hq hq' HD HE
        go_wp2_with (go_at_call 33; refine HCk.out.mono ?_; rintro e w2 ⟨rfl, hL2⟩)
        go_roundg (l.length - (k + 1))
        case measure => omega
        case rel => exact ⟨k + 1, by omega, by go_num, F, hL2⟩
    · have F : Hid (getB l v = none) := by show _ = _; rw [HE.out, List.drop_eq_nil_of_le (by omega)]; rfl
      go_wp2
      go_ret
      exact ⟨_, rfl, Or.inl ⟨rfl, F.out⟩, HL.out⟩

/-- What a look-up tells. -/
def toldV (x : Option ByteArray) : Value := .tuple #[.string (x.getD ByteArray.empty), .bool x.isSome]

set_option maxHeartbeats 1000000 in
theorem getC (u : Value) (l : List BindD) (v : ByteArray) (w : World) (hu : bindK.sl Anyw w u l) : Calls Tryz.prog 13 #[u, .string v] w fun e w' => e = .returned (toldV (getB l v)) ∧ Later w w' := by
  have HI := hide (indexBind u l v w.heap.size (w.alloc (.cells #[.string v] 9)) (Kind.sl_later hu ((Later.refl _).alloc _)) (by simp) (by simp))
  have HU := hide hu
  obtain ⟨a, cap, rfl⟩ := Kind.slice hu
  clear hu
  go_enter Tryz.func13, Tryz.ntmps13
  go_wp2_with fail
  refine HI.out.mono ?_
  rintro e w2 ⟨n, rfl, h, hL⟩
  have HL := hide (((Later.refl w).alloc (.cells #[.string v] 9)).trans hL)
  clear hL HI
  rcases h with ⟨rfl, h⟩ | ⟨k, b, rfl, hk, h⟩
  · have H := hide h
    clear h
    go_wp2
    go_ret2
    exact ⟨by rw [H.out]; rfl, HL.out⟩
  · obtain ⟨b1, o1, _, rfl, hb1, rfl, hcl⟩ := Kind.sl_at HU.out hk
    have d1 : w2.cell? ⟨b1, o1 + k * 2 + 1, none⟩ = some (.string b.2) := by rw [HL.out.cell hb1]; exact hcl 1 _ rfl
    have hbr : b1 < w2.heap.size := Nat.lt_of_lt_of_le hb1 HL.out.size
    have hkl : k < l.length := (List.getElem?_eq_some_iff.1 hk).1
    have hkz : (k : Int) < (l.length : Int) := by omega
    have hk0 : ¬ (k : Int) < 0 := by omega
    have H := hide h
    clear h hcl hk
    go_wp2
    go_ret2
    exact ⟨by rw [H.out]; rfl, HL.out⟩

/-- What is asked of a closure that tells what variables stand for. -/
def Tells (g : Nat) (cb : Array Value) (l : List BindD) (w0 : World) : Prop := ∀ w v, Later w0 w → Calls Tryz.prog g (#[.string v] ++ cb) w fun e w' => e = .returned (toldV (getB l v)) ∧ Later w w'

set_option maxHeartbeats 1000000 in
theorem worthC (g : Nat) (cb : Array Value) (eg : ∀ args w, (callFunc g args).run Tryz.prog w = .ok (.enter g args) w) (t : TermD) (l : List BindD) (w0 w : World) (h : Tells g cb l w0) (hL : Later w0 w) :
    Calls Tryz.prog 28 #[.agg #[.bool t.1, .string (bs t.2)], .func (.func g) #[] cb] w fun e w' => e = .returned (toldV (worthB l t)) ∧ Later w w' := by
  obtain ⟨t1, t2⟩ := t
  cases t1
  · show Calls _ _ _ _ fun e w' => e = .returned (toldV (some (bs t2))) ∧ _
    dsimp only
    generalize bs t2 = k
    clear h
    go_enter Tryz.func28, Tryz.ntmps28
    go_wp2
    go_ret2
    exact ⟨rfl, (by repeat (first | exact Later.refl _ | assumption | refine Later.drewN ?_ _ | refine Later.drew ?_ | refine Later.alloc ?_ _ | refine Later.grow ?_ _))⟩
  · show Calls _ _ _ _ fun e w' => e = .returned (toldV (getB l (bs t2))) ∧ _
    dsimp only
    generalize bs t2 = k
    have HT := hide (h (w.alloc (.cells #[.bool true, .string k] 70)) k (hL.alloc _))
    clear h
    unfold toldV at HT ⊢
    generalize (getB l k).getD ByteArray.empty = s at *
    generalize (getB l k).isSome = b at *
    go_enter Tryz.func28, Tryz.ntmps28
    go_wp2_with fail
    refine HT.out.mono ?_
    rintro e w2 ⟨rfl, hL2⟩
    have HL2 := hide (((Later.refl w).alloc (.cells #[.bool true, .string k] 70)).trans hL2)
    clear hL2 HT
    go_wp2
    go_ret2
    exact ⟨rfl, HL2.out⟩

end Go.Proofs.YtkijmalapjiopaaGreat
