/- The reference's levels, plain: they are the strata. Nothing of the program. -/
import Derived.Test.YthogickpeldhlaaChkG
namespace Go.Proofs.Ythogickpeldhlaa

def levAtom (hd : Bs → Bool) (h : Bs) (lev : Bs → Nat) (a : AtomD) : Bs → Nat := fun s => if s = h then max (lev h) (if a.no && hd a.name then lev a.name + 1 else lev a.name) else lev s
def levRule (hd : Bs → Bool) (lev : Bs → Nat) (r : RuleD) : Bs → Nat := r.body.foldl (levAtom hd r.head.name) lev
def levAll (hd : Bs → Bool) (p : List RuleD) (lev : Bs → Nat) : Bs → Nat := p.foldl (levRule hd) lev
def levs (hd : Bs → Bool) (p : List RuleD) : Nat → (Bs → Nat) → Bs → Nat
  | 0, f => f
  | n + 1, f => levs hd p n (levAll hd p f)

theorem levAtom_eq {p : List RuleD} {hd : Bs → Bool} (hh : ∀ s, hd s = true ↔ isHead p s) {x : Nums × Bool} (hx : Doms p x.1) {h : Bs} (hH : isHead p h) (a : AtomD) : levAtom hd h (numOf x.1) a = numOf (liftAtom h x a).1 ∧ Doms p (liftAtom h x a).1 := by
  have hb : (if a.no && hd a.name then numOf x.1 a.name + 1 else numOf x.1 a.name) = behind x.1 a := by
    by_cases hc : isHead p a.name
    · rw [behind_eq hx a hc, (hh a.name).2 hc]
      unfold step
      cases a.no <;> simp
    · have h1 : hd a.name = false := by
        cases e : hd a.name with
        | false => rfl
        | true => exact absurd ((hh a.name).1 e) hc
      have h2 : x.1 a.name = none := by
        cases e : x.1 a.name with
        | none => rfl
        | some n => exact absurd ((hx a.name).1 (by rw [e]; rfl)) hc
      rw [behind_none hx a hc, h1]
      simp [numOf, h2]
  constructor
  · funext s
    unfold levAtom
    rw [hb]
    unfold liftAtom
    split
    · rename_i hs
      subst hs
      split
      · show _ = numOf (x.1.put _ _) _
        rw [numOf_put, if_pos rfl]; omega
      · omega
    · rename_i hs
      split
      · show _ = numOf (x.1.put _ _) _
        rw [numOf_put, if_neg hs]
      · rfl
  · unfold liftAtom
    split
    · exact hx.put hH _
    · exact hx

theorem levRule_eq {p : List RuleD} {hd : Bs → Bool} (hh : ∀ s, hd s = true ↔ isHead p s) {h : Bs} (hH : isHead p h) : ∀ (l : List AtomD) (x : Nums × Bool), Doms p x.1 → l.foldl (levAtom hd h) (numOf x.1) = numOf (l.foldl (liftAtom h) x).1 ∧ Doms p (l.foldl (liftAtom h) x).1
  | [], x, hx => ⟨rfl, hx⟩
  | a :: l, x, hx => by
    obtain ⟨e, hd'⟩ := levAtom_eq hh hx hH a
    rw [List.foldl_cons, List.foldl_cons, e]
    exact levRule_eq hh hH l _ hd'
theorem levAll_eq {p : List RuleD} {hd : Bs → Bool} (hh : ∀ s, hd s = true ↔ isHead p s) : ∀ (l : List RuleD) (x : Nums × Bool), (∀ r ∈ l, r ∈ p) → Doms p x.1 → l.foldl (levRule hd) (numOf x.1) = numOf (liftAll x l).1 ∧ Doms p (liftAll x l).1
  | [], x, _, hx => ⟨rfl, hx⟩
  | r :: l, x, hl, hx => by
    obtain ⟨e, hd'⟩ := levRule_eq hh ⟨r, hl r (by simp), rfl⟩ r.body x hx
    rw [List.foldl_cons]
    show l.foldl (levRule hd) (levRule hd (numOf x.1) r) = _ ∧ _
    have e' : levRule hd (numOf x.1) r = numOf (liftRule x r).1 := e
    rw [e']
    exact levAll_eq hh l (liftRule x r) (fun q hq => hl q (by simp [hq])) hd'

/-- Rounds of lifting, without a stop. -/
def lifts (p : List RuleD) : Nat → Nums → Nums
  | 0, m => m
  | n + 1, m => lifts p n (liftAll (m, false) p).1
theorem levs_eq {p : List RuleD} {hd : Bs → Bool} (hh : ∀ s, hd s = true ↔ isHead p s) : ∀ (n : Nat) (m : Nums), Doms p m → levs hd p n (numOf m) = numOf (lifts p n m)
  | 0, _, _ => rfl
  | n + 1, m, hm => by
    obtain ⟨e, hd'⟩ := levAll_eq hh p (m, false) (fun _ h => h) hm
    show levs hd p n (levAll hd p (numOf m)) = _
    have e' : levAll hd p (numOf m) = numOf (liftAll (m, false) p).1 := e
    rw [e']
    exact levs_eq hh n _ hd'

theorem lifts_still {p : List RuleD} {m : Nums} (h : liftAll (m, false) p = (m, false)) : ∀ n, lifts p n m = m
  | 0 => rfl
  | n + 1 => by show lifts p n (liftAll (m, false) p).1 = m; rw [h]; exact lifts_still h n
theorem lifts_go {p : List RuleD} : ∀ (n : Nat) (m m' : Nums) (k : Nat), strataGo p n m = some m' → n ≤ k → lifts p k m = m'
  | 0, m, m', k, h, _ => by cases h
  | n + 1, m, m', k, h, hk => by
    unfold strataGo at h
    split at h
    · obtain ⟨k, rfl⟩ : ∃ j, k = j + 1 := ⟨k - 1, by omega⟩
      exact lifts_go n _ m' k h (by omega)
    · rename_i hf
      obtain ⟨e, _⟩ := liftAll_rest p m (by simpa using hf)
      rw [e] at h
      cases h
      exact lifts_still e k

/-- THE LEVELS ARE THE STRATA. -/
theorem levs_strata {p : List RuleD} {hd : Bs → Bool} (hh : ∀ s, hd s = true ↔ isHead p s) (hw : (wrongP p).1 = 0) {σ : Bs → Nat} (h : Sol p σ) (f : Bs → Nat) (hf : ∀ s, f s = 0) : strataP p = (p.map fun r => levs hd p (p.length + 1) f r.head.name, 0, 0) := by
  obtain ⟨τ, hτ, hmin⟩ := least_sol h
  obtain ⟨m, hm⟩ := strataGo_ends hτ hmin (p.length + 1) (start p) (start_dom p) (start_least p) (by omega)
  have e0 : f = numOf (start p) := by funext s; rw [hf, start_zero]
  rw [e0, levs_eq hh _ _ (start_dom p), lifts_go _ _ _ _ hm (Nat.le_refl _)]
  unfold strataP
  rw [if_pos hw, hm]
  rfl

/-- WHERE SOMEBODY HANGS ON ITSELF OVER A STEP THERE ARE NONE. -/
theorem no_strata {p : List RuleD} (hw : (wrongP p).1 = 0) (h : ¬ ∃ σ, Sol p σ) : strataP p = ([], 10, 0) := by
  unfold strataP
  rw [if_pos hw]
  cases hc : strataGo p (p.length + 1) (start p) with
  | none => rfl
  | some m =>
    obtain ⟨d, _, hs⟩ := strataGo_some _ _ _ (start_dom p) (start_least p) hc
    exact absurd ⟨_, sol_of d hs⟩ h

end Go.Proofs.Ythogickpeldhlaa
