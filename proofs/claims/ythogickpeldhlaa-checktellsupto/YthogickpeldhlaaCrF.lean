/- The walk of the reference's WrongProgram. -/
import Derived.Test.YthogickpeldhlaaCrE
import Derived.Test.YthogickpeldhlaaCkF
import Derived.Test.YthogickpeldhlaaRowA
import Derived.Test.YthogickpeldhlaaManyK
namespace Go.Proofs.Ythogickpeldhlaa
open Go.RowKit Go.Sort Go.Maps

/-- append of a slice of atoms that was there. -/
theorem RowA.many {w0 w : World} {lo : Nat} {v : Value} {l m : List AtomD} {a : Option Addr} {cap : Nat} (h : RowA w0 lo w v l) (hlo : lo ≤ w.heap.size) (hb : Below w0.heap.size w0 w) (hm : atomK.sl Anyw w0 (.slice a m.length cap) m) (hl : (l.length + m.length) * 48 ≤ 140737488355328) :
    ∃ v' w', (Builtin.append_ #[48, 48] 48 #[v, .slice a m.length cap]).run Try.prog w = .ok v' w' ∧ RowA w0 lo w' v' (l ++ m) ∧ w.grownBy w' v.ownBlock := by
  obtain ⟨i, i1, i2, i3, i4⟩ := infoAtom4
  obtain ⟨xs, ho, hx⟩ := h
  cases a with
  | none =>
    have hm0 : m = [] := by
      refine Classical.byContradiction fun hne => ?_
      obtain ⟨_, a', _, e, h1⟩ := hm
      simp only [Value.slice.injEq] at e
      obtain ⟨b, off, e', _⟩ := h1 hne
      rw [e'] at e; cases e.1
    subst hm0
    refine ⟨v, w, ?_, by rw [List.append_nil]; exact ⟨xs, ho, hx⟩, ⟨rfl, rfl, rfl, Nat.le_refl _, fun _ _ _ => rfl⟩⟩
    rcases ho.2 with ⟨rfl, e0⟩ | ⟨g, c, cur, rfl, _, _, hnc, _⟩
    · simp [Builtin.append_, run_underlying Try.underlying48, sizeOf, typeInfo, i1, Builtin.lenOf, Builtin.firstCells]
    · simp [Builtin.append_, run_underlying Try.underlying48, sizeOf, typeInfo, i1, Builtin.lenOf, Builtin.firstCells, hnc, storeCells]
  | some a =>
    obtain ⟨cs, cl, clen, cone, ccell, cis⟩ := Kind.sl_cells hm (by decide)
    have hxl : xs.length = l.length * 3 := ho.1
    obtain ⟨v', w', hrun, r1, r2, _, _⟩ := append_own (P := Try.prog) w lo 48 48 54 i _ 3 48 Try.underlying48 i1 i2 i3 i4 rfl (by omega) v l.length xs ho a m.length cap cs.flatten (by rw [flat_len _ clen, cl]; rfl)
      (fun j u hu => by
        have hc := ccell j u hu
        rw [hb.cell (World.block_lt_of_cell? w0 _ hc)]; exact hc)
      (fun u hu => by rw [List.mem_flatten] at hu; obtain ⟨c, hc, hu⟩ := hu; exact cone c hc u hu) (by simp only [maxLen]; omega) hl hlo
    refine ⟨v', w', hrun, ⟨xs ++ cs.flatten, by rw [List.length_append]; exact r1, fun j y hj => ?_⟩, r2⟩
    by_cases hjl : j < l.length
    · rw [List.getElem?_append_left hjl] at hj
      obtain ⟨d, d1, d2⟩ := hx j y hj
      refine ⟨d, d1, fun q u hu => ?_⟩
      have := d2 q u hu
      rw [List.getElem?_append_left (List.getElem?_eq_some_iff.1 this).1]; exact this
    · rw [List.getElem?_append_right (by omega)] at hj
      have hjm := (List.getElem?_eq_some_iff.1 hj).1
      have hc : cs[j - l.length]? = some (cs[j - l.length]'(by omega)) := List.getElem?_eq_getElem (by omega)
      refine ⟨_, cis _ _ y hc hj, fun q u hu => ?_⟩
      have hq : q < 3 := by
        have := clen _ (List.getElem_mem (by omega : j - l.length < cs.length))
        have h2 := (List.getElem?_eq_some_iff.1 hu).1
        rw [this] at h2; exact h2
      have := flat_get cs clen _ _ q hc hq
      rw [List.getElem?_append_right (by omega), hxl, show j * 3 + q - l.length * 3 = (j - l.length) * 3 + q by omega]
      exact this.trans hu

/-- The reference keeps one more. -/
def more (m : Nums) : Nums := fun s => (m s).map (· + 1)

theorem more_put (m : Nums) (s : Bs) (n : Nat) : (more m).put s (n + 1) = more (m.put s n) := by
  funext t
  unfold more Nums.put
  by_cases h : t = s
  · simp [h]
  · simp [h]

theorem put_self {m : Nums} {s : Bs} {n : Nat} (h : m s = some n) : m.put s n = m := by
  funext t
  unfold Nums.put
  by_cases e : t = s
  · rw [if_pos e, e, h]
  · rw [if_neg e]

theorem fitOne_none {m : Nums} {a : AtomD} (h : m a.name = none) : fitOne m a = (true, m.put a.name a.terms.length) := by unfold fitOne; rw [h]
theorem fitOne_some {m : Nums} {a : AtomD} {n : Nat} (h : m a.name = some n) : fitOne m a = (decide (n = a.terms.length), m) := by unfold fitOne; rw [h]

theorem wrongRule_fit {m : Nums} {r : RuleD} (h0 : wrongAtom r.head = 0) (hn : r.head.no = false) (hb : wrongBody r.body = 0) (hv : (vars r.head).all (givenBy r.body) = true) :
    wrongRule m r = (if (fitAll m (r.head :: r.body)).1 then 0 else 8, (fitAll m (r.head :: r.body)).2) := by
  have hfa : fitAll m (r.head :: r.body) = if (fitOne m r.head).1 then fitAll (fitOne m r.head).2 r.body else (false, (fitOne m r.head).2) := rfl
  generalize fitAll m (r.head :: r.body) = X at *
  unfold wrongRule
  rw [if_pos h0, hn, if_pos hb, hv]
  by_cases h1 : (fitOne m r.head).1 = true
  · rw [if_pos h1] at hfa
    subst hfa
    simp [h1]
  · rw [if_neg h1] at hfa
    subst hfa
    simp [h1]

end Go.Proofs.Ythogickpeldhlaa
