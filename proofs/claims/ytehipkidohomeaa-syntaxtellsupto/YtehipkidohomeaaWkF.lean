/- The walk of the reference's Parse. -/
import Derived.Test.YtehipkidohomeaaWkD
import Derived.RegionTactic
import Derived.ChangeAlike
namespace Go.Proofs.Ytehipkidohomeaa
open Go.RowKit Go.Sort

theorem appendProg {lo : Nat} {w : World} {v : Value} {l : List RuleD} (h : ruleK.own 56 lo w v l) {c : List Value} {x : RuleD} (hc : ruleK.is (fun k => lo ≤ k ∧ v.ownBlock ≠ some k) w c x) (hl : l.length + 1 ≤ 1099511627776) (hlo : lo ≤ w.heap.size) :
    ∃ v' w', (Builtin.append_ #[43, 43] 43 #[v, .slice (some ⟨w.heap.size, 0, none⟩) 1 1]).run Try.prog (w.alloc (.cells c.toArray 56)) = .ok v' w' ∧ ruleK.own 56 lo w' v' (l ++ [x]) ∧ (w.alloc (.cells c.toArray 56)).grownBy w' v.ownBlock := by
  obtain ⟨i, i1, i2, i3, i4⟩ := infoRule
  exact Kind.own_append h Try.underlying43 i1 i2 i3 i4 rfl (by decide) (by decide) hc hl hlo

abbrev zeroRow (w : World) (R : Nat) : Prop := w.heap[R]? = some (.cells #[.int .i64 0, .int .i64 0] 30 (0, 0))
theorem fault_at {w : World} {R : Nat} {u0 u1 : Value} {t : TypeId} {fr : Nat × Nat} (h : w.heap[R]? = some (.cells #[u0, u1] t fr)) (x y : Value) :
    ((w.setCell ⟨R, 0, none⟩ x).setCell ⟨R, 1, none⟩ y).cell? ⟨R, 0, none⟩ = some x ∧ ((w.setCell ⟨R, 0, none⟩ x).setCell ⟨R, 1, none⟩ y).cell? ⟨R, 1, none⟩ = some y := by
  have h2 := setCell_at (j := 1) (setCell_at (j := 0) h x) y
  exact ⟨by rw [cell_of_row _ _ _ _ _ _ h2]; rfl, by rw [cell_of_row _ _ _ _ _ _ h2]; rfl⟩

/-- A walk, made. -/
theorem wkMade (w : World) (s : ByteArray) (hs : s.size ≤ 3000) : Wk (w.alloc (.cells #[.string s, .int .i64 0, .int .i64 0, .int .i64 0] 87)) w.heap.size s (raw s) 0 0 := by
  have hp : pos s (raw s) = 0 := by simp [pos, length_raw]
  refine ⟨hs, List.suffix_refl _, by simp, by simp, by rw [hp]; simp, by simp, by simp, ?_, ?_, ?_⟩
  all_goals exact frozen_at _ (heap_alloc_new w _)

theorem rulesGo_step {k : Nat} {out : List RuleD} {l : Bs} (hs : skip l = l) (hl : l ≠ []) : rulesGo (k + 1) out l = (rule l).next fun a r => rulesGo k (out ++ [a]) r := by
  rw [rulesGo, if_neg (by rw [hs]; exact hl), hs]
theorem rulesGo_many {out : List RuleD} {l : Bs} (hs : skip l = l) (hl : l ≠ []) : rulesGo 0 out l = .bad 5 l := by
  unfold rulesGo; rw [if_neg (by rw [hs]; exact hl), hs]
/-- What the loop over rules keeps. -/
def RulesR (w : World) (s : ByteArray) (g : Nat) (v : Value) (wr : World) : Prop :=
  ∃ out, ruleK.own 56 (w.heap.size + 2) wr v out ∧ Below w.heap.size w wr ∧ zeroRow wr w.heap.size ∧ out.length ≤ 16 ∧
    ((∃ l', g = 17 - out.length ∧ Wk wr (w.heap.size + 1) s l' 0 0 ∧ skip l' = l' ∧ rulesGo 16 [] (raw s) = rulesGo (16 - out.length) out l') ∨
     ∃ n r l', n ≠ 0 ∧ Wk wr (w.heap.size + 1) s l' n (pos s r) ∧ rulesGo 16 [] (raw s) = .bad n r)

/-- Where the loop ends. -/
def RulesE (w : World) (s : ByteArray) (v : Value) (wr : World) : Prop :=
  ∃ out, ruleK.own 56 (w.heap.size + 2) wr v out ∧ Below w.heap.size w wr ∧ zeroRow wr w.heap.size ∧ out.length ≤ 16 ∧
    ((∃ l', Wk wr (w.heap.size + 1) s l' 0 0 ∧ toldRule (raw s) = (out, 0, 0)) ∨ ∃ n r l', n ≠ 0 ∧ Wk wr (w.heap.size + 1) s l' n (pos s r) ∧ toldRule (raw s) = ([], n, pos s r))

theorem told_bad {s : ByteArray} {n : Int} {r : Bs} (hs : s.size ≤ 3000) (h : rulesGo 16 [] (raw s) = .bad n r) : toldRule (raw s) = ([], n, pos s r) := by
  unfold toldRule; rw [if_neg (by rw [length_raw]; omega), h, length_raw]; rfl
theorem told_good {s : ByteArray} {out : List RuleD} {r : Bs} (hs : s.size ≤ 3000) (h : rulesGo 16 [] (raw s) = .ok out r) : toldRule (raw s) = (out, 0, 0) := by
  unfold toldRule; rw [if_neg (by rw [length_raw]; omega), h]

theorem rule_bad {l : Bs} {n : Int} {r : Bs} (h : atom l = .bad n r) : rule l = .bad n r := by unfold rule; rw [h]; rfl
theorem rule_ok {l : Bs} {a : AtomD} {r : Bs} (h : atom l = .ok a r) : rule l = if (took [58, 45] r).1 then (body (took [58, 45] r).2).next fun b r => mustTake [46] ⟨a, b⟩ r else mustTake [46] ⟨a, []⟩ (took [58, 45] r).2 := by unfold rule; rw [h]; rfl

/-- A row of rules of the call's own, all that it leads to lying below B. -/
def OwnB (lo B : Nat) (w : World) (v : Value) (l : List RuleD) : Prop :=
  ∃ xs, w.ownsRow lo 56 4 v l.length xs ∧ (∀ k, v.ownBlock = some k → k < B) ∧ ∀ i x, l[i]? = some x → ∃ c, ruleK.is (fun k => lo ≤ k ∧ v.ownBlock ≠ some k ∧ k < B) w c x ∧ ∀ j u, c[j]? = some u → xs[i * 4 + j]? = some u
theorem OwnB.own {lo B : Nat} {w : World} {v : Value} {l : List RuleD} (h : OwnB lo B w v l) : ruleK.own 56 lo w v l := by
  obtain ⟨xs, ho, _, hx⟩ := h
  exact ⟨xs, ho, fun i x hi => by obtain ⟨c, c1, c2⟩ := hx i x hi; exact ⟨c, ruleK.mono c1 fun k _ hk => ⟨hk.1, hk.2.1⟩, c2⟩⟩
theorem OwnB.of_own {lo B : Nat} {w : World} {v : Value} {l : List RuleD} (h : ruleK.own 56 lo w v l) (hB : w.heap.size ≤ B) : OwnB lo B w v l := by
  have hlt := fun k (e : v.ownBlock = some k) => (Kind.own_lt h e).2
  obtain ⟨xs, ho, hx⟩ := h
  exact ⟨xs, ho, fun k e => Nat.lt_of_lt_of_le (hlt k e) hB, fun i x hi => by obtain ⟨c, c1, c2⟩ := hx i x hi; exact ⟨c, ruleK.mono c1 fun k hk hh => ⟨hh.1, hh.2, Nat.lt_of_lt_of_le hk hB⟩, c2⟩⟩
theorem OwnB.kept {lo B : Nat} {w w' : World} {v : Value} {l : List RuleD} (h : OwnB lo B w v l) (hs : w.heap.size ≤ w'.heap.size) (hk : ∀ k, lo ≤ k → k < B → k < w.heap.size → w'.heap[k]? = w.heap[k]?) : OwnB lo B w' v l := by
  obtain ⟨xs, ho, hb, hx⟩ := h
  refine ⟨xs, ⟨ho.1, ?_⟩, hb, fun i x hi => ?_⟩
  · rcases ho.2 with e | ⟨g, cap, cur, rfl, hbg, hg, r⟩
    · exact Or.inl e
    · exact Or.inr ⟨g, cap, cur, rfl, hbg, by rw [hk g hbg (hb g rfl) (Array.getElem?_eq_some_iff.1 hg).1]; exact hg, r⟩
  · obtain ⟨c, c1, c2⟩ := hx i x hi
    exact ⟨c, ruleK.kept c1 hs fun k hk1 hh => hk k hh.1 hh.2.2 hk1, c2⟩

/-- A rule that is being made. -/
structure RBox (w0 : World) (B : Nat) (a : AtomD) (tv bv : Value) (bl : List AtomD) (v : Value) (out : List RuleD) (w : World) : Prop where
  bel : Below w0.heap.size w0 w
  zero : zeroRow w w0.heap.size
  hB : w0.heap.size + 1 < B
  row : w.heap[B]? = some (.cells #[.bool a.no, .string (bs a.name), tv, bv] 56 (0, 0))
  ownB : OwnB (w0.heap.size + 2) B w v out
  ts : termK.sl (fun k => w0.heap.size + 2 ≤ k ∧ v.ownBlock ≠ some k ∧ k ≠ B) w tv a.terms
  bs' : atomK.sl (fun k => w0.heap.size + 2 ≤ k ∧ v.ownBlock ≠ some k ∧ k ≠ B) w bv bl

theorem RBox.own {w0 : World} {B : Nat} {a : AtomD} {tv bv : Value} {bl : List AtomD} {v : Value} {out : List RuleD} {w : World} (h : RBox w0 B a tv bv bl v out w) : ruleK.own 56 (w0.heap.size + 2) w v out := h.ownB.own
theorem RBox.z {w0 : World} {B : Nat} {a : AtomD} {tv bv : Value} {bl : List AtomD} {v : Value} {out : List RuleD} {w : World} (h : RBox w0 B a tv bv bl v out w) : w.cell? ⟨B, 0, none⟩ = some (.bool a.no) ∧ w.cell? ⟨B, 1, none⟩ = some (.string (bs a.name)) ∧ w.cell? ⟨B, 2, none⟩ = some tv ∧ w.cell? ⟨B, 3, none⟩ = some bv :=
  ⟨by rw [cell_of_row _ _ _ _ _ _ h.row]; rfl, by rw [cell_of_row _ _ _ _ _ _ h.row]; rfl, by rw [cell_of_row _ _ _ _ _ _ h.row]; rfl, by rw [cell_of_row _ _ _ _ _ _ h.row]; rfl⟩
theorem RBox.turned {w0 : World} {B : Nat} {a : AtomD} {tv bv : Value} {bl : List AtomD} {v : Value} {out : List RuleD} {w w' : World} (h : RBox w0 B a tv bv bl v out w) (k : Tn (w0.heap.size + 1) w w') : RBox w0 B a tv bv bl v out w' := by
  have hb := h.hB
  have hlt : B < w.heap.size := (Array.getElem?_eq_some_iff.1 h.row).1
  exact ⟨below_trans h.bel (k.below (n := w0.heap.size) (by omega) h.bel.size) (Nat.le_refl _), by show _ = _; rw [k.block _ (by omega) (by omega)]; exact h.zero, hb, by rw [k.block _ hlt (by omega)]; exact h.row, h.ownB.kept k.size (fun i h1 _ h3 => k.block i h3 (by omega)),
    Kind.sl_kept h.ts k.size fun i hi hB => k.block i hi (by have := hB.1; omega), Kind.sl_kept h.bs' k.size fun i hi hB => k.block i hi (by have := hB.1; omega)⟩

end Go.Proofs.Ytehipkidohomeaa
