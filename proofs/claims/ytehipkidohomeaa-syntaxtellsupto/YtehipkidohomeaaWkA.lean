/- The reference's Walk.Atom: the atom that is being made, and the walk's word and eat beside it. -/
import Derived.Test.YtehipkidohomeaaWkW
import Derived.Test.YtehipkidohomeaaHeld
namespace Go.Proofs.Ytehipkidohomeaa
open Go.RowKit Go.Sort

theorem setCell_at {w : World} {g j : Nat} {cs : Array Value} {t : TypeId} {fr : Nat × Nat} (h : w.heap[g]? = some (.cells cs t fr)) (u : Value) : (w.setCell ⟨g, j, none⟩ u).heap[g]? = some (.cells (cs.setIfInBounds j u) t fr) := by
  simp [World.setCell, Array.getElem?_modify, h]
theorem frozen_at {w : World} {g : Nat} (j : Nat) {cs : Array Value} {t : TypeId} (h : w.heap[g]? = some (.cells cs t (0, 0))) : w.frozen? ⟨g, j, none⟩ = false := by simp [World.frozen?, h]

/-- An atom that is being made, in a box of its own behind the box of the result. -/
structure ABox (w0 : World) (p : Nat) (no : Bool) (nm : Bs) (v : Value) (ts : List TermD) (w : World) : Prop where
  tn : Tn p w0 w
  rR : w.heap[w0.heap.size]? = some (.cells #[.bool false, .string { data := #[] }, .slice none 0 0] 54 (0, 0))
  rA : w.heap[w0.heap.size + 1]? = some (.cells #[.bool no, .string (bs nm), v] 54 (0, 0))
  own : termK.own 105 (w0.heap.size + 2) w v ts

section
variable {w0 w w' : World} {p : Nat} {no : Bool} {nm : Bs} {v : Value} {ts : List TermD}

theorem ABox.made (w0 : World) (p : Nat) : ABox w0 p false [] (.slice none 0 0) [] ((w0.alloc (.cells #[.bool false, .string { data := #[] }, .slice none 0 0] 54)).alloc (.cells #[.bool false, .string { data := #[] }, .slice none 0 0] 54)) := by
  refine ⟨Tn.of_below (((Later.refl w0).alloc _).alloc _).below, ?_, ?_, termK.own_nil _ _ _⟩
  · rw [Below.heap_alloc _ _ _ (by simp), heap_alloc_new]
  · have := heap_alloc_new (w0.alloc (.cells #[.bool false, .string { data := #[] }, .slice none 0 0] 54)) (.cells #[.bool false, .string { data := #[] }, .slice none 0 0] 54)
    rw [World.size_alloc] at this
    exact this

theorem ABox.lt (h : ABox w0 p no nm v ts w) : w0.heap.size + 1 < w.heap.size := (Array.getElem?_eq_some_iff.1 h.rA).1
theorem ABox.turned (h : ABox w0 p no nm v ts w) (k : Tn p w w') (hp : p < w0.heap.size) : ABox w0 p no nm v ts w' := by
  have hl := h.lt
  exact ⟨h.tn.trans k, by rw [k.block _ (by omega) (by omega)]; exact h.rR, by rw [k.block _ hl (by omega)]; exact h.rA, Kind.own_turned h.own k (by omega)⟩
theorem ABox.z (h : ABox w0 p no nm v ts w) : w.cell? ⟨w0.heap.size + 1, 0, none⟩ = some (.bool no) ∧ w.cell? ⟨w0.heap.size + 1, 1, none⟩ = some (.string (bs nm)) ∧ w.cell? ⟨w0.heap.size + 1, 2, none⟩ = some v :=
  ⟨by rw [cell_of_row _ _ _ _ _ _ h.rA]; rfl, by rw [cell_of_row _ _ _ _ _ _ h.rA]; rfl, by rw [cell_of_row _ _ _ _ _ _ h.rA]; rfl⟩
theorem ABox.fz (h : ABox w0 p no nm v ts w) (j : Nat) : w.frozen? ⟨w0.heap.size + 1, j, none⟩ = false := frozen_at j h.rA
theorem ABox.y (h : ABox w0 p no nm v ts w) : w.cell? ⟨w0.heap.size, 0, none⟩ = some (.bool false) ∧ w.cell? ⟨w0.heap.size, 1, none⟩ = some (.string { data := #[] }) ∧ w.cell? ⟨w0.heap.size, 2, none⟩ = some (.slice none 0 0) :=
  ⟨by rw [cell_of_row _ _ _ _ _ _ h.rR]; rfl, by rw [cell_of_row _ _ _ _ _ _ h.rR]; rfl, by rw [cell_of_row _ _ _ _ _ _ h.rR]; rfl⟩
theorem ABox.fy (h : ABox w0 p no nm v ts w) (j : Nat) : w.frozen? ⟨w0.heap.size, j, none⟩ = false := frozen_at j h.rR

theorem tn_own (g j : Nat) (w : World) (x : Value) : Tn g w (w.setCell ⟨g, j, none⟩ x) := (Tn.refl g w).setCell (Or.inl rfl) x

theorem ABox.setNo (h : ABox w0 p no nm v ts w) (x : Bool) : ABox w0 p x nm v ts (w.setCell ⟨w0.heap.size + 1, 0, none⟩ (.bool x)) :=
  ⟨h.tn.setCell (Or.inr (Nat.le_succ _)) _, by rw [heap_setCell_other _ _ _ (by show w0.heap.size ≠ w0.heap.size + 1; omega)]; exact h.rR, by rw [setCell_at h.rA]; rfl, Kind.own_turned h.own (tn_own _ _ _ _) (Nat.lt_succ_self _)⟩
theorem ABox.setName (h : ABox w0 p no nm v ts w) (x : Bs) : ABox w0 p no x v ts (w.setCell ⟨w0.heap.size + 1, 1, none⟩ (.string (bs x))) :=
  ⟨h.tn.setCell (Or.inr (Nat.le_succ _)) _, by rw [heap_setCell_other _ _ _ (by show w0.heap.size ≠ w0.heap.size + 1; omega)]; exact h.rR, by rw [setCell_at h.rA]; rfl, Kind.own_turned h.own (tn_own _ _ _ _) (Nat.lt_succ_self _)⟩
theorem ABox.setTerms {v' : Value} {ts' : List TermD} (ht : Tn p w0 w) (hR : w.heap[w0.heap.size]? = some (.cells #[.bool false, .string { data := #[] }, .slice none 0 0] 54 (0, 0))) (hA : w.heap[w0.heap.size + 1]? = some (.cells #[.bool no, .string (bs nm), v] 54 (0, 0)))
    (ho : termK.own 105 (w0.heap.size + 2) w v' ts') : ABox w0 p no nm v' ts' (w.setCell ⟨w0.heap.size + 1, 2, none⟩ v') :=
  ⟨ht.setCell (Or.inr (Nat.le_succ _)) _, by rw [heap_setCell_other _ _ _ (by show w0.heap.size ≠ w0.heap.size + 1; omega)]; exact hR, by rw [setCell_at hA]; rfl, Kind.own_turned ho (tn_own _ _ _ _) (Nat.lt_succ_self _)⟩

/-- What is handed back. -/
def backA (w0 : World) (no : Bool) (nm : Bs) (v : Value) (w : World) : World := ((w.setCell ⟨w0.heap.size, 0, none⟩ (.bool no)).setCell ⟨w0.heap.size, 1, none⟩ (.string (bs nm))).setCell ⟨w0.heap.size, 2, none⟩ v
theorem ABox.back (h : ABox w0 p no nm v ts w) : (backA w0 no nm v w).heap[w0.heap.size]? = some (.cells #[.bool no, .string (bs nm), v] 54 (0, 0)) := by
  unfold backA; rw [setCell_at (setCell_at (setCell_at h.rR _) _) _]; rfl
theorem ABox.backTn (h : ABox w0 p no nm v ts w) : Tn p w0 (backA w0 no nm v w) := ((h.tn.setCell (Or.inr (Nat.le_refl _)) _).setCell (Or.inr (Nat.le_refl _)) _).setCell (Or.inr (Nat.le_refl _)) _
theorem tn_back (w0 : World) (no : Bool) (nm : Bs) (v : Value) (w : World) : Tn w0.heap.size w (backA w0 no nm v w) := ((tn_own _ _ _ _).trans (tn_own _ _ _ _)).trans (tn_own _ _ _ _)
theorem ABox.val (h : ABox w0 p no nm v ts w) (hl : ts.length ≤ 4) : atomK.val w0.heap.size (backA w0 no nm v w) (.agg #[.bool no, .string (bs nm), v]) ⟨no, nm, ts⟩ := by
  refine ⟨[.bool no, .string (bs nm), v], rfl, v, rfl, ?_⟩
  have := Kind.own_sl (Kind.own_turned h.own (tn_back w0 no nm v w) (by omega)) (by omega)
  exact Kind.sl_mono this fun k _ hk => by have : w0.heap.size + 2 ≤ k := hk; show w0.heap.size ≤ k; omega
end

/-- The terms that follow, k more at most. -/
def termsGo : Nat → List TermD → Bs → Res (List TermD)
  | 0, _, l => .bad 5 l
  | k + 1, ts, l => (term l).next fun t r => listGo term k (ts ++ [t]) r
theorem listGo_terms (k : Nat) (ts : List TermD) (l : Bs) : listGo term k ts l = if (took [44] l).1 then termsGo k ts (took [44] l).2 else .ok ts (took [44] l).2 := by
  cases k <;> (unfold listGo; rfl)
theorem listP_terms (l : Bs) : listP term 4 l = termsGo 4 [] l := rfl

/-- What the reference's Atom tells. -/
def atomX (no : Bool) (l : Bs) : Res AtomD := (word isNamed l).next fun nm r => if (took [40] r).1 then (termsGo 4 [] (took [40] r).2).next fun ts r => mustTake [41] ⟨no, nm, ts⟩ r else .ok ⟨no, nm, []⟩ (took [40] r).2

theorem atomX_atom (l : Bs) : atomX false l = atom l := rfl
theorem atomX_body (l : Bs) : atomX (took [33] l).1 (took [33] l).2 = bodyAtom l := by
  unfold bodyAtom atomX atom
  cases h : word isNamed (took [33] l).2 with
  | bad n r => rfl
  | ok nm r =>
    simp only [Res.next]
    split
    · rw [listP_terms]
      cases termsGo 4 [] (took [40] r).2 with
      | bad n r => rfl
      | ok ts r => simp only [mustTake]; split <;> rfl
    · rfl

theorem fitsW_named : fitsW false = isNamed := by funext x; simp [fitsW]
theorem fitsW_term : fitsW true = fitsTerm := by funext x; simp [fitsW, fitsTerm]
theorem term_ok {l : Bs} {x r : Bs} (h : word (fitsW true) l = .ok x r) : term l = .ok (isVar x, x) r := by rw [fitsW_term] at h; unfold term; rw [h]; rfl
theorem term_bad {l : Bs} {n : Int} {r : Bs} (h : word (fitsW true) l = .bad n r) : term l = .bad n r := by rw [fitsW_term] at h; unfold term; rw [h]; rfl

/-- word, beside the box. -/
theorem wWordB {w0 : World} {p : Nat} {s : ByteArray} {l : Bs} {no : Bool} {nm : Bs} {v : Value} {ts : List TermD} (vars : Bool) {w : World} (h : Wk w p s l 0 0) (hb : ABox w0 p no nm v ts w) (hp : p < w0.heap.size) :
    Calls Try.prog 114 #[.pointer (some ⟨p, 0, none⟩), .bool vars] w fun e w' => ABox w0 p no nm v ts w' ∧ ((∃ x r, word (fitsW vars) l = .ok x r ∧ e = .returned (.string (bs x)) ∧ x.length ≤ 3000 ∧ Wk w' p s r 0 0) ∨ ∃ n r x l', word (fitsW vars) l = .bad n r ∧ n ≠ 0 ∧ e = .returned (.string (bs x)) ∧ x.length ≤ 3000 ∧ Wk w' p s l' n (pos s r)) :=
  (wWord p s l vars w h).mono fun e w' ⟨hT, hE⟩ => by
    refine ⟨hb.turned hT hp, ?_⟩
    cases hx : word (fitsW vars) l with
    | ok a r =>
      rw [hx] at hE
      obtain ⟨u, rfl, ⟨rfl, hl⟩, hW⟩ := hE
      exact Or.inl ⟨a, r, rfl, rfl, hl, hW⟩
    | bad n r =>
      rw [hx] at hE
      obtain ⟨u, a, l', rfl, ⟨rfl, hl⟩, hW⟩ := hE
      exact Or.inr ⟨n, r, a, l', rfl, wrongs_word _ _ _ _ hx, rfl, hl, hW⟩

/-- eat, beside the box. -/
theorem wEatB {w0 : World} {p : Nat} {s : ByteArray} {l : Bs} {no : Bool} {nm : Bs} {v : Value} {ts : List TermD} (g : Bs) (hg : g.length ≤ 100) {w : World} (h : Wk w p s l 0 0) (hb : ABox w0 p no nm v ts w) (hp : p < w0.heap.size) :
    Calls Try.prog 78 #[.pointer (some ⟨p, 0, none⟩), .string (bs g)] w fun e w' => e = .returned (.bool (took g l).1) ∧ Wk w' p s (took g l).2 0 0 ∧ ABox w0 p no nm v ts w' :=
  (wEat p s l g w hg h).mono fun _ _ ⟨he, hW, hT⟩ => ⟨he, hW, hb.turned hT hp⟩

theorem Wk.block {w w' : World} {p : Nat} {s : ByteArray} {l : Bs} {n k : Int} (h : Wk w p s l n k) (e : w'.heap[p]? = w.heap[p]?) : Wk w' p s l n k := by
  have cell : ∀ o, w'.cell? ⟨p, o, none⟩ = w.cell? ⟨p, o, none⟩ := fun o => World.cell?_of_block (w := w) (a := ⟨p, o, none⟩) e
  have fz : ∀ o, w'.frozen? ⟨p, o, none⟩ = w.frozen? ⟨p, o, none⟩ := fun o => World.frozen?_of_block (w := w) (a := ⟨p, o, none⟩) e
  have hlt : p < w'.heap.size := by
    have h1 : w.heap[p]? = some (w.heap[p]'h.lt) := Array.getElem?_eq_getElem h.lt
    rw [h1] at e
    exact (Array.getElem?_eq_some_iff.1 e).1
  exact ⟨h.short, h.suf, hlt, by rw [cell]; exact h.c0, by rw [cell]; exact h.c1, by rw [cell]; exact h.c2, by rw [cell]; exact h.c3, by rw [fz]; exact h.f1, by rw [fz]; exact h.f2, by rw [fz]; exact h.f3⟩
theorem Wk.setOther {w : World} {p g j : Nat} {s : ByteArray} {l : Bs} {n k : Int} (h : Wk w p s l n k) (x : Value) (hg : g ≠ p) : Wk (w.setCell ⟨g, j, none⟩ x) p s l n k := h.turned (tn_own g j w x) hg

end Go.Proofs.Ytehipkidohomeaa
