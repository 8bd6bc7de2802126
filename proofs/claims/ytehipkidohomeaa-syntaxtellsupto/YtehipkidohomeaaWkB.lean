/- The walk of the reference's Walk.Atom. -/
import Derived.Test.YtehipkidohomeaaWkA
namespace Go.Proofs.Ytehipkidohomeaa
open Go.RowKit Go.Sort

theorem fitsW_named : fitsW false = isNamed := by funext x; simp [fitsW]
theorem fitsW_term : fitsW true = fitsTerm := by funext x; simp [fitsW, fitsTerm]
theorem term_ok {l : Bs} {x r : Bs} (h : word (fitsW true) l = .ok x r) : term l = .ok (isVar x, x) r := by rw [fitsW_term] at h; unfold term; rw [h]; rfl
theorem term_bad {l : Bs} {n : Int} {r : Bs} (h : word (fitsW true) l = .bad n r) : term l = .bad n r := by rw [fitsW_term] at h; unfold term; rw [h]; rfl

/-- word, beside the box. -/
theorem wWordB {w0 : World} {p : Nat} {s : ByteArray} {l : Bs} {no : Bool} {nm : Bs} {v : Value} {ts : List TermD} (vars : Bool) {w : World} (h : Wk w p s l 0 0) (hb : ABox w0 p no nm v ts w) (hp : p < w0.heap.size) :
    Calls Try.prog 114 #[.pointer (some ⟨p, 0, none⟩), .bool vars] w fun e w' => ABox w0 p no nm v ts w' ∧ ((∃ x r, word (fitsW vars) l = .ok x r ∧ e = .returned (.string (bs x)) ∧ x.length ≤ 3000 ∧ Wk w' p s r 0 0) ∨ ∃ n r x l', word (fitsW vars) l = .bad n r ∧ n ≠ 0 ∧ e = .returned (.string (bs x)) ∧ x.length ≤ 3000 ∧ Wk w' p s l' n (pos s r)) :=
  (wWord p s l vars w h).mono fun e w' ⟨hT, hE⟩ => by
    refine ⟨hb.turned hT hp, ?_⟩
    cases hx : word (fitsW vars) l with
    | ok a r =>
      rw [hx] at hE
      obtain ⟨u, rfl, ⟨rfl, hl⟩, hW⟩ := hE
      exact Or.inl ⟨a, r, rfl, rfl, hl, hW⟩
    | bad n r =>
      rw [hx] at hE
      obtain ⟨u, a, l', rfl, ⟨rfl, hl⟩, hW⟩ := hE
      exact Or.inr ⟨n, r, a, l', rfl, wrongs_word _ _ _ _ hx, rfl, hl, hW⟩

/-- eat, beside the box. -/
theorem wEatB {w0 : World} {p : Nat} {s : ByteArray} {l : Bs} {no : Bool} {nm : Bs} {v : Value} {ts : List TermD} (g : Bs) (hg : g.length ≤ 100) {w : World} (h : Wk w p s l 0 0) (hb : ABox w0 p no nm v ts w) (hp : p < w0.heap.size) :
    Calls Try.prog 78 #[.pointer (some ⟨p, 0, none⟩), .string (bs g)] w fun e w' => e = .returned (.bool (took g l).1) ∧ Wk w' p s (took g l).2 0 0 ∧ ABox w0 p no nm v ts w' :=
  (wEat p s l g w hg h).mono fun _ _ ⟨he, hW, hT⟩ => ⟨he, hW, hb.turned hT hp⟩

theorem Wk.block {w w' : World} {p : Nat} {s : ByteArray} {l : Bs} {n k : Int} (h : Wk w p s l n k) (e : w'.heap[p]? = w.heap[p]?) : Wk w' p s l n k := by
  have cell : ∀ o, w'.cell? ⟨p, o, none⟩ = w.cell? ⟨p, o, none⟩ := fun o => World.cell?_of_block (w := w) (a := ⟨p, o, none⟩) e
  have fz : ∀ o, w'.frozen? ⟨p, o, none⟩ = w.frozen? ⟨p, o, none⟩ := fun o => World.frozen?_of_block (w := w) (a := ⟨p, o, none⟩) e
  have hlt : p < w'.heap.size := by
    have h1 : w.heap[p]? = some (w.heap[p]'h.lt) := Array.getElem?_eq_getElem h.lt
    rw [h1] at e
    exact (Array.getElem?_eq_some_iff.1 e).1
  exact ⟨h.short, h.suf, hlt, by rw [cell]; exact h.c0, by rw [cell]; exact h.c1, by rw [cell]; exact h.c2, by rw [cell]; exact h.c3, by rw [fz]; exact h.f1, by rw [fz]; exact h.f2, by rw [fz]; exact h.f3⟩
theorem Wk.setOther {w : World} {p g j : Nat} {s : ByteArray} {l : Bs} {n k : Int} (h : Wk w p s l n k) (x : Value) (hg : g ≠ p) : Wk (w.setCell ⟨g, j, none⟩ x) p s l n k := h.turned (tn_own g j w x) hg

end Go.Proofs.Ytehipkidohomeaa
