/- A region that draws its order, step by step: an operation that yields its value in every world that meets the condition is taken first. -/
import Derived.Test.YthogickpeldhlaaOwn
import Derived.Deep.RegionHeld
namespace Go.Proofs.Ythogickpeldhlaa

theorem take_at {P : Program} {md : Region.Mode} {ops : Array Oper} {Q : Exit → Act → World → Prop} {S : World → Prop} {i : Nat} {oi : Oper} {d : Option Nat} {v : Value} {fuel : Nat} {listed : Array Bool} {a : Act} {w : World} (hi : ops[i]? = some oi) (hd : oi.dst = d)
    (hs : Region.noSelect ops = true) (hf : Region.free md ops listed i = true) (hr : (Region.ready md ops listed).contains i = true)
    (hQ : ∀ c a w, Q (.panic c) (a.put oi.dst v) w → Q (.panic c) a w) (hy : YieldsIf P ops S oi v a) (hS : S w)
    (h : wpAnyH P md ops Q S fuel (listed.setIfInBounds i true) (a.put d v) w) : wpAnyH P md ops Q S (fuel + 1) listed a w :=
  wpAnyH_take hi hs hf hr hQ hy hS (by rw [hd]; exact h)

/-- append as one of those that may come up, its run being known. -/
theorem held_append {P : Program} {md : Region.Mode} {ops : Array Oper} {Q : Exit → Act → World → Prop} {S : World → Prop} {i : Nat} {o : Oper} {d : Option Nat} {fuel : Nat} {listed : Array Bool} {a : Act} {w : World} {rs : List Nat} (ho : ops[i]? = some o) (hd : o.dst = d)
    (hg : o.guard = none) (s x : Operand) (t ty : TypeId) (hop : o.op = Op.call { callee := Callee.builtin Builtin.append, args := #[s, x], argTypes := #[t, t] }) (hty : o.type = ty)
    (v1 v2 v' : Value) (w' : World) (hs : a.eval s = v1) (hx : a.eval x = v2) (hrun : (Builtin.append_ #[t, t] ty #[v1, v2]).run P w = .ok v' w') (hS : S w')
    (h : S w' → wpAnyH P md ops Q S fuel (listed.setIfInBounds i true) (a.put d v') w') (rest : AllReadyH P md ops Q S fuel listed a w rs) : AllReadyH P md ops Q S fuel listed a w (i :: rs) :=
  AllReadyH.cons ho (fun _ hK => step_append_run hg s x t hop v1 v2 v' w' hs hx (by rw [hty]; exact hrun) (by rw [hd]; exact hK.out _ _ hS h)) rest

theorem SrcF.later {w0 w w' : World} {a : Addr} {m : List FactD} (h : SrcF w0 w a m) (k : Later w w') : SrcF w0 w' a m := by
  obtain ⟨ys, y1, y2, y3, y4⟩ := h
  exact ⟨ys, y1, fun j u hu => by
    have hc := y2 j u hu
    rw [k.cell (World.block_lt_of_cell? w _ hc)]; exact hc, y3, y4⟩

theorem SrcF.grown {w0 w w' : World} {g off : Nat} {m : List FactD} {row : Option Nat} (h : SrcF w0 w ⟨g, off, none⟩ m) (k : w.grownBy w' row) (hne : some g ≠ row) : SrcF w0 w' ⟨g, off, none⟩ m := by
  obtain ⟨ys, y1, y2, y3, y4⟩ := h
  exact ⟨ys, y1, fun j u hu => by
    have hc := y2 j u hu
    rw [Addr.add_lit] at hc ⊢
    exact k.cell hc hne, y3, y4⟩

end Go.Proofs.Ythogickpeldhlaa
