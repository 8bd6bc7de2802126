/- The walks of fact.copied and fact.keep. -/
import Derived.Test.YthogickpeldhlaaGreatRefIn
import Derived.RegionTactic
import Derived.BigRegion
import Derived.Deep.RegionLaw
namespace Go.Proofs.YthogickpeldhlaaGreat
open Go.RowKit Go.Sort

theorem infoStr : ∃ i, Tryz.prog.info? 9 = some i ∧ i.zero = some (.string ByteArray.empty) ∧ i.size = 1 ∧ i.bytes = 16 := ⟨Tryz.t9, by kernel_rfl, by kernel_rfl, by kernel_rfl, by kernel_rfl⟩
theorem infoFact : ∃ i, Tryz.prog.info? 41 = some i ∧ i.zero = some (.agg #[.string ByteArray.empty, .slice none 0 0]) ∧ i.size = 2 ∧ i.bytes = 40 := ⟨Tryz.t41, by kernel_rfl, by kernel_rfl, by kernel_rfl, by kernel_rfl⟩

/-- append onto nil of texts, some of them. -/
theorem append_strs (w : World) (b off cap : Nat) (l : List ByteArray) (hl : l.length ≤ 8796093022208) (h0 : l ≠ []) (hc : ∀ i, i < l.length → w.cell? ⟨b, off + i, none⟩ = some (.string (l.getD i ByteArray.empty))) :
    ∃ cp arr, (Builtin.append_ #[39, 39] 39 #[.slice none 0 0, .slice (some ⟨b, off, none⟩) l.length cap]).run Tryz.prog w = .ok (.slice (some ⟨w.heap.size, 0, none⟩) l.length cp) (w.drew.alloc (.cells arr 9)) ∧
      ∀ i, i < l.length → arr[i]? = some (.string (l.getD i ByteArray.empty)) := by
  obtain ⟨i, i1, i2, i3, i4⟩ := infoStr
  have hn : 0 < l.length := List.length_pos_iff.2 h0
  have hcells : ∀ j u, (l.map Value.string)[j]? = some u → w.cell? ((⟨b, off, none⟩ : Addr).add j) = some u := by
    intro j u hu
    rw [List.getElem?_map] at hu
    cases hj : l[j]? with
    | none => rw [hj] at hu; cases hu
    | some s =>
      rw [hj] at hu
      have hlt : j < l.length := (List.getElem?_eq_some_iff.1 hj).1
      have := hc j hlt
      rw [List.getD_eq_getElem?_getD, hj] at this
      rw [Addr.add_lit]
      rw [this]
      simpa using hu
  have hr := run_append_nil (P := Tryz.prog) w 39 39 9 i (.string ByteArray.empty) Tryz.underlying39 i1 i2 ⟨b, off, none⟩ l.length cap (l.map Value.string) (by rw [i3]; simp) hcells (by omega) (by omega) (by rw [i4]; omega)
  refine ⟨_, _, hr, fun k hk => ?_⟩
  rw [Array.getElem?_append_left (by simpa using hk)]
  simp [hk]

/-- append as one step of a region that draws its order, its run being known. -/
theorem step_append_run {P : Program} {ops : Array Oper} {o : Oper} {a : Act} {w : World} {K : Act → World → Prop} {Q : Exit → Act → World → Prop} {E : Prop}
    (hg : o.guard = none) (s x : Operand) (t : TypeId) (hop : o.op = Op.call { callee := Callee.builtin Builtin.append, args := #[s, x], argTypes := #[t, t] })
    (v1 v2 v' : Value) (w' : World) (hs : a.eval s = v1) (hx : a.eval x = v2) (hrun : (Builtin.append_ #[t, t] o.type #[v1, v2]).run P w = .ok v' w') (hK : K (a.put o.dst v') w') :
    if Region.wanted o (yielded ops a.tmps) = true then Oper.wp P o a w K Q else E := by
  have hw : Region.wanted o (yielded ops a.tmps) = true := by simp [Region.wanted, hg]
  rw [if_pos hw]
  unfold Oper.wp
  simp [execOp, hop, resolve, invoke, builtin, hs, hx, hrun, Result.andThen]
  exact hK

/-- A text's slice in a block of its own. -/
theorem strs_new (w : World) (arr : Array Value) (l : List ByteArray) (cp : Nat) (t : TypeId) (hl : l.length ≤ 8796093022208) (h : ∀ i, i < l.length → arr[i]? = some (.string (l.getD i ByteArray.empty))) :
    Strs (w.alloc (.cells arr t)) (.slice (some ⟨w.heap.size, 0, none⟩) l.length cp) l :=
  ⟨hl, _, cp, rfl, fun _ => ⟨w.heap.size, 0, rfl, by simp, fun i hi => by
    rw [Nat.zero_add, cell_of_row _ w.heap.size i arr t (0, 0) (heap_alloc_new w _)]
    exact h i hi⟩⟩

theorem append_none (w : World) (a : Option Addr) (cap : Nat) :
    (Builtin.append_ #[39, 39] 39 #[.slice none 0 0, .slice a 0 cap]).run Tryz.prog w = .ok (.slice none 0 0) w := by
  obtain ⟨i, i1, i2, i3, i4⟩ := infoStr
  cases a with
  | none => simp [Builtin.append_, run_underlying Tryz.underlying39, sizeOf, typeInfo, i1, Builtin.lenOf, Builtin.firstCells]
  | some a => simp [Builtin.append_, run_underlying Tryz.underlying39, sizeOf, typeInfo, i1, Builtin.lenOf, Builtin.firstCells, loadCells, loadCellsFrom]

end Go.Proofs.YthogickpeldhlaaGreat
