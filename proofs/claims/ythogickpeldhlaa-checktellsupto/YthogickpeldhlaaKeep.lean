/- The walks of fact.copied and fact.keep. -/
import Derived.Test.YthogickpeldhlaaRefIn
import Derived.RegionTactic
import Derived.BigRegion
import Derived.Deep.RegionLaw
namespace Go.Proofs.Ythogickpeldhlaa
open Go.RowKit Go.Sort

theorem infoStr : ∃ i, Try.prog.info? 9 = some i ∧ i.zero = some (.string ByteArray.empty) ∧ i.size = 1 ∧ i.bytes = 16 := ⟨Try.t9, by kernel_rfl, by kernel_rfl, by kernel_rfl, by kernel_rfl⟩
theorem infoFact : ∃ i, Try.prog.info? 25 = some i ∧ i.zero = some (.agg #[.string ByteArray.empty, .slice none 0 0]) ∧ i.size = 2 ∧ i.bytes = 40 := ⟨Try.t25, by kernel_rfl, by kernel_rfl, by kernel_rfl, by kernel_rfl⟩

/-- append onto nil of texts, some of them. -/
theorem append_strs (w : World) (b off cap : Nat) (l : List ByteArray) (hl : l.length ≤ 8796093022208) (h0 : l ≠ []) (hc : ∀ i, i < l.length → w.cell? ⟨b, off + i, none⟩ = some (.string (l.getD i ByteArray.empty))) :
    ∃ cp arr, (Builtin.append_ #[23, 23] 23 #[.slice none 0 0, .slice (some ⟨b, off, none⟩) l.length cap]).run Try.prog w = .ok (.slice (some ⟨w.heap.size, 0, none⟩) l.length cp) (w.drew.alloc (.cells arr 9)) ∧
      ∀ i, i < l.length → arr[i]? = some (.string (l.getD i ByteArray.empty)) := by
  obtain ⟨i, i1, i2, i3, i4⟩ := infoStr
  have hn : 0 < l.length := List.length_pos_iff.2 h0
  have hcells : ∀ j u, (l.map Value.string)[j]? = some u → w.cell? ((⟨b, off, none⟩ : Addr).add j) = some u := by
    intro j u hu
    rw [List.getElem?_map] at hu
    cases hj : l[j]? with
    | none => rw [hj] at hu; cases hu
    | some s =>
      rw [hj] at hu
      have hlt : j < l.length := (List.getElem?_eq_some_iff.1 hj).1
      have := hc j hlt
      rw [List.getD_eq_getElem?_getD, hj] at this
      rw [Addr.add_lit]
      rw [this]
      simpa using hu
  have hr := run_append_nil (P := Try.prog) w 23 23 9 i (.string ByteArray.empty) Try.underlying23 i1 i2 ⟨b, off, none⟩ l.length cap (l.map Value.string) (by rw [i3]; simp) hcells (by omega) (by omega) (by rw [i4]; omega)
  refine ⟨_, _, hr, fun k hk => ?_⟩
  rw [Array.getElem?_append_left (by simpa using hk)]
  simp [hk]

/-- append as one step of a region that draws its order, its run being known. -/
theorem step_append_run {P : Program} {ops : Array Oper} {o : Oper} {a : Act} {w : World} {K : Act → World → Prop} {Q : Exit → Act → World → Prop} {E : Prop}
    (hg : o.guard = none) (s x : Operand) (t : TypeId) (hop : o.op = Op.call { callee := Callee.builtin Builtin.append, args := #[s, x], argTypes := #[t, t] })
    (v1 v2 v' : Value) (w' : World) (hs : a.eval s = v1) (hx : a.eval x = v2) (hrun : (Builtin.append_ #[t, t] o.type #[v1, v2]).run P w = .ok v' w') (hK : K (a.put o.dst v') w') :
    if Region.wanted o (yielded ops a.tmps) = true then Oper.wp P o a w K Q else E := by
  have hw : Region.wanted o (yielded ops a.tmps) = true := by simp [Region.wanted, hg]
  rw [if_pos hw]
  unfold Oper.wp
  simp [execOp, hop, resolve, invoke, builtin, hs, hx, hrun, Result.andThen]
  exact hK

/-- A text's slice in a block of its own. -/
theorem strs_new (w : World) (arr : Array Value) (l : List ByteArray) (cp : Nat) (t : TypeId) (hl : l.length ≤ 8796093022208) (h : ∀ i, i < l.length → arr[i]? = some (.string (l.getD i ByteArray.empty))) :
    Strs (w.alloc (.cells arr t)) (.slice (some ⟨w.heap.size, 0, none⟩) l.length cp) l :=
  ⟨hl, _, cp, rfl, fun _ => ⟨w.heap.size, 0, rfl, by simp, fun i hi => by
    rw [Nat.zero_add, cell_of_row _ w.heap.size i arr t (0, 0) (heap_alloc_new w _)]
    exact h i hi⟩⟩

set_option maxHeartbeats 1000000 in
theorem copied_some (n : ByteArray) (l : List ByteArray) (b off cap : Nat) (w : World) (hne : l ≠ []) (h0 : l.length ≤ 8796093022208) (hb : b < w.heap.size) (hcell : ∀ i, i < l.length → w.cell? ⟨b, off + i, none⟩ = some (.string (l.getD i ByteArray.empty))) :
    Calls Try.prog 102 #[.agg #[.string n, .slice (some ⟨b, off, none⟩) l.length cap]] w fun e w' => ∃ s, e = .returned (.agg #[.string n, s]) ∧ Strs w' s l ∧ Later w w' ∧ ∀ k, s.ownBlock = some k → w.heap.size ≤ k ∧ k < w'.heap.size := by
  have hL : Later w ((w.alloc (.cells #[.string n, .slice (some ⟨b, off, none⟩) l.length cap] 25)).alloc (.cells #[.string { data := #[] }, .slice none 0 0] 25)).drew := (by repeat (first | exact Later.refl _ | assumption | refine Later.drewN ?_ _ | refine Later.drew ?_ | refine Later.alloc ?_ _ | refine Later.grow ?_ _))
  obtain ⟨cp, arr, hr, harr⟩ := append_strs ((w.alloc (.cells #[.string n, .slice (some ⟨b, off, none⟩) l.length cap] 25)).alloc (.cells #[.string { data := #[] }, .slice none 0 0] 25)).drew b off cap l h0 hne (fun i hi => by rw [hL.cell (p := ⟨b, off + i, none⟩) hb]; exact hcell i hi)
  have HA := hide harr
  clear harr hcell hL
  go_enter Try.func102, Try.ntmps102
  go_wp2
  go_region_law (refine step_append_run rfl (.const (.slice none 0 0)) (.tmp 6) 23 rfl _ _ _ _ (by simp [Act.eval]) (by simp [Act.eval]) hr ?_)
  all_goals
    clear hr
    go_wp2
    refine bodyPost_ret (v := .agg #[.string n, .slice (some ⟨w.heap.size + 1 + 1, 0, none⟩) l.length cp]) (by simp [results, Try.results102, go_sem]) rfl ⟨_, rfl, ?_, (by repeat (first | exact Later.refl _ | assumption | refine Later.drewN ?_ _ | refine Later.drew ?_ | refine Later.alloc ?_ _ | refine Later.grow ?_ _)), ?_⟩
    · have hs := strs_new ((w.alloc (.cells #[.string n, .slice (some ⟨b, off, none⟩) l.length cap] 25)).alloc (.cells #[.string n, .slice (some ⟨w.heap.size + 1 + 1, 0, none⟩) l.length cp] 25)) arr l cp 9 h0 HA.out
      have e : ((w.alloc (.cells #[.string n, .slice (some ⟨b, off, none⟩) l.length cap] 25)).alloc (.cells #[.string n, .slice (some ⟨w.heap.size + 1 + 1, 0, none⟩) l.length cp] 25)).heap.size = w.heap.size + 1 + 1 := by simp
      rw [e] at hs
      exact hs.later (by repeat (first | exact Later.refl _ | assumption | refine Later.drewN ?_ _ | refine Later.drew ?_ | refine Later.alloc ?_ _ | refine Later.grow ?_ _))
    · intro k hk
      simp [Value.ownBlock] at hk
      simp
      omega

theorem append_none (w : World) (a : Option Addr) (cap : Nat) :
    (Builtin.append_ #[23, 23] 23 #[.slice none 0 0, .slice a 0 cap]).run Try.prog w = .ok (.slice none 0 0) w := by
  obtain ⟨i, i1, i2, i3, i4⟩ := infoStr
  cases a with
  | none => simp [Builtin.append_, run_underlying Try.underlying23, sizeOf, typeInfo, i1, Builtin.lenOf, Builtin.firstCells]
  | some a => simp [Builtin.append_, run_underlying Try.underlying23, sizeOf, typeInfo, i1, Builtin.lenOf, Builtin.firstCells, loadCells, loadCellsFrom]

set_option maxHeartbeats 1000000 in
theorem copied_none (n : ByteArray) (a : Option Addr) (cap : Nat) (w : World) :
    Calls Try.prog 102 #[.agg #[.string n, .slice a 0 cap]] w fun e w' => ∃ s, e = .returned (.agg #[.string n, s]) ∧ Strs w' s [] ∧ Later w w' ∧ ∀ k, s.ownBlock = some k → w.heap.size ≤ k ∧ k < w'.heap.size := by
  go_enter Try.func102, Try.ntmps102
  go_wp2
  go_region_law (refine step_append_run rfl (.const (.slice none 0 0)) (.tmp 6) 23 rfl (.slice none 0 0) (.slice a 0 cap) (.slice none 0 0) _ (by simp [Act.eval]) (by simp [Act.eval]) (append_none _ _ _) ?_)
  all_goals
    go_wp2
    refine bodyPost_ret (v := .agg #[.string n, .slice none 0 0]) (by simp [results, Try.results102, go_sem]) rfl ⟨_, rfl, ⟨by simp, none, 0, rfl, fun h => absurd rfl h⟩, (by repeat (first | exact Later.refl _ | assumption | refine Later.drewN ?_ _ | refine Later.drew ?_ | refine Later.alloc ?_ _ | refine Later.grow ?_ _)), ?_⟩
    intro k hk
    simp [Value.ownBlock] at hk

theorem copied (v : Value) (f : FactD) (w : World) (h : FactV w v f) :
    Calls Try.prog 102 #[v] w fun e w' => ∃ s, e = .returned (.agg #[.string f.1, s]) ∧ Strs w' s f.2 ∧ Later w w' ∧ ∀ k, s.ownBlock = some k → w.heap.size ≤ k ∧ k < w'.heap.size := by
  obtain ⟨s, rfl, h0, a, cap, rfl, hc⟩ := h
  obtain ⟨n, l⟩ := f
  dsimp only at *
  cases l with
  | nil => exact copied_none n a cap w
  | cons x l =>
    obtain ⟨b, off, rfl, hb, hcell⟩ := hc (by simp)
    exact copied_some n (x :: l) b off cap w (by simp) h0 hb hcell

end Go.Proofs.Ythogickpeldhlaa
