/- The walk of check.Wrong. -/
import Derived.Test.YthogickpeldhlaaCkE
namespace Go.Proofs.Ythogickpeldhlaa
open Go.RowKit Go.Sort Go.Maps

theorem Kind.sl_neBelow {α : Type} {K : Kind α} {b : Nat} {w w' : World} {v : Value} {l : List α} (h : K.sl Anyw w v l) (k : Below w.heap.size w w') (hb : w.heap.size ≤ b) : K.sl (fun k => k ≠ b) w' v l :=
  Kind.sl_kept (Kind.sl_ne h hb) k.size fun i hi _ => k.block i hi

theorem wrongGo_step {p : List RuleD} {j : Nat} {r : RuleD} (h : p[j]? = some r) (m : Nums) (i : Nat) : wrongGo m i (p.drop j) = if (wrongRule m r).1 = 0 then wrongGo (wrongRule m r).2 (i + 1) (p.drop (j + 1)) else ((wrongRule m r).1, i) := by
  obtain ⟨h1, e1⟩ := List.getElem?_eq_some_iff.1 h
  rw [List.drop_eq_getElem_cons h1, e1]; rfl

theorem setCell_row {w : World} {g j : Nat} {cs : Array Value} {t : TypeId} {fr : Nat × Nat} (h : w.heap[g]? = some (.cells cs t fr)) (u : Value) : (w.setCell ⟨g, j, none⟩ u).heap[g]? = some (.cells (cs.setIfInBounds j u) t fr) := by
  simp [World.setCell, Array.getElem?_modify, h]

theorem frozen_rowC {w : World} {g : Nat} (j : Nat) {cs : Array Value} {t : TypeId} (h : w.heap[g]? = some (.cells cs t (0, 0))) : w.frozen? ⟨g, j, none⟩ = false := by
  simp [World.frozen?, h]

theorem fault_two {w : World} {R : Nat} {u0 u1 : Value} {t : TypeId} {fr : Nat × Nat} (h : w.heap[R]? = some (.cells #[u0, u1] t fr)) (x y : Value) :
    ((w.setCell ⟨R, 0, none⟩ x).setCell ⟨R, 1, none⟩ y).cell? ⟨R, 0, none⟩ = some x ∧ ((w.setCell ⟨R, 0, none⟩ x).setCell ⟨R, 1, none⟩ y).cell? ⟨R, 1, none⟩ = some y := by
  have h2 := setCell_row (j := 1) (setCell_row (j := 0) h x) y
  exact ⟨by rw [cell_of_row _ _ _ _ _ _ h2]; rfl, by rw [cell_of_row _ _ _ _ _ _ h2]; rfl⟩

theorem ret_fault2 {a b c d : Int} (h1 : a = c) (h2 : b = d) : Ending.returned (.agg #[.int .i64 a, .int .i64 b]) = Ending.returned (.agg #[.int .i64 c, .int .i64 d]) := by rw [h1, h2]

set_option maxRecDepth 100000 in
set_option maxHeartbeats 4000000 in
theorem wrongC (p : List RuleD) (v : Value) (w : World) (hv : ruleK.sl Anyw w v p) :
    Calls Try.prog 45 #[v] w fun e w' => e = .returned (.agg #[.int .i64 (wrongP p).1, .int .i64 ((wrongP p).2 : Nat)]) ∧ Below w.heap.size w w' := by
  obtain ⟨sa, cap, rfl⟩ := Kind.slice hv
  have hl0 := hv.1.1
  have HV := hide hv
  clear hv
  by_cases h16 : 16 < p.length
  · have F : Hid (wrongP p = (5, 0)) := by show _ = _; unfold wrongP; rw [if_pos h16]
    go_enter Try.func45, Try.ntmps45
    go_wp2
    exact bodyPost_ret (v := .agg #[.int .i64 5, .int .i64 0]) (by simp [results, Try.results45, go_sem]) rfl ⟨by rw [F.out]; rfl, ((by repeat (first | exact Later.refl _ | assumption | refine Later.drewN ?_ _ | refine Later.drew ?_ | refine Later.alloc ?_ _ | refine Later.grow ?_ _)) : Later w _).below⟩
  · have F : Hid (wrongP p = wrongGo (fun _ => none) 0 p) := by show _ = _; unfold wrongP; rw [if_neg h16]
    have hmm := @run_makeMap Try.prog
    go_enter Try.func45, Try.ntmps45
    go_wp2
    go_loopg [14] p.length (fun k i wr => ∃ j : Nat, j + k = p.length ∧ i = .int .i64 j ∧ ∃ m, Hid (wrongP p = wrongGo m j (p.drop j)) ∧ Hid (NumsM wr (w.heap.size + 1) (6 * j) m) ∧ Hid (Below w.heap.size w wr) ∧ Hid (wr.heap[w.heap.size]? = some (.cells #[.int .i64 0, .int .i64 0] 30 (0, 0))) ∧ w.heap.size + 2 ≤ wr.heap.size)
    case atStart =>
      refine ⟨0, by omega, rfl, fun _ => none, F.out, ?_, ?_, ?_, by simp⟩
      · have := NumM.made Try.prog 9 3 (w.alloc (.cells #[.int .i64 0, .int .i64 0] 30))
        rw [World.size_alloc] at this
        exact this
      · exact (((Later.refl w).alloc _).alloc _).below
      · show _ = _
        rw [Below.heap_alloc _ _ _ (by simp), heap_alloc_new]
    case round =>
      obtain ⟨j, hj, rfl, m, HE, HM, HB, HR, hsz⟩ := hrel
      by_cases hlt : j < p.length
      · obtain ⟨r, hr⟩ : ∃ x, p[j]? = some x := ⟨_, List.getElem?_eq_getElem hlt⟩
        obtain ⟨b1, o1, _, rfl, hb1, ⟨sv, su, rfl, hsv, hsu⟩, hc⟩ := Kind.sl_at HV.out hr
        have d0 : wr.cell? ⟨b1, o1 + j * 4, none⟩ = some (.bool r.head.no) := by rw [HB.out.cell hb1]; exact hc 0 _ rfl
        have d1 : wr.cell? ⟨b1, o1 + j * 4 + 1, none⟩ = some (.string (bs r.head.name)) := by rw [HB.out.cell hb1]; exact hc 1 _ rfl
        have d2 : wr.cell? ⟨b1, o1 + j * 4 + 2, none⟩ = some sv := by rw [HB.out.cell hb1]; exact hc 2 _ rfl
        have d3 : wr.cell? ⟨b1, o1 + j * 4 + 3, none⟩ = some su := by rw [HB.out.cell hb1]; exact hc 3 _ rfl
        have hbr : b1 < wr.heap.size := by omega
        have hst := wrongGo_step hr m j
        have hB1 : Below w.heap.size w (wr.alloc (.cells #[.bool r.head.no, .string (bs r.head.name), sv, su] 56)) := HB.out.alloc HB.out.size _
        have HC : Hid (Calls Try.prog 87 #[.agg #[.bool r.head.no, .string (bs r.head.name), sv, su], .map (some (w.heap.size + 1))] (wr.alloc (.cells #[.bool r.head.no, .string (bs r.head.name), sv, su] 56)) fun e w2 => e = .returned (.int .i64 (wrongRule m r).1) ∧
            Hid (NumsM w2 (w.heap.size + 1) (6 * (j + 1)) (wrongRule m r).2) ∧ Hid (Below w.heap.size w w2) ∧ w2.heap[w.heap.size]? = some (.cells #[.int .i64 0, .int .i64 0] 30 (0, 0)) ∧ w.heap.size + 2 ≤ w2.heap.size) :=
          (wrongRuleC (w.heap.size + 1) (6 * j) m r sv su _ (HM.out.later ((Later.refl _).alloc _)) (Kind.sl_neBelow hsv hB1 (by omega)) (Kind.sl_neBelow hsu hB1 (by omega)) (by omega)).mono fun e w2 ⟨he, h1, h2⟩ =>
            ⟨he, h1, below_trans hB1 (h2.below (n := w.heap.size) (by omega) (by simp; omega)) (Nat.le_refl _), by rw [h2.block w.heap.size (by simp; omega) (by omega), Below.heap_alloc _ _ _ (by omega)]; exact HR.out, by have := h2.size; simp at this; omega⟩
        obtain ⟨a2, c2, rfl⟩ := Kind.slice hsv
        obtain ⟨a3, c3, rfl⟩ := Kind.slice hsu
        clear hc hr hsv hsu hB1 HM HB HR
        generalize wrongRule m r = wrr at *
        obtain ⟨ex, m2⟩ := wrr
        dsimp only at *
        generalize bs r.head.name = nm at *
        generalize r.head.no = no at *
        by_cases h0 : ex = 0
        · subst h0
          have E2 : Hid (wrongP p = wrongGo m2 (j + 1) (p.drop (j + 1))) := by show _ = _; rw [HE.out, hst]; rfl
          clear hst HE
          go_wp2_with (go_at_call 87; refine HC.out.mono ?_; rintro e w2 ⟨rfl, hM2, hB2, hR2, hs2⟩; replace hR2 := hide hR2)
          go_roundg (p.length - (j + 1))
          case measure => omega
          case rel => exact ⟨j + 1, by omega, by go_num, m2, E2, hM2, hB2, hR2, hs2⟩
        · have E2 : Hid (wrongP p = (ex, j)) := by show _ = _; rw [HE.out, hst, if_neg h0]
          have hq : (ex != 0) = true := by simpa using h0
          clear hst HE h0
          go_wp2_with (go_at_call 87; refine HC.out.mono ?_; rintro e w2 ⟨rfl, hM2, hB2, hR2, hs2⟩; have q0 : w2.cell? ⟨w.heap.size, 0, none⟩ = some (.int .i64 0) := (by rw [cell_of_row _ _ _ _ _ _ hR2]; rfl); have q1 : w2.cell? ⟨w.heap.size, 1, none⟩ = some (.int .i64 0) := (by rw [cell_of_row _ _ _ _ _ _ hR2]; rfl); have p0 : w2.frozen? ⟨w.heap.size, 0, none⟩ = false := frozen_rowC 0 hR2; have p1 : w2.frozen? ⟨w.heap.size, 1, none⟩ = false := frozen_rowC 1 hR2; replace hR2 := hide hR2)
          obtain ⟨r0, r1⟩ := fault_two (unhide hR2) (.int .i64 ex) (.int .i64 j)
          refine bodyPost_ret (v := .agg #[.int .i64 ex, .int .i64 j]) (by simp [results, Try.results45, go_sem, r0, r1]) rfl ⟨ret_fault2 (by rw [E2.out]) (by rw [E2.out]), ?_⟩
          exact (hB2.out.setCell (Nat.le_refl _) _).setCell (Nat.le_refl _) _
      · have E2 : Hid (wrongP p = (0, 0)) := by show _ = _; rw [HE.out, List.drop_eq_nil_of_le (by omega)]; rfl
        have hR2 := HR.out
        have q0 : wr.cell? ⟨w.heap.size, 0, none⟩ = some (.int .i64 0) := by rw [cell_of_row _ _ _ _ _ _ hR2]; rfl
        have q1 : wr.cell? ⟨w.heap.size, 1, none⟩ = some (.int .i64 0) := by rw [cell_of_row _ _ _ _ _ _ hR2]; rfl
        have p0 : wr.frozen? ⟨w.heap.size, 0, none⟩ = false := frozen_rowC 0 hR2
        have p1 : wr.frozen? ⟨w.heap.size, 1, none⟩ = false := frozen_rowC 1 hR2
        clear hR2
        go_wp2
        obtain ⟨r0, r1⟩ := fault_two HR.out (.int .i64 0) (.int .i64 0)
        refine bodyPost_ret (v := .agg #[.int .i64 0, .int .i64 0]) (by simp [results, Try.results45, go_sem, r0, r1]) rfl ⟨ret_fault2 (by rw [E2.out]) (by rw [E2.out]; rfl), ?_⟩
        exact (HB.out.setCell (Nat.le_refl _) _).setCell (Nat.le_refl _) _

end Go.Proofs.Ythogickpeldhlaa
