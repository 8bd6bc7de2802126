/- The walk of law.FactOrder. -/
import Derived.Test.YtflldbpjhcgkbaaAlive
namespace Go.Proofs.Ytflldbpjhcgkbaa
open Go.RowKit Go.Sort

set_option maxHeartbeats 2000000 in
theorem orderW (va vb vc : Value) (a b c : FactD) (w : World) (ha : FactV w va a) (hb : FactV w vb b) (hc : FactV w vc c) :
    Calls Try.prog 5 #[va, vb, vc] w fun e w' => e = .returned (.bool true) ∧ Later w w' := by
  have mx := mixed
  have HA := hide ha
  have HB := hide hb
  have HC := hide hc
  obtain ⟨s1, rfl, l1, a1, c1, rfl, _⟩ := ha
  obtain ⟨s2, rfl, l2, a2, c2, rfl, _⟩ := hb
  obtain ⟨s3, rfl, l3, a3, c3, rfl, _⟩ := hc
  go_enter Try.func5, Try.ntmps5
  go_wp2_with fail
  refine (alive _).mono ?_
  rintro e w1 ⟨rfl, hL1⟩
  have hL01 : Later w w1 := Later.trans (by repeat (first | exact Later.refl _ | assumption | refine Later.drewN ?_ _ | refine Later.drew ?_ | refine Later.alloc ?_ _ | refine Later.grow ?_ _)) hL1
  have z0 := cell_later hL1 (p := ⟨w.heap.size, 0, none⟩) (v := .string a.1) (by simp; omega) (by go_simp)
  have z1 := cell_later hL1 (p := ⟨w.heap.size, 1, none⟩) (v := .slice a1 a.2.length c1) (by simp; omega) (by go_simp)
  have z2 := cell_later hL1 (p := ⟨w.heap.size + 1, 0, none⟩) (v := .string b.1) (by simp) (by go_simp)
  have z3 := cell_later hL1 (p := ⟨w.heap.size + 1, 1, none⟩) (v := .slice a2 b.2.length c2) (by simp) (by go_simp)
  have z4 := cell_later hL1 (p := ⟨w.heap.size + 1 + 1, 0, none⟩) (v := .string c.1) (by simp) (by go_simp)
  have z5 := cell_later hL1 (p := ⟨w.heap.size + 1 + 1, 1, none⟩) (v := .slice a3 c.2.length c3) (by simp) (by go_simp)
  have hab := hide fun q os => compareF _ _ _ _ (grow (w1.drewN q) os) (HA.out.later (hL01.trans ⟨q, os, rfl⟩)) (HB.out.later (hL01.trans ⟨q, os, rfl⟩))
  have hba := hide fun q os => compareF _ _ _ _ (grow (w1.drewN q) os) (HB.out.later (hL01.trans ⟨q, os, rfl⟩)) (HA.out.later (hL01.trans ⟨q, os, rfl⟩))
  obtain ⟨na, la⟩ := a
  obtain ⟨nb, lb⟩ := b
  obtain ⟨nc, lc⟩ := c
  dsimp only at *
  go_wp2
  go_quiet_grown ((first | (go_at_call_of 21 (#[Value.agg #[.string na, .slice a1 la.length c1], Value.agg #[.string nb, .slice a2 lb.length c2]]); exact Calls.grown_of (hab.out _ _)) | (go_at_call_of 21 (#[Value.agg #[.string nb, .slice a2 lb.length c2], Value.agg #[.string na, .slice a1 la.length c1]]); exact Calls.grown_of (hba.out _ _))))
  dsimp only
  have hL2 : Later w1 (grow (w1.drewN nq) osq) := ⟨_, _, rfl⟩
  generalize grow (w1.drewN nq) osq = w2 at hL2 ⊢
  have hL02 : Later w w2 := hL01.trans hL2
  have y0 : w2.cell? ⟨w.heap.size, 0, none⟩ = some (.string na) := by obtain ⟨q, os, rfl⟩ := hL2; exact z0 q os
  have y1 : w2.cell? ⟨w.heap.size, 1, none⟩ = some (.slice a1 la.length c1) := by obtain ⟨q, os, rfl⟩ := hL2; exact z1 q os
  have y2 : w2.cell? ⟨w.heap.size + 1, 0, none⟩ = some (.string nb) := by obtain ⟨q, os, rfl⟩ := hL2; exact z2 q os
  have y3 : w2.cell? ⟨w.heap.size + 1, 1, none⟩ = some (.slice a2 lb.length c2) := by obtain ⟨q, os, rfl⟩ := hL2; exact z3 q os
  have y4 : w2.cell? ⟨w.heap.size + 1 + 1, 0, none⟩ = some (.string nc) := by obtain ⟨q, os, rfl⟩ := hL2; exact z4 q os
  have y5 : w2.cell? ⟨w.heap.size + 1 + 1, 1, none⟩ = some (.slice a3 lc.length c3) := by obtain ⟨q, os, rfl⟩ := hL2; exact z5 q os
  clear z0 z1 z2 z3 z4 z5 hab hba
  have hsw := three_cmpF.swap (na, la) (nb, lb)
  have htr := three_cmpF.trans (na, la) (nb, lb) (nc, lc)
  have HBC := hide (compareF _ _ _ _ w2 (HB.out.later hL02) (HC.out.later hL02))
  have HAC := hide fun w' (hw : Later w2 w') => compareF _ _ _ _ w' (HA.out.later (hL02.trans hw)) (HC.out.later (hL02.trans hw))
  generalize cmpF (na, la) (nb, lb) = x at *
  generalize cmpF (nb, lb) (na, la) = y at *
  generalize cmpF (nb, lb) (nc, lc) = z at *
  generalize cmpF (na, la) (nc, lc) = t at *
  have HTR := hide htr
  clear htr
  by_cases hx : x < 0
  · have hy : 0 < y := by omega
    have hx0 : (x == 0) = false := by rw [beq_eq_false_iff_ne]; omega
    have hy0 : (y == 0) = false := by rw [beq_eq_false_iff_ne]; omega
    clear hsw
    by_cases hz : z < 0
    · have ht : t < 0 := HTR.out hx hz
      go_wp2_with fail
      refine HBC.out.mono ?_
      rintro e w3 ⟨rfl, hL3⟩
      have q0 : w3.cell? ⟨w.heap.size, 0, none⟩ = some (.string na) := by rw [hL3.cell (World.block_lt_of_cell? w2 _ y0)]; exact y0
      have q1 : w3.cell? ⟨w.heap.size, 1, none⟩ = some (.slice a1 la.length c1) := by rw [hL3.cell (World.block_lt_of_cell? w2 _ y1)]; exact y1
      have q4 : w3.cell? ⟨w.heap.size + 1 + 1, 0, none⟩ = some (.string nc) := by rw [hL3.cell (World.block_lt_of_cell? w2 _ y4)]; exact y4
      have q5 : w3.cell? ⟨w.heap.size + 1 + 1, 1, none⟩ = some (.slice a3 lc.length c3) := by rw [hL3.cell (World.block_lt_of_cell? w2 _ y5)]; exact y5
      go_wp2_with fail
      refine (HAC.out _ hL3).mono ?_
      rintro e w4 ⟨rfl, hL4⟩
      go_wp2
      go_ret
      exact ⟨rfl, hL02.trans (hL3.trans hL4)⟩
    · go_wp2_with fail
      refine HBC.out.mono ?_
      rintro e w3 ⟨rfl, hL3⟩
      go_wp2
      go_ret
      exact ⟨rfl, hL02.trans hL3⟩
  · by_cases hx2 : x = 0
    · have hy : y = 0 := by omega
      clear hsw
      subst hx2 hy
      go_wp2
      go_ret
      exact ⟨rfl, hL02⟩
    · have hy : ¬ 0 < y := by omega
      have hx0 : (x == 0) = false := by rw [beq_eq_false_iff_ne]; omega
      have hy0 : (y == 0) = false := by rw [beq_eq_false_iff_ne]; omega
      clear hsw
      go_wp2
      go_ret
      exact ⟨rfl, hL02⟩

end Go.Proofs.Ytflldbpjhcgkbaa
