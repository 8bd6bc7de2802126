/- The walk of the statements' closed beginning, law.alive. -/
import Derived.Test.YtflldbpjhcgkbaaAmong
import Derived.Test.YtflldbpjhcgkbaaJoin
import Derived.Test.YtflldbpjhcgkbaaSetW
namespace Go.Proofs.Ytflldbpjhcgkbaa
open Go.RowKit Go.Sort

def bA : ByteArray := { data := #[97] }
def bB : ByteArray := { data := #[98] }
def bX : ByteArray := { data := #[120] }
def fA : FactD := (bA, [bX])
def fB : FactD := (bB, [])

theorem cmpAB : cmpF fA fB = -1 := by
  simp [cmpF, fA, fB, cmpS, Lib.toList_data, bA, bB, Op.bytesLess]

theorem risesAB : Rises [fA, fB] := by
  unfold Rises
  simp [cmpAB]

theorem setAB {s : List FactD} (h : SetOf s [fB, fA, fB]) : s = [fA, fB] :=
  h.eq risesAB fun f => by simp; exact Or.inr

theorem setAB' {s : List FactD} (h : SetOf s ([fA, fB] ++ [])) : s = [fA, fB] :=
  h.eq risesAB fun f => by simp

theorem inA : inFrom [fA, fB] fA 0 = true := inFrom_iff.2 (by simp)
theorem inB : inFrom [fA, fB] fB 0 = true := inFrom_iff.2 (by simp)
theorem lessAB : ([fA, fB].filter fun f => !inFrom [fA, fB] f 0) = [] := by simp [inA, inB]
theorem namedXY : namedB { data := #[120, 95, 89] } = true := by decide +kernel
theorem faultAB : setFault [fA, fB] = (0, 0) := by
  have h1 : wrongF fA = 0 := by decide +kernel
  have h2 : wrongF fB = 0 := by decide +kernel
  unfold setFault
  rw [if_neg (by simp)]
  simp only [List.length_cons, List.length_nil, faultFrom, List.getD_eq_getElem?_getD]
  simp [h1, h2, cmpAB]

/-- A slice of facts that a call has just laid: three. -/
theorem facts3 {w : World} {c : Nat} {n0 n1 n2 : ByteArray} {s0 s1 s2 : Value} {f0 f1 f2 : FactD} {t : TypeId} {fr : Nat × Nat} (h : w.heap[c]? = some (.cells #[.string n0, s0, .string n1, s1, .string n2, s2] t fr)) (e0 : FactV w (.agg #[.string n0, s0]) f0) (e1 : FactV w (.agg #[.string n1, s1]) f1) (e2 : FactV w (.agg #[.string n2, s2]) f2) :
    Facts w (.slice (some ⟨c, 0, none⟩) 3 3) [f0, f1, f2] := by
  refine ⟨by simp, _, 3, rfl, fun _ => ⟨c, 0, rfl, (Array.getElem?_eq_some_iff.1 h).1, fun i hi => ?_⟩⟩
  obtain ⟨x0, y0, z0⟩ := e0
  obtain ⟨x1, y1, z1⟩ := e1
  obtain ⟨x2, y2, z2⟩ := e2
  simp only [Value.agg.injEq, Array.mk.injEq, List.cons.injEq, Value.string.injEq, and_true] at y0 y1 y2
  rw [cell_of_row _ _ _ _ _ _ h, cell_of_row _ _ _ _ _ _ h]
  simp at hi
  have : i = 0 ∨ i = 1 ∨ i = 2 := by omega
  rcases this with rfl | rfl | rfl
  · exact ⟨by rw [y0.1]; rfl, s0, rfl, by rw [y0.2]; exact z0⟩
  · exact ⟨by rw [y1.1]; rfl, s1, rfl, by rw [y1.2]; exact z1⟩
  · exact ⟨by rw [y2.1]; rfl, s2, rfl, by rw [y2.2]; exact z2⟩

theorem fieldErr (x y : Int) (w : World) : (Instr.field 30 (.agg #[.int .i64 x, .int .i64 y]) 0).run Try.prog w = .ok (.int .i64 x) w := by kernel_rfl

set_option maxHeartbeats 1000000 in
theorem alive (w : World) : Calls Try.prog 27 #[] w fun e w' => e = .returned (.bool true) ∧ Later w w' := by
  have hLW : Later w ((((w.alloc (.cells #[.string { data := #[120] }] 9)).alloc (.cells #[.string { data := #[97] }, .slice (some ⟨w.heap.size, 0, none⟩) 1 1] 25)).alloc (.cells #[.string { data := #[98] }, .slice none 0 0] 25)).alloc (.cells #[.string { data := #[98] }, .slice none 0 0, .string { data := #[97] }, .slice (some ⟨w.heap.size, 0, none⟩) 1 1, .string { data := #[98] }, .slice none 0 0] 25)) := (by repeat (first | exact Later.refl _ | assumption | refine Later.drewN ?_ _ | refine Later.drew ?_ | refine Later.alloc ?_ _ | refine Later.grow ?_ _))
  have k0 : ((((w.alloc (.cells #[.string { data := #[120] }] 9)).alloc (.cells #[.string { data := #[97] }, .slice (some ⟨w.heap.size, 0, none⟩) 1 1] 25)).alloc (.cells #[.string { data := #[98] }, .slice none 0 0] 25)).alloc (.cells #[.string { data := #[98] }, .slice none 0 0, .string { data := #[97] }, .slice (some ⟨w.heap.size, 0, none⟩) 1 1, .string { data := #[98] }, .slice none 0 0] 25)).cell? ⟨w.heap.size + 1, 0, none⟩ = some (.string { data := #[97] }) := by go_simp
  have k1 : ((((w.alloc (.cells #[.string { data := #[120] }] 9)).alloc (.cells #[.string { data := #[97] }, .slice (some ⟨w.heap.size, 0, none⟩) 1 1] 25)).alloc (.cells #[.string { data := #[98] }, .slice none 0 0] 25)).alloc (.cells #[.string { data := #[98] }, .slice none 0 0, .string { data := #[97] }, .slice (some ⟨w.heap.size, 0, none⟩) 1 1, .string { data := #[98] }, .slice none 0 0] 25)).cell? ⟨w.heap.size + 1, 1, none⟩ = some (.slice (some ⟨w.heap.size, 0, none⟩) 1 1) := by go_simp
  have k2 : ((((w.alloc (.cells #[.string { data := #[120] }] 9)).alloc (.cells #[.string { data := #[97] }, .slice (some ⟨w.heap.size, 0, none⟩) 1 1] 25)).alloc (.cells #[.string { data := #[98] }, .slice none 0 0] 25)).alloc (.cells #[.string { data := #[98] }, .slice none 0 0, .string { data := #[97] }, .slice (some ⟨w.heap.size, 0, none⟩) 1 1, .string { data := #[98] }, .slice none 0 0] 25)).cell? ⟨w.heap.size + 1 + 1, 0, none⟩ = some (.string { data := #[98] }) := by go_simp
  have k3 : ((((w.alloc (.cells #[.string { data := #[120] }] 9)).alloc (.cells #[.string { data := #[97] }, .slice (some ⟨w.heap.size, 0, none⟩) 1 1] 25)).alloc (.cells #[.string { data := #[98] }, .slice none 0 0] 25)).alloc (.cells #[.string { data := #[98] }, .slice none 0 0, .string { data := #[97] }, .slice (some ⟨w.heap.size, 0, none⟩) 1 1, .string { data := #[98] }, .slice none 0 0] 25)).cell? ⟨w.heap.size + 1 + 1, 1, none⟩ = some (.slice none 0 0) := by go_simp
  have kx : ((((w.alloc (.cells #[.string { data := #[120] }] 9)).alloc (.cells #[.string { data := #[97] }, .slice (some ⟨w.heap.size, 0, none⟩) 1 1] 25)).alloc (.cells #[.string { data := #[98] }, .slice none 0 0] 25)).alloc (.cells #[.string { data := #[98] }, .slice none 0 0, .string { data := #[97] }, .slice (some ⟨w.heap.size, 0, none⟩) 1 1, .string { data := #[98] }, .slice none 0 0] 25)).cell? ⟨w.heap.size, 0, none⟩ = some (.string { data := #[120] }) := by go_simp
  have kz : ((((w.alloc (.cells #[.string { data := #[120] }] 9)).alloc (.cells #[.string { data := #[97] }, .slice (some ⟨w.heap.size, 0, none⟩) 1 1] 25)).alloc (.cells #[.string { data := #[98] }, .slice none 0 0] 25)).alloc (.cells #[.string { data := #[98] }, .slice none 0 0, .string { data := #[97] }, .slice (some ⟨w.heap.size, 0, none⟩) 1 1, .string { data := #[98] }, .slice none 0 0] 25)).heap.size = w.heap.size + 4 := by simp
  have kh : ((((w.alloc (.cells #[.string { data := #[120] }] 9)).alloc (.cells #[.string { data := #[97] }, .slice (some ⟨w.heap.size, 0, none⟩) 1 1] 25)).alloc (.cells #[.string { data := #[98] }, .slice none 0 0] 25)).alloc (.cells #[.string { data := #[98] }, .slice none 0 0, .string { data := #[97] }, .slice (some ⟨w.heap.size, 0, none⟩) 1 1, .string { data := #[98] }, .slice none 0 0] 25)).heap[w.heap.size + 1 + 1 + 1]? = some (.cells #[.string { data := #[98] }, .slice none 0 0, .string { data := #[97] }, .slice (some ⟨w.heap.size, 0, none⟩) 1 1, .string { data := #[98] }, .slice none 0 0] 25 (0, 0)) := by
    have := heap_alloc_new ((w.alloc (.cells #[.string { data := #[120] }] 9)).alloc (.cells #[.string { data := #[97] }, .slice (some ⟨w.heap.size, 0, none⟩) 1 1] 25) |>.alloc (.cells #[.string { data := #[98] }, .slice none 0 0] 25)) (.cells #[.string { data := #[98] }, .slice none 0 0, .string { data := #[97] }, .slice (some ⟨w.heap.size, 0, none⟩) 1 1, .string { data := #[98] }, .slice none 0 0] 25)
    simpa using this
  go_enter Try.func27, Try.ntmps27
  go_wp2_with fail
  generalize ((((w.alloc (.cells #[.string { data := #[120] }] 9)).alloc (.cells #[.string { data := #[97] }, .slice (some ⟨w.heap.size, 0, none⟩) 1 1] 25)).alloc (.cells #[.string { data := #[98] }, .slice none 0 0] 25)).alloc (.cells #[.string { data := #[98] }, .slice none 0 0, .string { data := #[97] }, .slice (some ⟨w.heap.size, 0, none⟩) 1 1, .string { data := #[98] }, .slice none 0 0] 25)) = W at *
  have fa : FactV W (.agg #[.string { data := #[97] }, .slice (some ⟨w.heap.size, 0, none⟩) 1 1]) fA :=
    ⟨_, rfl, by simp [fA], _, 1, rfl, fun _ => ⟨w.heap.size, 0, rfl, by omega, fun i hi => by
      have : i = 0 := by simp [fA] at hi; omega
      subst this
      exact kx⟩⟩
  have fb : FactV W (.agg #[.string { data := #[98] }, .slice none 0 0]) fB := ⟨_, rfl, by simp [fB], none, 0, rfl, fun h => absurd rfl h⟩
  have hF3 := hide (facts3 kh fb fa fb)
  clear kh
  have cells : ∀ w1, Later W w1 → w1.cell? ⟨w.heap.size + 1, 0, none⟩ = some (.string { data := #[97] }) ∧ w1.cell? ⟨w.heap.size + 1, 1, none⟩ = some (.slice (some ⟨w.heap.size, 0, none⟩) 1 1) ∧ w1.cell? ⟨w.heap.size + 1 + 1, 0, none⟩ = some (.string { data := #[98] }) ∧ w1.cell? ⟨w.heap.size + 1 + 1, 1, none⟩ = some (.slice none 0 0) := fun _ h =>
    ⟨by rw [h.cell (p := ⟨w.heap.size + 1, 0, none⟩) (by show w.heap.size + 1 < _; omega)]; exact k0, by rw [h.cell (p := ⟨w.heap.size + 1, 1, none⟩) (by show w.heap.size + 1 < _; omega)]; exact k1, by rw [h.cell (p := ⟨w.heap.size + 1 + 1, 0, none⟩) (by show w.heap.size + 1 + 1 < _; omega)]; exact k2, by rw [h.cell (p := ⟨w.heap.size + 1 + 1, 1, none⟩) (by show w.heap.size + 1 + 1 < _; omega)]; exact k3⟩
  have CELLS := hide cells
  have FA := hide fa
  have FB := hide fb
  clear cells fa fb kz
  refine (ofC _ _ _ hF3.out).mono ?_
  rintro e w1 ⟨v1, sl, rfl, hs, hO, hL1⟩
  rw [setAB hs] at hO
  have HF := hide (hO.facts (by simp))
  obtain ⟨a1, c1, rfl⟩ := ownsSlice hO.choose_spec.1
  clear hs hO
  simp only [List.length_cons, List.length_nil, Nat.zero_add, Nat.reduceAdd] at HF ⊢
  obtain ⟨z0, z1, z2, z3⟩ := CELLS.out _ hL1
  go_wp2_with fail
  have h1 := inC _ _ _ _ _ HF.out (FA.out.later hL1) risesAB
  rw [inA] at h1
  refine h1.mono ?_
  clear h1
  rintro e w2 ⟨rfl, hL2⟩
  clear z0 z1 z2 z3
  go_wp2_with fail
  have h1 := setC _ _ _ (HF.out.later hL2)
  rw [faultAB] at h1
  refine h1.mono ?_
  clear h1
  rintro e w3 ⟨rfl, hL3⟩
  obtain ⟨z0, z1, z2, z3⟩ := CELLS.out _ (hL1.trans (hL2.trans hL3))
  have hfe := fieldErr 0 0
  go_wp2_with fail
  have h1 := compareF _ _ _ _ _ (FA.out.later (hL1.trans (hL2.trans hL3))) (FB.out.later (hL1.trans (hL2.trans hL3)))
  rw [cmpAB] at h1
  refine h1.mono ?_
  clear h1
  rintro e w4 ⟨rfl, hL4⟩
  clear z0 z1 z2 z3
  go_wp2_with fail
  have h1 := named { data := #[120, 95, 89] } w4
  rw [namedXY] at h1
  refine h1.mono ?_
  clear h1
  rintro e w5 ⟨rfl, rfl⟩
  go_wp2_with fail
  have hF4 := HF.out.later (hL2.trans (hL3.trans hL4))
  have h1 := lessC _ _ _ _ _ hF4 hF4 risesAB
  rw [lessAB] at h1
  have HF4 := hide hF4
  refine h1.mono ?_
  clear h1 hF4
  rintro e w6 ⟨v6, rfl, hO6, hL6⟩
  obtain ⟨a6, c6, rfl⟩ := ownsSlice hO6.choose_spec.1
  clear hO6
  simp only [List.length_nil]
  go_wp2_with fail
  refine (joinC _ _ _ [] _ (HF4.out.later hL6) ⟨by simp, none, 0, rfl, fun h => absurd rfl h⟩ (by simp)).mono ?_
  rintro e w7 ⟨v7, s7, rfl, hs7, hO7, hL7⟩
  rw [setAB' hs7] at hO7
  obtain ⟨a7, c7, rfl⟩ := ownsSlice hO7.choose_spec.1
  clear hO7 hs7
  simp only [List.length_cons, List.length_nil, Nat.zero_add, Nat.reduceAdd]
  go_wp2
  go_ret
  exact ⟨rfl, hLW.trans (hL1.trans (hL2.trans (hL3.trans (hL4.trans (hL6.trans hL7)))))⟩

end Go.Proofs.Ytflldbpjhcgkbaa
