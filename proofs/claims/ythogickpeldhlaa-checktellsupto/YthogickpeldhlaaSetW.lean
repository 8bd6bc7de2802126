/- The walk of fact.Set. -/
import Derived.Test.YthogickpeldhlaaInW
import Derived.Test.YthogickpeldhlaaRise
namespace Go.Proofs.Ythogickpeldhlaa
open Go.RowKit Go.Sort

/-- The first fault from fact k on: what, and at which. -/
def faultFrom (l : List FactD) : Nat → Nat → Int × Int
  | 0, _ => (0, 0)
  | n + 1, k => if wrongF (l.getD k noFact) ≠ 0 then (wrongF (l.getD k noFact), k) else if 0 < k ∧ 0 ≤ cmpF (l.getD (k - 1) noFact) (l.getD k noFact) then (2, k) else faultFrom l n (k + 1)

def setFault (l : List FactD) : Int × Int := if 200 < l.length then (5, 0) else faultFrom l l.length 0

theorem faultFrom_step (l : List FactD) {k : Nat} (h : k < l.length) : faultFrom l (l.length - k) k =
    if wrongF (l.getD k noFact) ≠ 0 then (wrongF (l.getD k noFact), (k : Int)) else if 0 < k ∧ 0 ≤ cmpF (l.getD (k - 1) noFact) (l.getD k noFact) then (2, (k : Int)) else faultFrom l (l.length - (k + 1)) (k + 1) := by
  obtain ⟨n, hn⟩ : ∃ n, l.length - k = n + 1 := ⟨l.length - k - 1, by omega⟩
  rw [hn, show l.length - (k + 1) = n by omega]
  rfl

theorem wrap_nat (j : Nat) (h : j ≤ 3518437208883) : IntKind.i64.wrap (j : Int) = (j : Int) := by
  simp [IntKind.wrap, IntKind.bits, IntKind.signed]; omega

theorem fault_cells {w : World} {R : Nat} {u0 u1 : Value} {t : TypeId} {fr : Nat × Nat} (h : w.heap[R]? = some (.cells #[u0, u1] t fr)) (x y : Value) :
    ((w.setCell ⟨R, 0, none⟩ x).setCell ⟨R, 1, none⟩ y).cell? ⟨R, 0, none⟩ = some x ∧ ((w.setCell ⟨R, 0, none⟩ x).setCell ⟨R, 1, none⟩ y).cell? ⟨R, 1, none⟩ = some y := by
  have h2 := heap_setCell_at (j := 1) (heap_setCell_at (j := 0) h x) y
  exact ⟨by rw [cell_of_row _ _ _ _ _ _ h2]; rfl, by rw [cell_of_row _ _ _ _ _ _ h2]; rfl⟩

theorem ret_fault {a b c d : Int} (h : (a, b) = (c, d)) : Ending.returned (.agg #[.int .i64 a, .int .i64 b]) = .returned (.agg #[.int .i64 c, .int .i64 d]) := by
  cases h; rfl

set_option maxHeartbeats 2000000 in
theorem setC (v : Value) (l : List FactD) (w : World) (hf : Facts w v l) :
    Calls Try.prog 17 #[v] w fun e w' => e = .returned (.agg #[.int .i64 (setFault l).1, .int .i64 (setFault l).2]) ∧ Later w w' := by
  have mx := mixed
  have HF := hide hf
  obtain ⟨a, cap, rfl, hn, hz⟩ := hf.addr
  clear hf
  by_cases hbig : 200 < l.length
  · have e : setFault l = (5, 0) := by unfold setFault; rw [if_pos hbig]
    rw [e]
    go_enter Try.func17, Try.ntmps17
    go_wp2
    exact bodyPost_ret (v := .agg #[.int .i64 5, .int .i64 0]) (by simp [results, Try.results17, go_sem]) rfl ⟨rfl, (by repeat (first | exact Later.refl _ | assumption | refine Later.drewN ?_ _ | refine Later.drew ?_ | refine Later.alloc ?_ _ | refine Later.grow ?_ _))⟩
  · have e : setFault l = faultFrom l l.length 0 := by unfold setFault; rw [if_neg hbig]
    rw [e]
    clear e
    go_enter Try.func17, Try.ntmps17
    go_wp2
    go_loopw [12] (fun i wr => ∃ k : Nat, k ≤ l.length ∧ i = .int .i64 k ∧ Later (w.alloc (.cells #[.int .i64 0, .int .i64 0] 30)) wr ∧ Hid (faultFrom l l.length 0 = faultFrom l (l.length - k) k)) (fun i _ => l.length - (intOf i).toNat)
    case atStart => exact ⟨0, by omega, rfl, Later.refl _, (rfl : _ = _)⟩
    case round =>
      obtain ⟨k, hk, rfl, hL, HE⟩ := hrel
      have hL0 : Later w wr := ((Later.refl _).alloc _).trans hL
      have hsz : w.heap.size < wr.heap.size := by have := hL.size; simp at this; omega
      by_cases hlt : k < l.length
      · rcases hz with rfl | ⟨b, off, rfl⟩
        · simp at hlt
        have hltz : (k : Int) < (l.length : Int) := by omega
        obtain ⟨hb, ax, lx, cx, g1, g2, fx⟩ := (HF.out.later hL0).at hlt
        have hst := faultFrom_step l hlt
        have HWr : Hid (∀ w', Later wr w' → Calls Try.prog 15 #[.agg #[.string (l.getD k noFact).1, .slice ax lx cx]] w' fun e w'' => e = .returned (.int .i64 (wrongF (l.getD k noFact))) ∧ Later w' w'') :=
          fun w' hw => wrong _ _ w' (fx.later hw)
        have FX := hide fx
        clear fx
        by_cases hwz : wrongF (l.getD k noFact) = 0
        · rw [if_neg (by omega)] at hst
          rw [hwz] at HWr
          by_cases hk0 : k = 0
          · have F : Hid (faultFrom l l.length 0 = faultFrom l (l.length - (k + 1)) (k + 1)) := by show _ = _; rw [HE.out, hst, if_neg (by omega)]
            have hd : decide (0 < k) = false := by rw [decide_eq_false_iff_not]; omega
            clear hk0
            generalize (l.getD k noFact).1 = nk at *
            clear hst
            go_wp2_with fail
            refine (HWr.out _ ((Later.refl _).alloc _)).mono ?_
            rintro e w1 ⟨rfl, hL1⟩
            go_wp2
            go_quiet (fail)
            go_wp2
            go_roundw
            case rel => exact ⟨k + 1, by omega, by go_num, (hL.trans (((Later.refl _).alloc _).trans hL1)).drewN _, F⟩
            case measure => simp [intOf]; omega
          · obtain ⟨j, rfl⟩ : ∃ j, k = j + 1 := ⟨k - 1, by omega⟩
            rw [Nat.add_sub_cancel] at hst
            have hjl : j < l.length := by omega
            have hjz : (j : Int) < (l.length : Int) := by omega
            have hd : (0 : Int) < (j : Int) + 1 := by omega
            have hwj : IntKind.i64.wrap (j : Int) = (j : Int) := wrap_nat j (by omega)
            generalize hfk : l.getD (j + 1) noFact = f at *
            have HFK := hide hfk
            clear hfk
            obtain ⟨nk, lk⟩ := f
            dsimp only at *
            go_wp2_with fail
            refine (HWr.out _ ((Later.refl _).alloc _)).mono ?_
            rintro e w1 ⟨rfl, hL1⟩
            have hLR : Later (w.alloc (.cells #[.int .i64 0, .int .i64 0] 30)) w1 := hL.trans (((Later.refl _).alloc _).trans hL1)
            have hL01 : Later w w1 := ((Later.refl _).alloc _).trans hLR
            have hR : w1.heap[w.heap.size]? = some (.cells #[.int .i64 0, .int .i64 0] 30 (0, 0)) := by rw [hLR.block (by simp), heap_alloc_new]
            have q0 : w1.cell? ⟨w.heap.size, 0, none⟩ = some (.int .i64 0) := by rw [cell_of_row _ _ _ _ _ _ hR]; rfl
            have q1 : w1.cell? ⟨w.heap.size, 1, none⟩ = some (.int .i64 0) := by rw [cell_of_row _ _ _ _ _ _ hR]; rfl
            have p0 : w1.frozen? ⟨w.heap.size, 0, none⟩ = false := frozen_of_row 0 hR
            have p1 : w1.frozen? ⟨w.heap.size, 1, none⟩ = false := frozen_of_row 1 hR
            have HRR := hide hR
            clear hR
            have hLw : Later wr w1 := ((Later.refl _).alloc _).trans hL1
            obtain ⟨ay, ly, cy, y1, y2, fy⟩ := (HF.out.later hL01).grown hjl
            have b0 := cell_later hL1 (p := ⟨wr.heap.size, 0, none⟩) (v := .string nk) (by simp) (by simp)
            have b1 := cell_later hL1 (p := ⟨wr.heap.size, 1, none⟩) (v := .slice ax lx cx) (by simp) (by simp)
            have hC : ∀ q os, Calls Try.prog 25 #[.agg #[.string (l.getD j noFact).1, .slice ay ly cy], .agg #[.string nk, .slice ax lx cx]] (grow (w1.drewN q) os) fun e w'' => e = .returned (.int .i64 (cmpF (l.getD j noFact) (nk, lk))) ∧ Later (grow (w1.drewN q) os) w'' :=
              fun q os => compareF _ _ _ _ _ (fy.later ⟨q, os, rfl⟩) ((FX.out.later hLw).later ⟨q, os, rfl⟩)
            have HC := hide hC
            clear hC fy
            generalize cmpF (l.getD j noFact) (nk, lk) = cm at *
            generalize (l.getD j noFact).1 = nj at *
            by_cases hcm : 0 ≤ cm
            · have F : Hid (faultFrom l l.length 0 = (2, ((j + 1 : Nat) : Int))) := by show _ = _; rw [HE.out, hst, if_pos ⟨by omega, hcm⟩]
              clear hst
              go_wp2
              go_quiet_grown ((go_at_call 25; exact Calls.grown_of (HC.out _ _)))
              dsimp only
              have hLW : Later w1 (grow (w1.drewN nq) osq) := ⟨_, _, rfl⟩
              generalize grow (w1.drewN nq) osq = w2 at hLW ⊢
              have hR : w2.heap[w.heap.size]? = some (.cells #[.int .i64 0, .int .i64 0] 30 (0, 0)) := by rw [hLW.block (by have := hLw.size; omega)]; exact HRR.out
              have q0 : w2.cell? ⟨w.heap.size, 0, none⟩ = some (.int .i64 0) := by rw [cell_of_row _ _ _ _ _ _ hR]; rfl
              have q1 : w2.cell? ⟨w.heap.size, 1, none⟩ = some (.int .i64 0) := by rw [cell_of_row _ _ _ _ _ _ hR]; rfl
              have p0 : w2.frozen? ⟨w.heap.size, 0, none⟩ = false := frozen_of_row 0 hR
              have p1 : w2.frozen? ⟨w.heap.size, 1, none⟩ = false := frozen_of_row 1 hR
              have HR2 := hide hR
              clear hR
              go_wp2
              obtain ⟨r0, r1⟩ := fault_cells HR2.out (.int .i64 2) (.int .i64 ((j : Int) + 1))
              refine bodyPost_ret (v := .agg #[.int .i64 2, .int .i64 ((j : Int) + 1)]) (by simp [results, Try.results17, go_sem, r0, r1]) rfl ⟨ret_fault (by rw [F.out]; simp), ?_⟩
              exact ((hL01.trans hLW).setCell (Nat.le_refl _) _).setCell (Nat.le_refl _) _
            · have F : Hid (faultFrom l l.length 0 = faultFrom l (l.length - (j + 1 + 1)) (j + 1 + 1)) := by show _ = _; rw [HE.out, hst, if_neg (fun h => hcm h.2)]
              clear hst
              go_wp2
              go_quiet_grown ((go_at_call 25; exact Calls.grown_of (HC.out _ _)))
              go_wp2
              go_roundw
              case rel => exact ⟨j + 1 + 1, by omega, by go_num, hLR.trans ⟨_, _, rfl⟩, F⟩
              case measure => simp [intOf]; omega
        · have F : Hid (faultFrom l l.length 0 = (wrongF (l.getD k noFact), (k : Int))) := by show _ = _; rw [HE.out, hst, if_pos hwz]
          have hwz' : (wrongF (l.getD k noFact) == 0) = false := by simpa using hwz
          generalize wrongF (l.getD k noFact) = we at *
          generalize (l.getD k noFact).1 = nk at *
          clear hst
          go_wp2_with fail
          refine (HWr.out _ ((Later.refl _).alloc _)).mono ?_
          rintro e w1 ⟨rfl, hL1⟩
          have hLR : Later (w.alloc (.cells #[.int .i64 0, .int .i64 0] 30)) w1 := hL.trans (((Later.refl _).alloc _).trans hL1)
          have hL01 : Later w w1 := ((Later.refl _).alloc _).trans hLR
          have hR : w1.heap[w.heap.size]? = some (.cells #[.int .i64 0, .int .i64 0] 30 (0, 0)) := by rw [hLR.block (by simp), heap_alloc_new]
          have q0 : w1.cell? ⟨w.heap.size, 0, none⟩ = some (.int .i64 0) := by rw [cell_of_row _ _ _ _ _ _ hR]; rfl
          have q1 : w1.cell? ⟨w.heap.size, 1, none⟩ = some (.int .i64 0) := by rw [cell_of_row _ _ _ _ _ _ hR]; rfl
          have p0 : w1.frozen? ⟨w.heap.size, 0, none⟩ = false := frozen_of_row 0 hR
          have p1 : w1.frozen? ⟨w.heap.size, 1, none⟩ = false := frozen_of_row 1 hR
          have HRR := hide hR
          clear hR
          go_wp2
          obtain ⟨r0, r1⟩ := fault_cells HRR.out (.int .i64 we) (.int .i64 k)
          refine bodyPost_ret (v := .agg #[.int .i64 we, .int .i64 k]) (by simp [results, Try.results17, go_sem, r0, r1]) rfl ⟨ret_fault (by rw [F.out]), ?_⟩
          exact (hL01.setCell (Nat.le_refl _) _).setCell (Nat.le_refl _) _
      · have F : Hid (faultFrom l l.length 0 = (0, 0)) := by show _ = _; rw [HE.out, show l.length - k = 0 by omega]; rfl
        have q0 : wr.cell? ⟨w.heap.size, 0, none⟩ = some (.int .i64 0) := by rw [hL.cell (by simp)]; simp
        have q1 : wr.cell? ⟨w.heap.size, 1, none⟩ = some (.int .i64 0) := by rw [hL.cell (by simp)]; simp
        have p0 : wr.frozen? ⟨w.heap.size, 0, none⟩ = false := by rw [hL.frozen (by simp)]; simp
        have p1 : wr.frozen? ⟨w.heap.size, 1, none⟩ = false := by rw [hL.frozen (by simp)]; simp
        go_wp2
        have hR : wr.heap[w.heap.size]? = some (.cells #[.int .i64 0, .int .i64 0] 30 (0, 0)) := by rw [hL.block (by simp), heap_alloc_new]
        obtain ⟨r0, r1⟩ := fault_cells hR (.int .i64 0) (.int .i64 0)
        refine bodyPost_ret (v := .agg #[.int .i64 0, .int .i64 0]) (by simp [results, Try.results17, go_sem, r0, r1]) rfl ⟨ret_fault (by rw [F.out]), ?_⟩
        exact (hL0.setCell (Nat.le_refl _) _).setCell (Nat.le_refl _) _

end Go.Proofs.Ythogickpeldhlaa
