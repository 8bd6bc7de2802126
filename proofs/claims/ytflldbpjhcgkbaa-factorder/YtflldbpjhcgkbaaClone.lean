/- The walks of slices.Clone at facts, fact.rise, fact.Of. -/
import Derived.Test.YtflldbpjhcgkbaaRise
import Derived.Lib.SliceRun
namespace Go.Proofs.Ytflldbpjhcgkbaa
open Go.RowKit Go.Sort

set_option maxHeartbeats 400000 in
theorem clone_some (b : Addr) (cap : Nat) (l : List FactD) (w : World) (h : Facts w (.slice (some b) l.length cap) l) :
    Calls Try.prog 51 #[.slice (some b) l.length cap] w fun e w' => ∃ v', e = .returned v' ∧ RowF w' w.heap.size v' l ∧ Later w w' := by
  have hnil := fun w => Lib.run_eql_slice_nil (P := Try.prog) w 22 25 (some b) l.length cap 0 0 Try.underlying22
  have h0 : RowF (w.alloc (.cells #[] 25)) w.heap.size (.slice (some ⟨w.heap.size, 0, none⟩) 0 0) [] :=
    ⟨[], World.ownsRow_made w #[] 0 (Nat.le_refl _) (by simp) (by simp), fun i hi => by simp at hi⟩
  obtain ⟨v', w', hrun, hR, hL, _⟩ := h0.append ((Later.refl w).alloc _) h (by have := h.1; simpa using this)
  have HR := hide hrun
  have HF := hide hR
  clear hrun hR h0 h
  go_enter Try.func51, Try.ntmps51
  go_wp2_with (at_builtin; refine wpList_append_run rfl (.tmp 5) (.tmp 6) 22 rfl _ _ _ _ rfl rfl HR.out ?_)
  go_ret
  exact ⟨v', rfl, HF.out, hL⟩

set_option maxHeartbeats 400000 in
theorem clone_none (n cap : Nat) (w : World) :
    Calls Try.prog 51 #[.slice none n cap] w fun e w' => e = .returned (.slice none 0 0) ∧ w' = w := by
  have hnil := fun w => Lib.run_eql_slice_nil (P := Try.prog) w 22 25 none n cap 0 0 Try.underlying22
  go_enter Try.func51, Try.ntmps51
  go_wp2
  go_ret
  exact ⟨rfl, rfl⟩

theorem clone (v : Value) (l : List FactD) (w : World) (h : Facts w v l) :
    Calls Try.prog 51 #[v] w fun e w' => ∃ v', e = .returned v' ∧ RowF w' w.heap.size v' l ∧ Later w w' := by
  obtain ⟨a, cap, rfl, hn, hz⟩ := h.addr
  cases a with
  | some b => exact clone_some b cap l w h
  | none =>
    rcases hz with rfl | ⟨b, off, e⟩
    · exact (clone_none _ cap w).mono fun e w' ⟨he, hw⟩ => ⟨_, he, by rw [hw]; exact ⟨[], World.ownsRow_nil w _ _ _, fun i hi => by simp at hi⟩, by rw [hw]; exact Later.refl _⟩
    · cases e

end Go.Proofs.Ytflldbpjhcgkbaa
