/- The reference's Variable. -/
import Derived.Test.YthogickpeldhlaaRefN
import Derived.Test.YthogickpeldhlaaVarC
namespace Go.Proofs.Ythogickpeldhlaa
open Go.RowKit Go.Sort

theorem wordB_eq (s : ByteArray) : wordB s = (decide (0 < s.size ∧ s.size ≤ 12) && (raw s).all isSign) := by
  unfold wordB; rw [Bool.and_comm]; rfl

theorem isVar_no {s : ByteArray} (h : wordB s = false) : isVar (raw s) = false := by
  rw [wordB_eq] at h
  unfold isVar
  rw [length_raw]
  cases hr : raw s with
  | nil => simp
  | cons c t =>
    have hl := length_raw s
    rw [hr] at hl h
    simp at hl
    by_cases h12 : s.size ≤ 12
    · rw [decide_eq_true ⟨by omega, h12⟩, Bool.true_and] at h
      rw [h]; simp
    · rw [decide_eq_false h12]; rfl

theorem isVar_yes {s : ByteArray} (h : wordB s = true) : ∃ h0 : 0 < s.size, isVar (raw s) = greatB s[0].toNat := by
  rw [wordB_eq, Bool.and_eq_true, decide_eq_true_iff] at h
  obtain ⟨⟨h0, h12⟩, ha⟩ := h
  refine ⟨h0, ?_⟩
  rw [isVar_in h0 h12, size_bs, ← length_raw s, takeWhile_len, ha, Bool.and_true]

set_option maxHeartbeats 400000 in
theorem rVariable (s : ByteArray) (w : World) (hs : s.size ≤ 9223372036854775807) : Calls Try.prog 36 #[.string s] w fun e w' => e = .returned (.bool (isVar (raw s))) ∧ Later w w' := by
  cases hw : wordB s
  · have hn := isVar_no hw
    rw [hn]
    go_enter Try.func36, Try.ntmps36
    go_wp2_with (go_at_call 56; refine (rWord _ _ hs).mono ?_; rintro e w1 ⟨rfl, hL⟩; rw [hw])
    go_ret
    exact ⟨rfl, hL⟩
  · obtain ⟨h0, hn⟩ := isVar_yes hw
    have h0z : (0 : Int) < (s.size : Int) := by omega
    generalize hc : (s[0]'h0).toNat = c at hn
    have HN := hide hn
    clear hn
    by_cases ha : (65 : Int) ≤ c
    · go_enter Try.func36, Try.ntmps36
      go_wp2_with (go_at_call 56; refine (rWord _ _ hs).mono ?_; rintro e w1 ⟨rfl, hL⟩; rw [hw])
      go_ret
      refine ⟨ret_bool ?_, by assumption⟩
      rw [HN.out]; unfold greatB
      rw [Bool.eq_iff_iff]; simp; omega
    · go_enter Try.func36, Try.ntmps36
      go_wp2_with (go_at_call 56; refine (rWord _ _ hs).mono ?_; rintro e w1 ⟨rfl, hL⟩; rw [hw])
      go_ret
      refine ⟨ret_bool ?_, by assumption⟩
      rw [HN.out]; unfold greatB
      rw [Bool.eq_iff_iff]; simp; omega

end Go.Proofs.Ythogickpeldhlaa
