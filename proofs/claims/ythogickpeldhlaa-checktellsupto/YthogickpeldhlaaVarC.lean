/- The walk of syntax.Variable. -/
import Derived.Test.YthogickpeldhlaaTn
namespace Go.Proofs.Ythogickpeldhlaa
open Go.RowKit Go.Sort

theorem isVar_long {l : Bs} (h : l = [] ∨ 12 < l.length) : isVar l = false := by
  rcases h with h | h
  · subst h; rfl
  · unfold isVar; rw [decide_eq_false (by omega)]; rfl

theorem isVar_in {s : ByteArray} (h0 : 0 < s.size) (h1 : s.size ≤ 12) : isVar (raw s) = (greatB (s[0].toNat) && decide ((bs ((raw s).takeWhile isSign)).size = s.size)) := by
  have hl := length_raw s
  unfold isVar
  rw [size_bs, ← hl, takeWhile_len, decide_eq_true (by omega)]
  have hl' : 0 < (raw s).length := by omega
  have e : raw s = (s[0]'h0) :: (raw s).drop 1 := by
    have := List.drop_eq_getElem_cons hl'
    rw [List.drop_zero, getRaw h0 hl'] at this
    exact this
  generalize (raw s).all isSign = q
  rw [e]
  rfl

set_option maxHeartbeats 1000000 in
theorem variableC (s : ByteArray) (w : World) : Calls Try.prog 35 #[.string s] w fun e w' => e = .returned (.bool (isVar (raw s))) ∧ w' = w := by
  by_cases h0 : 0 < s.size
  · have h0' : ((s.size : Int) == 0) = false := by rw [beq_eq_false_iff_ne]; omega
    by_cases h1 : s.size ≤ 12
    · have F := hide (isVar_in h0 h1)
      generalize hx : bs ((raw s).takeWhile isSign) = x at F
      have HX := hide hx
      clear hx
      generalize hc : (s[0]'h0).toNat = c at F
      by_cases ha : c < 65
      · have G : Hid (greatB c = false) := by show _ = _; unfold greatB; exact decide_eq_false (by omega)
        have ha' : (c : Int) < 65 := by omega
        go_enter Try.func35, Try.ntmps35
        go_wp2
        go_ret
        exact ⟨ret_bool (by rw [F.out, G.out]; rfl), rfl⟩
      · by_cases hz : 90 < c
        · have G : Hid (greatB c = false) := by show _ = _; unfold greatB; exact decide_eq_false (by omega)
          have ha' : ¬ (c : Int) < 65 := by omega
          have hz' : 90 < (c : Int) := by omega
          go_enter Try.func35, Try.ntmps35
          go_wp2
          go_ret
          exact ⟨ret_bool (by rw [F.out, G.out]; rfl), rfl⟩
        · have G : Hid (greatB c = true) := by show _ = _; unfold greatB; exact decide_eq_true (by omega)
          have ha' : ¬ (c : Int) < 65 := by omega
          have hz' : ¬ 90 < (c : Int) := by omega
          go_enter Try.func35, Try.ntmps35
          go_wp2_with (go_at_call 55; refine (wordC _ _ (by omega)).mono ?_; rintro e w' ⟨rfl, rfl⟩; rw [HX.out])
          go_ret
          refine ⟨ret_bool ?_, rfl⟩
          rw [F.out, G.out, Bool.eq_iff_iff]
          simp
          omega
    · have F : Hid (isVar (raw s) = false) := isVar_long (Or.inr (by rw [length_raw]; omega))
      go_enter Try.func35, Try.ntmps35
      go_wp2
      go_ret
      exact ⟨ret_bool F.out.symm, rfl⟩
  · have F : Hid (isVar (raw s) = false) := isVar_long (Or.inl (List.eq_nil_of_length_eq_zero (by rw [length_raw]; omega)))
    have h0' : ((s.size : Int) == 0) = true := by rw [beq_iff_eq]; omega
    go_enter Try.func35, Try.ntmps35
    go_wp2
    go_ret
    exact ⟨ret_bool F.out.symm, rfl⟩

end Go.Proofs.Ythogickpeldhlaa
