/- The walks of check.wrongTerm and check.wrongAtom. -/
import Derived.Test.YthogickpeldhlaaCkA
import Derived.Test.YthogickpeldhlaaVarC
namespace Go.Proofs.Ythogickpeldhlaa
open Go.RowKit Go.Sort

theorem namedBs (l : Bs) (w : World) : Calls Try.prog 13 #[.string (bs l)] w fun e w' => e = .returned (.bool (isNamed l)) ∧ w' = w := by
  have := named (bs l) w
  rw [namedB_eq, raw_bs] at this
  exact this
theorem variableBs (l : Bs) (w : World) : Calls Try.prog 35 #[.string (bs l)] w fun e w' => e = .returned (.bool (isVar l)) ∧ w' = w := by
  have := variableC (bs l) w
  rw [raw_bs] at this
  exact this

set_option maxHeartbeats 400000 in
theorem wrongTermC (t : TermD) (w : World) : Calls Try.prog 122 #[.agg #[.bool t.1, .string (bs t.2)]] w fun e w' => e = .returned (.bool (wrongTerm t)) ∧ Later w w' := by
  obtain ⟨v, s⟩ := t
  unfold wrongTerm
  dsimp only
  have HN : Hid (∀ w, Calls Try.prog 13 #[.string (bs s)] w fun e w' => e = .returned (.bool (isNamed s)) ∧ w' = w) := fun w => namedBs s w
  have HV : Hid (∀ w, Calls Try.prog 35 #[.string (bs s)] w fun e w' => e = .returned (.bool (isVar s)) ∧ w' = w) := fun w => variableBs s w
  generalize isNamed s = x at *
  generalize isVar s = y at *
  generalize bs s = k at *
  cases v
  all_goals
    go_enter Try.func122, Try.ntmps122
    go_wp2_with (first
      | (go_at_call 13; refine (HN.out _).mono ?_; rintro e w' ⟨rfl, rfl⟩)
      | (go_at_call 35; refine (HV.out _).mono ?_; rintro e w' ⟨rfl, rfl⟩))
    go_ret
    exact ⟨rfl, (Later.refl _).alloc _⟩

theorem any_step {α : Type} {l : List α} {j : Nat} {x : α} (h : l[j]? = some x) (f : α → Bool) : (l.drop j).any f = (f x || (l.drop (j + 1)).any f) := by
  obtain ⟨h1, e1⟩ := List.getElem?_eq_some_iff.1 h
  rw [List.drop_eq_getElem_cons h1, e1]; rfl
theorem all_step {α : Type} {l : List α} {j : Nat} {x : α} (h : l[j]? = some x) (f : α → Bool) : (l.drop j).all f = (f x && (l.drop (j + 1)).all f) := by
  obtain ⟨h1, e1⟩ := List.getElem?_eq_some_iff.1 h
  rw [List.drop_eq_getElem_cons h1, e1]; rfl

set_option maxHeartbeats 1000000 in
/-- slices.IndexFunc at terms, with wrongTerm: at or above 0 just where one is wrong. -/
theorem indexTerm (v : Value) (l : List TermD) (w : World) (hv : termK.sl Anyw w v l) :
    Calls Try.prog 134 #[v, .func (.func 122) #[] #[]] w fun e w' => ∃ n : Int, e = .returned (.int .i64 n) ∧ decide (0 ≤ n) = l.any wrongTerm ∧ Later w w' := by
  obtain ⟨a, cap, rfl⟩ := Kind.slice hv
  have HV := hide hv
  have hl := hv.1.1
  clear hv
  go_enter Try.func134, Try.ntmps134
  go_wp2
  go_loopg [8] l.length (fun k i wr => ∃ j : Nat, j + k = l.length ∧ i = .int .i64 j ∧ Hid (Later w wr) ∧ Hid (l.any wrongTerm = (l.drop j).any wrongTerm))
  case atStart => exact ⟨0, by omega, rfl, Later.refl _, (rfl : _ = _)⟩
  case round =>
    obtain ⟨j, hj, rfl, HL, HF⟩ := hrel
    by_cases hlt : j < l.length
    · obtain ⟨x, hx⟩ : ∃ x, l[j]? = some x := ⟨_, List.getElem?_eq_getElem hlt⟩
      obtain ⟨b1, o1, _, rfl, hb1, rfl, hc⟩ := Kind.sl_at HV.out hx
      have d0 : wr.cell? ⟨b1, o1 + j * 2, none⟩ = some (.bool x.1) := by rw [HL.out.cell hb1]; exact hc 0 _ rfl
      have d1 : wr.cell? ⟨b1, o1 + j * 2 + 1, none⟩ = some (.string (bs x.2)) := by rw [HL.out.cell hb1]; exact hc 1 _ rfl
      have HC := hide (wrongTermC x wr)
      have hd := any_step hx wrongTerm
      clear hc hx
      cases hf : wrongTerm x
      · have F : Hid (l.any wrongTerm = (l.drop (j + 1)).any wrongTerm) := by show _ = _; rw [HF.out, hd, hf]; rfl
        rw [hf] at HC
        clear hd HF hf
        go_wp2_with (go_at_call 122; refine HC.out.mono ?_; rintro e w' ⟨rfl, hL⟩; replace hL := hide hL)
        go_roundg (l.length - (j + 1))
        case measure => omega
        case rel => exact ⟨j + 1, by omega, by go_num, HL.out.trans (unhide hL), F⟩
      · have F : Hid (l.any wrongTerm = true) := by show _ = _; rw [HF.out, hd, hf]; rfl
        rw [hf] at HC
        clear hd HF hf
        go_wp2_with (go_at_call 122; refine HC.out.mono ?_; rintro e w' ⟨rfl, hL⟩; replace hL := hide hL)
        go_ret
        exact ⟨_, rfl, by rw [F.out]; simp, HL.out.trans (unhide hL)⟩
    · have F : Hid (l.any wrongTerm = false) := by show _ = _; rw [HF.out, List.drop_eq_nil_of_le (by omega)]; rfl
      go_wp2
      go_ret
      exact ⟨_, rfl, by rw [F.out]; simp, HL.out⟩

set_option maxHeartbeats 400000 in
theorem containsTerm (v : Value) (l : List TermD) (w : World) (hv : termK.sl Anyw w v l) :
    Calls Try.prog 121 #[v, .func (.func 122) #[] #[]] w fun e w' => e = .returned (.bool (l.any wrongTerm)) ∧ Later w w' := by
  have HI := hide (indexTerm v l w hv)
  obtain ⟨a, cap, rfl⟩ := Kind.slice hv
  clear hv
  go_enter Try.func121, Try.ntmps121
  go_wp2_with (go_at_call 134; refine HI.out.mono ?_; rintro e w' ⟨n, rfl, hn, hL⟩; replace hn := hide hn; replace hL := hide hL)
  go_ret
  exact ⟨ret_bool (unhide hn), unhide hL⟩

set_option maxHeartbeats 1000000 in
theorem wrongAtomC (a : AtomD) (v : Value) (w : World) (hv : termK.sl Anyw w v a.terms) :
    Calls Try.prog 93 #[.agg #[.bool a.no, .string (bs a.name), v]] w fun e w' => e = .returned (.int .i64 (wrongAtom a)) ∧ Later w w' := by
  have HC : Hid (∀ w', Later w w' → Calls Try.prog 121 #[v, .func (.func 122) #[] #[]] w' fun e w'' => e = .returned (.bool (a.terms.any wrongTerm)) ∧ Later w' w'') := fun w' hw => containsTerm v a.terms w' (Kind.sl_later hv hw)
  have HN : Hid (∀ w, Calls Try.prog 13 #[.string (bs a.name)] w fun e w' => e = .returned (.bool (isNamed a.name)) ∧ w' = w) := fun w => namedBs a.name w
  have l0 := hv.1.1
  obtain ⟨a1, c1, rfl⟩ := Kind.slice hv
  clear hv
  obtain ⟨no, n, x⟩ := a
  unfold wrongAtom
  dsimp only at *
  generalize hn : isNamed n = q at *
  clear hn
  generalize bs n = s at *
  cases q
  · rw [if_pos rfl]
    go_enter Try.func93, Try.ntmps93
    go_wp2_with (go_at_call 13; refine (HN.out _).mono ?_; rintro e w' ⟨rfl, rfl⟩)
    go_ret
    exact ⟨rfl, (Later.refl _).alloc _⟩
  · rw [if_neg (by simp)]
    by_cases h4 : 4 < x.length
    · rw [if_pos h4]
      go_enter Try.func93, Try.ntmps93
      go_wp2_with (go_at_call 13; refine (HN.out _).mono ?_; rintro e w' ⟨rfl, rfl⟩)
      go_ret
      exact ⟨rfl, (Later.refl _).alloc _⟩
    · rw [if_neg h4]
      generalize x.any wrongTerm = r at *
      cases r
      all_goals
        go_enter Try.func93, Try.ntmps93
        go_wp2_with (first
          | (go_at_call 13; refine (HN.out _).mono ?_; rintro e w' ⟨rfl, rfl⟩)
          | (go_at_call 121; refine (HC.out _ ((Later.refl _).alloc _)).mono ?_; rintro e w' ⟨rfl, hL⟩; replace hL := hide hL))
        go_ret
        exact ⟨rfl, ((Later.refl _).alloc _).trans (unhide hL)⟩

end Go.Proofs.Ythogickpeldhlaa
