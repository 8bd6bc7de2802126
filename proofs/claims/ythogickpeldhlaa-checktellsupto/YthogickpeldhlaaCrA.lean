/- The reference's WrongAtom and Vars; maps from texts to whether. -/
import Derived.Test.YthogickpeldhlaaCkD
import Derived.Test.YthogickpeldhlaaRVar
namespace Go.Proofs.Ythogickpeldhlaa
open Go.RowKit Go.Sort Go.Maps

/-- Texts no longer than Go's. -/
def longT (t : TermD) : Prop := t.2.length ≤ 9223372036854775807
def longA (a : AtomD) : Prop := a.name.length ≤ 9223372036854775807 ∧ ∀ t ∈ a.terms, longT t

theorem rNamedBs (l : Bs) (w : World) (h : l.length ≤ 9223372036854775807) : Calls Try.prog 14 #[.string (bs l)] w fun e w' => e = .returned (.bool (isNamed l)) ∧ Later w w' := by
  have := rNamed (bs l) w (by rw [size_bs]; exact h)
  rw [namedB_eq, raw_bs] at this
  exact this
theorem rVariableBs (l : Bs) (w : World) (h : l.length ≤ 9223372036854775807) : Calls Try.prog 36 #[.string (bs l)] w fun e w' => e = .returned (.bool (isVar l)) ∧ Later w w' := by
  have := rVariable (bs l) w (by rw [size_bs]; exact h)
  rw [raw_bs] at this
  exact this

set_option maxRecDepth 100000 in
set_option maxHeartbeats 2000000 in
theorem rWrongAtom (a : AtomD) (v : Value) (w : World) (hv : termK.sl Anyw w v a.terms) (hk : longA a) :
    Calls Try.prog 89 #[.agg #[.bool a.no, .string (bs a.name), v]] w fun e w' => e = .returned (.int .i64 (wrongAtom a)) ∧ Later w w' := by
  have HN : Hid (∀ w, Calls Try.prog 14 #[.string (bs a.name)] w fun e w' => e = .returned (.bool (isNamed a.name)) ∧ Later w w') := fun w => rNamedBs a.name w hk.1
  have HV := hide hv
  have HK := hide hk.2
  have l0 := hv.1.1
  obtain ⟨a1, c1, rfl⟩ := Kind.slice hv
  clear hv hk
  obtain ⟨no, n, x⟩ := a
  unfold wrongAtom
  dsimp only at *
  generalize hn : isNamed n = q at *
  clear hn
  generalize bs n = s at *
  have HB : Hid (∀ w2, Later (w.alloc (.cells #[.bool no, .string s, .slice a1 x.length c1] 54)) w2 → w2.cell? ⟨w.heap.size, 2, none⟩ = some (.slice a1 x.length c1) ∧ w.heap.size < w2.heap.size ∧ Later w w2) := fun w2 hL =>
    ⟨by rw [hL.cell (by simp)]; simp, by have := hL.size; simp at this; omega, ((Later.refl w).alloc _).trans hL⟩
  cases q
  · rw [if_pos rfl]
    go_enter Try.func89, Try.ntmps89
    go_wp2_with (go_at_call 14; refine (HN.out _).mono ?_; rintro e w2 ⟨rfl, hL⟩; replace hL := hide hL)
    go_ret
    exact ⟨rfl, ((Later.refl _).alloc _).trans (unhide hL)⟩
  · rw [if_neg (by simp)]
    by_cases h4 : 4 < x.length
    · rw [if_pos h4]
      go_enter Try.func89, Try.ntmps89
      go_wp2_with (go_at_call 14; refine (HN.out _).mono ?_; rintro e w2 ⟨rfl, hL⟩; obtain ⟨z2, hz, HL⟩ := HB.out w2 hL; clear hL; replace HL := hide HL)
      go_ret
      exact ⟨rfl, unhide HL⟩
    · rw [if_neg h4]
      generalize hRR : (if x.any wrongTerm = true then (7 : Int) else 0) = R
      have HR := hide hRR
      clear hRR
      go_enter Try.func89, Try.ntmps89
      go_wp2_with (go_at_call 14; refine (HN.out _).mono ?_; rintro e w2 ⟨rfl, hL⟩; obtain ⟨z2, hz, HL⟩ := HB.out w2 hL; clear hL; replace HL := hide HL)
      clear z2
      go_loopg [16] x.length (fun k i wr => ∃ j : Nat, j + k = x.length ∧ i = .int .i64 j ∧ Hid (Later w wr) ∧ Hid (x.any wrongTerm = (x.drop j).any wrongTerm))
      case atStart => exact ⟨0, by omega, rfl, HL, (rfl : _ = _)⟩
      case round =>
        obtain ⟨j, hj, rfl, HLj, HF⟩ := hrel
        clear HL HN
        by_cases hlt : j < x.length
        · obtain ⟨t, ht⟩ : ∃ y, x[j]? = some y := ⟨_, List.getElem?_eq_getElem hlt⟩
          obtain ⟨b1, o1, _, rfl, hb1, rfl, hc⟩ := Kind.sl_at HV.out ht
          have d0 : wr.cell? ⟨b1, o1 + j * 2, none⟩ = some (.bool t.1) := by rw [HLj.out.cell hb1]; exact hc 0 _ rfl
          have d1 : wr.cell? ⟨b1, o1 + j * 2 + 1, none⟩ = some (.string (bs t.2)) := by rw [HLj.out.cell hb1]; exact hc 1 _ rfl
          have hbr : b1 < wr.heap.size := by have := HLj.out.size; omega
          have hd := any_step ht wrongTerm
          have hkt : t.2.length ≤ 9223372036854775807 := HK.out t (List.mem_of_getElem? ht)
          have HNt : Hid (∀ w, Calls Try.prog 14 #[.string (bs t.2)] w fun e w' => e = .returned (.bool (isNamed t.2)) ∧ Later w w') := fun w => rNamedBs t.2 w hkt
          have HVt : Hid (∀ w, Calls Try.prog 36 #[.string (bs t.2)] w fun e w' => e = .returned (.bool (isVar t.2)) ∧ Later w w') := fun w => rVariableBs t.2 w hkt
          obtain ⟨tv, tn⟩ := t
          dsimp only at *
          have hwt : wrongTerm (tv, tn) = if tv then !isVar tn else !isNamed tn := rfl
          rw [hwt] at hd
          clear hc ht hwt hkt
          have HBt : Hid (∀ w2, Later (wr.alloc (.cells #[.bool tv, .string (bs tn)] 105)) w2 → w2.cell? ⟨wr.heap.size, 0, none⟩ = some (.bool tv) ∧ w2.cell? ⟨wr.heap.size, 1, none⟩ = some (.string (bs tn)) ∧ wr.heap.size < w2.heap.size ∧ Later w w2) := fun w2 hL =>
            ⟨by rw [hL.cell (by simp)]; simp, by rw [hL.cell (by simp)]; simp, by have := hL.size; simp at this; omega, (HLj.out.alloc _).trans hL⟩
          generalize isVar tn = iv at *
          generalize isNamed tn = im at *
          generalize bs tn = tb at *
          cases tv
          · cases im
            · have F : Hid (x.any wrongTerm = true) := by show _ = _; rw [HF.out, hd]; rfl
              clear hd HF
              go_wp2_with (first
                | (go_at_call 14; refine (HNt.out _).mono ?_; rintro e w3 ⟨rfl, hL3⟩; obtain ⟨y0, y1, yl, HL3⟩ := HBt.out w3 hL3; clear hL3; replace HL3 := hide HL3))
              go_ret
              exact ⟨by rw [← HR.out, F.out]; rfl, unhide HL3⟩
            · have F : Hid (x.any wrongTerm = (x.drop (j + 1)).any wrongTerm) := by show _ = _; rw [HF.out, hd]; rfl
              clear hd HF
              go_wp2_with (first
                | (go_at_call 14; refine (HNt.out _).mono ?_; rintro e w3 ⟨rfl, hL3⟩; obtain ⟨y0, y1, yl, HL3⟩ := HBt.out w3 hL3; clear hL3; replace HL3 := hide HL3))
              go_roundg (x.length - (j + 1))
              case measure => omega
              case rel => exact ⟨j + 1, by omega, by go_num, unhide HL3, F⟩
          · cases iv
            · have F : Hid (x.any wrongTerm = true) := by show _ = _; rw [HF.out, hd]; rfl
              clear hd HF
              go_wp2_with (first
                | (go_at_call 36; refine (HVt.out _).mono ?_; rintro e w3 ⟨rfl, hL3⟩; obtain ⟨y0, y1, yl, HL3⟩ := HBt.out w3 hL3; clear hL3; replace HL3 := hide HL3))
              go_ret
              exact ⟨by rw [← HR.out, F.out]; rfl, unhide HL3⟩
            · have F : Hid (x.any wrongTerm = (x.drop (j + 1)).any wrongTerm) := by show _ = _; rw [HF.out, hd]; rfl
              clear hd HF
              go_wp2_with (first
                | (go_at_call 36; refine (HVt.out _).mono ?_; rintro e w3 ⟨rfl, hL3⟩; obtain ⟨y0, y1, yl, HL3⟩ := HBt.out w3 hL3; clear hL3; replace HL3 := hide HL3))
              go_roundg (x.length - (j + 1))
              case measure => omega
              case rel => exact ⟨j + 1, by omega, by go_num, unhide HL3, F⟩
        · have F : Hid (x.any wrongTerm = false) := by show _ = _; rw [HF.out, List.drop_eq_nil_of_le (by omega)]; rfl
          go_wp2
          go_ret
          exact ⟨by rw [← HR.out, F.out]; rfl, HLj.out⟩

end Go.Proofs.Ythogickpeldhlaa
