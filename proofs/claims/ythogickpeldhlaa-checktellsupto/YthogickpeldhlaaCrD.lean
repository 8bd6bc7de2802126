/- The reference's WrongBody. -/
import Derived.Test.YthogickpeldhlaaCrC
namespace Go.Proofs.Ythogickpeldhlaa
open Go.RowKit Go.Sort Go.Maps

theorem keyA_of {a : AtomD} (h : wrongAtom a = 0) : keyA a := by
  obtain ⟨_, h2, h3⟩ := wrongAtom_zero h
  exact ⟨by omega, fun t ht => short_max (h3 t ht)⟩

set_option maxRecDepth 100000 in
set_option maxHeartbeats 4000000 in
theorem rWrongBody (l : List AtomD) (v : Value) (w : World) (hv : atomK.sl Anyw w v l) (hk : ∀ a ∈ l, longA a) :
    Calls Try.prog 50 #[v] w fun e w' => e = .returned (.int .i64 (wrongBody l)) ∧ Below w.heap.size w w' := by
  obtain ⟨sa, cap, rfl⟩ := Kind.slice hv
  have hl0 := hv.1.1
  have HV := hide hv
  have HK := hide hk
  clear hv hk
  by_cases h5 : 5 < l.length
  · have F : Hid (wrongBody l = 5) := by show _ = _; unfold wrongBody; rw [if_pos h5]
    go_enter Try.func50, Try.ntmps50
    go_wp2
    go_ret
    exact ⟨by rw [F.out]; rfl, Below.refl _ _⟩
  · have F : Hid (wrongBody l = if wrongAtoms l = 0 then (if l.all (fun a => (vars a).all (givenBy l)) then 0 else 9) else wrongAtoms l) := by show _ = _; unfold wrongBody; rw [if_neg h5]
    go_enter Try.func50, Try.ntmps50
    go_wp2
    go_loopg [13] l.length (fun k i wr => ∃ j : Nat, j + k = l.length ∧ i = .int .i64 j ∧ Hid (wrongAtoms l = wrongAtoms (l.drop j)) ∧ Hid (∀ a ∈ l.take j, wrongAtom a = 0) ∧ Hid (Below w.heap.size w wr))
    case atStart => exact ⟨0, by omega, rfl, (rfl : _ = _), (fun a ha => by simp at ha), Below.refl _ _⟩
    case round =>
      obtain ⟨j, hj, rfl, HE, HG, HB⟩ := hrel
      have hwr := HB.out.size
      by_cases hlt : j < l.length
      · obtain ⟨x, hx⟩ : ∃ x, l[j]? = some x := ⟨_, List.getElem?_eq_getElem hlt⟩
        obtain ⟨b1, o1, _, rfl, hb1, ⟨sv, rfl, hsv⟩, hc⟩ := Kind.sl_at HV.out hx
        have d0 : wr.cell? ⟨b1, o1 + j * 3, none⟩ = some (.bool x.no) := by rw [HB.out.cell hb1]; exact hc 0 _ rfl
        have d1 : wr.cell? ⟨b1, o1 + j * 3 + 1, none⟩ = some (.string (bs x.name)) := by rw [HB.out.cell hb1]; exact hc 1 _ rfl
        have d2 : wr.cell? ⟨b1, o1 + j * 3 + 2, none⟩ = some sv := by rw [HB.out.cell hb1]; exact hc 2 _ rfl
        have hbr : b1 < wr.heap.size := by omega
        have hB1 : Below w.heap.size w (wr.alloc (.cells #[.bool x.no, .string (bs x.name), sv] 54)) := HB.out.alloc HB.out.size _
        have HC : Hid (Calls Try.prog 89 #[.agg #[.bool x.no, .string (bs x.name), sv]] (wr.alloc (.cells #[.bool x.no, .string (bs x.name), sv] 54)) fun e w2 => e = .returned (.int .i64 (wrongAtom x)) ∧ Hid (Below w.heap.size w w2)) :=
          (rWrongAtom x sv _ (Kind.sl_below hsv hB1) (HK.out x (List.mem_of_getElem? hx))).mono fun e w2 ⟨he, hL⟩ => ⟨he, below_trans hB1 hL.below (by simp; omega)⟩
        have hst := wrongAtoms_step hx
        obtain ⟨a2, c2, rfl⟩ := Kind.slice hsv
        by_cases h0 : wrongAtom x = 0
        · have HE1 : Hid (wrongAtoms l = wrongAtoms (l.drop (j + 1))) := by show _ = _; rw [HE.out, hst, if_pos h0]
          have HG1 : Hid (∀ a ∈ l.take (j + 1), wrongAtom a = 0) := fun a ha => by
            rw [List.take_add_one, hx] at ha
            rcases List.mem_append.1 ha with ha | ha
            · exact HG.out a ha
            · simp at ha; rw [ha]; exact h0
          rw [h0] at HC
          clear hst hc hx hsv hB1 HE HG h0
          generalize bs x.name = nm at *
          generalize x.no = xn at *
          go_wp2_with (go_at_call 89; refine HC.out.mono ?_; rintro e w2 ⟨rfl, hB2⟩)
          go_roundg (l.length - (j + 1))
          case measure => omega
          case rel => exact ⟨j + 1, by omega, by go_num, HE1, HG1, hB2⟩
        · have F2 : Hid (wrongBody l = wrongAtom x) := by show _ = _; rw [F.out, HE.out, hst, if_neg h0, if_neg h0]
          have hq : (wrongAtom x != 0) = true := by simpa using h0
          clear hst hc hx hsv hB1 HE HG h0
          generalize bs x.name = nm at *
          generalize x.no = xn at *
          generalize wrongAtom x = ex at *
          go_wp2_with (go_at_call 89; refine HC.out.mono ?_; rintro e w2 ⟨rfl, hB2⟩)
          go_ret
          exact ⟨by rw [F2.out]; rfl, hB2.out⟩
      · have e : j = l.length := by omega
        subst e
        have HG1 : Hid (∀ a ∈ l, wrongAtom a = 0) := by have := HG.out; rw [List.take_length] at this; exact this
        have F1 : Hid (wrongBody l = if l.all (fun a => (vars a).all (givenBy l)) then 0 else 9) := by
          show _ = _
          rw [F.out, if_pos]
          rw [HE.out, List.drop_length]; rfl
        clear HE HG F
        go_wp2
        go_loopg [25] l.length (fun k i wr => ∃ j : Nat, j + k = l.length ∧ i = .int .i64 j ∧ Hid (l.all (fun a => (vars a).all (givenBy l)) = (l.drop j).all (fun a => (vars a).all (givenBy l))) ∧ Hid (Below w.heap.size w wr))
        case atStart => exact ⟨0, by omega, rfl, (rfl : _ = _), HB⟩
        case round =>
          obtain ⟨j, hj, rfl, HF, HBj⟩ := hrel
          clear HB
          have hwr2 := HBj.out.size
          by_cases hlt : j < l.length
          · obtain ⟨x, hx⟩ : ∃ x, l[j]? = some x := ⟨_, List.getElem?_eq_getElem hlt⟩
            obtain ⟨b1, o1, _, rfl, hb1, ⟨sv, rfl, hsv⟩, hc⟩ := Kind.sl_at HV.out hx
            have d0 : wr.cell? ⟨b1, o1 + j * 3, none⟩ = some (.bool x.no) := by rw [HBj.out.cell hb1]; exact hc 0 _ rfl
            have d1 : wr.cell? ⟨b1, o1 + j * 3 + 1, none⟩ = some (.string (bs x.name)) := by rw [HBj.out.cell hb1]; exact hc 1 _ rfl
            have d2 : wr.cell? ⟨b1, o1 + j * 3 + 2, none⟩ = some sv := by rw [HBj.out.cell hb1]; exact hc 2 _ rfl
            have hbr : b1 < wr.heap.size := by omega
            have hB1 : Below w.heap.size w (wr.alloc (.cells #[.bool x.no, .string (bs x.name), sv] 54)) := HBj.out.alloc HBj.out.size _
            have HA : Hid (Calls Try.prog 90 #[.agg #[.bool x.no, .string (bs x.name), sv], .slice (some ⟨b1, o1, none⟩) l.length cap] (wr.alloc (.cells #[.bool x.no, .string (bs x.name), sv] 54)) fun e w3 => e = .returned (.bool ((vars x).all (givenBy l))) ∧ Hid (Below w.heap.size w w3)) :=
              (rBound x sv l _ _ (Kind.sl_below hsv hB1) (keyA_of (HG1.out x (List.mem_of_getElem? hx))) (Kind.sl_below HV.out hB1) (fun b hb => keyA_of (HG1.out b hb))).mono fun e w3 ⟨he, hL⟩ => ⟨he, below_trans hB1 hL (by simp; omega)⟩
            have hst := all_step hx (fun a => (vars a).all (givenBy l))
            obtain ⟨a2, c2, rfl⟩ := Kind.slice hsv
            generalize hvx : (vars x).all (givenBy l) = vx at *
            cases vx
            · have F2 : Hid (wrongBody l = 9) := by show _ = _; rw [F1.out, HF.out, hst]; rfl
              clear hst hc hx hsv hB1 HF hvx F1
              generalize bs x.name = nm at *
              generalize x.no = xn at *
              go_wp2_with (go_at_call 90; refine HA.out.mono ?_; rintro e w5 ⟨rfl, k2⟩)
              go_ret
              exact ⟨by rw [F2.out]; rfl, k2.out⟩
            · have HF1 : Hid (l.all (fun a => (vars a).all (givenBy l)) = (l.drop (j + 1)).all (fun a => (vars a).all (givenBy l))) := by show _ = _; rw [HF.out, hst]; rfl
              clear hst hc hx hsv hB1 HF hvx
              generalize bs x.name = nm at *
              generalize x.no = xn at *
              go_wp2_with (go_at_call 90; refine HA.out.mono ?_; rintro e w5 ⟨rfl, k2⟩)
              go_roundg (l.length - (j + 1))
              case measure => omega
              case rel => exact ⟨j + 1, by omega, by go_num, HF1, k2⟩
          · have F2 : Hid (wrongBody l = 0) := by show _ = _; rw [F1.out, HF.out, List.drop_eq_nil_of_le (by omega)]; rfl
            go_wp2
            go_ret
            exact ⟨by rw [F2.out]; rfl, HBj.out⟩

end Go.Proofs.Ythogickpeldhlaa
