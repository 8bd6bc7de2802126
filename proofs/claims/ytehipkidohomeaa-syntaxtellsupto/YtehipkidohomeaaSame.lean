/- The walks of the reference's SameAtom, SameAtoms and SameProgram. -/
import Derived.Test.YtehipkidohomeaaPrW
import Derived.Laws.StructEq
namespace Go.Proofs.Ytehipkidohomeaa
open Go.RowKit Go.Sort

theorem bs_eq (a b : Bs) : ((bs a).toList == (bs b).toList) = decide (a = b) := by
  rw [Bool.eq_iff_iff, beq_iff_eq, decide_eq_true_iff]
  exact ⟨fun h => bs_inj (toList_inj h), fun h => by rw [h]⟩

theorem neqTerm (x y : TermD) (w : World) : (binOp .neq 105 (.agg #[.bool x.1, .string (bs x.2)]) (.agg #[.bool y.1, .string (bs y.2)])).run Try.prog w = .ok (.bool (!decide (x = y))) w := by
  have e : decide (x = y) = (x.1 == y.1 && (bs x.2).toList == (bs y.2).toList) := by
    rw [bs_eq]
    obtain ⟨x1, x2⟩ := x
    obtain ⟨y1, y2⟩ := y
    rw [Bool.eq_iff_iff]; simp
  rw [e]
  generalize (bs x.2) = s
  generalize (bs y.2) = u
  generalize x.1 = b
  generalize y.1 = c
  go_simp
  by_cases h1 : b = c <;> by_cases h2 : s.toList = u.toList <;> simp [h1, h2]

theorem drop_step {α : Type} [DecidableEq α] {x y : List α} {k : Nat} {a b : α} (hx : x[k]? = some a) (hy : y[k]? = some b) : decide (x.drop k = y.drop k) = (decide (a = b) && decide (x.drop (k + 1) = y.drop (k + 1))) := by
  obtain ⟨h1, e1⟩ := List.getElem?_eq_some_iff.1 hx
  obtain ⟨h2, e2⟩ := List.getElem?_eq_some_iff.1 hy
  rw [List.drop_eq_getElem_cons h1, List.drop_eq_getElem_cons h2, e1, e2, Bool.eq_iff_iff]
  simp


set_option maxHeartbeats 2000000 in
theorem sameAtom (a b : AtomD) (va vb : Value) (w : World) (ha : termK.sl Anyw w va a.terms) (hb : termK.sl Anyw w vb b.terms) :
    Calls Try.prog 81 #[.agg #[.bool a.no, .string (bs a.name), va], .agg #[.bool b.no, .string (bs b.name), vb]] w fun e w' => e = .returned (.bool (decide (a = b))) ∧ Later w w' := by
  obtain ⟨a1, c1, rfl⟩ := Kind.slice ha
  obtain ⟨a2, c2, rfl⟩ := Kind.slice hb
  have HA := hide ha
  have HB := hide hb
  have hla := ha.1.1
  have hlb := hb.1.1
  have F : Hid (decide (a = b) = (decide (a.no = b.no) && decide (a.name = b.name) && decide (a.terms = b.terms))) := by
    show _ = _
    obtain ⟨x1, x2, x3⟩ := a
    obtain ⟨y1, y2, y3⟩ := b
    rw [Bool.eq_iff_iff]; simp [and_assoc]
  clear ha hb
  have e2 := bs_eq a.name b.name
  by_cases h1 : a.no = b.no
  · by_cases h2 : a.name = b.name
    · by_cases h3 : a.terms.length = b.terms.length
      · have h3' : ((a.terms.length : Int) == b.terms.length) = true := by rw [beq_iff_eq]; omega
        rw [decide_eq_true h2] at e2
        have F2 : Hid (decide (a = b) = decide (a.terms.drop 0 = b.terms.drop 0)) := by show _ = _; rw [F.out, decide_eq_true h1, decide_eq_true h2]; simp
        rw [h1, h3]
        generalize hx : a.terms = x at *
        generalize hy : b.terms = y at *
        clear hx hy F h2 h1
        generalize bs a.name = na at *
        generalize bs b.name = nb at *
        generalize b.no = no at *
        go_enter Try.func81, Try.ntmps81
        go_wp2
        go_loopg [30] y.length (fun k i wr => ∃ j : Nat, j + k = y.length ∧ i = .int .i64 j ∧ Later ((w.alloc (.cells #[.bool no, .string na, .slice a1 y.length c1] 54)).alloc (.cells #[.bool no, .string nb, .slice a2 y.length c2] 54)) wr ∧ decide (a = b) = decide (x.drop j = y.drop j))
        case atStart => exact ⟨0, by omega, rfl, Later.refl _, F2.out⟩
        case round =>
          obtain ⟨j, hj, rfl, hL, hF⟩ := hrel
          have HL := hide hL
          have HF := hide hF
          have hLw : Later w wr := ((Later.refl w).alloc _ |>.alloc _).trans hL
          have HLw := hide hLw
          have z1 : wr.cell? ⟨w.heap.size, 2, none⟩ = some (.slice a1 y.length c1) := by rw [hL.cell (by simp; omega)]; simp
          have z2 : wr.cell? ⟨w.heap.size + 1, 2, none⟩ = some (.slice a2 y.length c2) := by
            rw [hL.cell (by simp)]
            have : (w.alloc (.cells #[.bool no, .string na, .slice a1 y.length c1] 54)).heap.size = w.heap.size + 1 := by simp
            rw [← this]; simp
          clear hL hF
          by_cases hlt : j < y.length
          · obtain ⟨y0, hy0⟩ : ∃ x, y[j]? = some x := ⟨_, List.getElem?_eq_getElem hlt⟩
            obtain ⟨x0, hx0⟩ : ∃ z, x[j]? = some z := ⟨_, List.getElem?_eq_getElem (by omega)⟩
            obtain ⟨b1, o1, _, rfl, hb1, rfl, hc1⟩ := Kind.sl_at HA.out hx0
            obtain ⟨b2, o2, _, rfl, hb2, rfl, hc2⟩ := Kind.sl_at HB.out hy0
            have d0 : wr.cell? ⟨b1, o1 + j * 2, none⟩ = some (.bool x0.1) := by rw [hLw.cell hb1]; exact hc1 0 _ rfl
            have d1 : wr.cell? ⟨b1, o1 + j * 2 + 1, none⟩ = some (.string (bs x0.2)) := by rw [hLw.cell hb1]; exact hc1 1 _ rfl
            have g0 : wr.cell? ⟨b2, o2 + j * 2, none⟩ = some (.bool y0.1) := by rw [hLw.cell hb2]; exact hc2 0 _ rfl
            have g1 : wr.cell? ⟨b2, o2 + j * 2 + 1, none⟩ = some (.string (bs y0.2)) := by rw [hLw.cell hb2]; exact hc2 1 _ rfl
            have hjz : (j : Int) < (y.length : Int) := by omega
            have hbr1 : b1 < wr.heap.size := Nat.lt_of_lt_of_le hb1 hLw.size
            have hbr2 : b2 < wr.heap.size := Nat.lt_of_lt_of_le hb2 hLw.size
            have hq := neqTerm x0 y0
            have HD := hide (drop_step hx0 hy0)
            by_cases hxy : x0 = y0
            · rw [decide_eq_true hxy] at HD hq
              have HF2 : Hid (decide (a = b) = decide (x.drop (j + 1) = y.drop (j + 1))) := by show _ = _; rw [HF.out, HD.out]; rfl
              clear hc1 hc2 hx0 hy0 hLw hxy HD HF
              go_wp2
              go_quiet (fail)
              go_wp2
              go_roundg (y.length - (j + 1))
              case measure => omega
              case rel => exact ⟨j + 1, by omega, by go_num, HL.out.drewN _, HF2.out⟩
            · rw [decide_eq_false hxy] at HD hq
              have HF2 : Hid (decide (a = b) = false) := by show _ = _; rw [HF.out, HD.out]; rfl
              clear hc1 hc2 hx0 hy0 hLw hxy HD HF
              go_wp2
              go_quiet (fail)
              go_wp2
              go_ret
              exact ⟨ret_bool HF2.out.symm, HLw.out.drewN _⟩
          · have HF2 : Hid (decide (a = b) = true) := by
              show _ = _; rw [HF.out, List.drop_eq_nil_of_le (by omega), List.drop_eq_nil_of_le (by omega)]; rfl
            go_wp2
            go_ret
            exact ⟨ret_bool HF2.out.symm, HLw.out⟩
      · have h3' : ((a.terms.length : Int) == b.terms.length) = false := by rw [beq_eq_false_iff_ne]; omega
        rw [decide_eq_true h2] at e2
        have F2 : Hid (decide (a = b) = false) := by show _ = _; rw [F.out, decide_eq_false (fun e => h3 (by rw [e]) : ¬ a.terms = b.terms)]; simp
        clear F h2 h3
        generalize bs a.name = na at *
        generalize bs b.name = nb at *
        rw [h1]
        go_enter Try.func81, Try.ntmps81
        go_wp2
        go_ret
        exact ⟨ret_bool F2.out.symm, ((Later.refl w).alloc _).alloc _⟩
    · rw [decide_eq_false h2] at e2
      have F2 : Hid (decide (a = b) = false) := by show _ = _; rw [F.out, decide_eq_false h2]; simp
      clear F h2
      generalize bs a.name = na at *
      generalize bs b.name = nb at *
      rw [h1]
      go_enter Try.func81, Try.ntmps81
      go_wp2
      go_ret
      exact ⟨ret_bool F2.out.symm, ((Later.refl w).alloc _).alloc _⟩
  · have F2 : Hid (decide (a = b) = false) := by show _ = _; rw [F.out, decide_eq_false h1]; simp
    have h1' : (a.no == b.no) = false := by simpa using h1
    clear F h1 e2
    generalize bs a.name = na at *
    generalize bs b.name = nb at *
    generalize a.no = na' at *
    generalize b.no = nb' at *
    go_enter Try.func81, Try.ntmps81
    go_wp2
    go_ret
    exact ⟨ret_bool F2.out.symm, ((Later.refl w).alloc _).alloc _⟩

end Go.Proofs.Ytehipkidohomeaa
