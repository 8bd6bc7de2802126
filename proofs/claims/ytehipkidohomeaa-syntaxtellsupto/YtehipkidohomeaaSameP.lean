/- The walks of the reference's SameAtoms and SameProgram. -/
import Derived.Test.YtehipkidohomeaaSame
namespace Go.Proofs.Ytehipkidohomeaa
open Go.RowKit Go.Sort

theorem grownCell {w : World} {b o : Nat} {v : Value} (hb : b < w.heap.size) (h : w.cell? ⟨b, o, none⟩ = some v) (q : Nat) (os : Array Obj) : (grow (w.drewN q) os).cell? ⟨b, o, none⟩ = some v := by
  rw [(((Later.refl w).drewN q).grow os).cell (p := ⟨b, o, none⟩) hb]; exact h

theorem mixedO : Try.prog.follows .mixedOrders = true := by kernel_rfl
theorem wrapNat {j : Nat} (h : j ≤ 9223372036854775807) : IntKind.i64.wrap (j : Int) = (j : Int) := by
  rw [IntKind.wrap_i64]; omega

set_option maxHeartbeats 2000000 in
theorem sameAtoms (x y : List AtomD) (va vb : Value) (w : World) (ha : atomK.sl Anyw w va x) (hb : atomK.sl Anyw w vb y) :
    Calls Try.prog 41 #[va, vb] w fun e w' => e = .returned (.bool (decide (x = y))) ∧ Later w w' := by
  obtain ⟨a1, c1, rfl⟩ := Kind.slice ha
  obtain ⟨a2, c2, rfl⟩ := Kind.slice hb
  have HA := hide ha
  have HB := hide hb
  have hla := ha.1.1
  have hlb := hb.1.1
  clear ha hb
  by_cases h3 : x.length = y.length
  · have HXY := hide h3
    rw [h3]
    clear h3
    go_enter Try.func41, Try.ntmps41
    go_wp2
    go_loopg [13] y.length (fun k i wr => ∃ j : Nat, j + k = y.length ∧ i = .int .i64 j ∧ Later w wr ∧ decide (x = y) = decide (x.drop j = y.drop j))
    case atStart => exact ⟨0, by omega, rfl, Later.refl _, by simp⟩
    case round =>
      obtain ⟨j, hj, rfl, hL, hF⟩ := hrel
      have HL := hide hL
      have HF := hide hF
      clear hF
      by_cases hlt : j < y.length
      · obtain ⟨y0, hy0⟩ : ∃ x, y[j]? = some x := ⟨_, List.getElem?_eq_getElem hlt⟩
        obtain ⟨x0, hx0⟩ : ∃ z, x[j]? = some z := ⟨_, List.getElem?_eq_getElem (by have := HXY.out; omega)⟩
        obtain ⟨b1, o1, _, rfl, hb1, ⟨v1, rfl, ht1⟩, hc1⟩ := Kind.sl_at HA.out hx0
        obtain ⟨b2, o2, _, rfl, hb2, ⟨v2, rfl, ht2⟩, hc2⟩ := Kind.sl_at HB.out hy0
        have HC : Hid (∀ q os, Calls Try.prog 81 #[.agg #[.bool x0.no, .string (bs x0.name), v1], .agg #[.bool y0.no, .string (bs y0.name), v2]] (grow (wr.drewN q) os) fun e w' => e = .returned (.bool (decide (x0 = y0))) ∧ Later (grow (wr.drewN q) os) w') :=
          fun q os => sameAtom x0 y0 v1 v2 _ (Kind.sl_later ht1 (hL.trans (((Later.refl wr).drewN q).grow os))) (Kind.sl_later ht2 (hL.trans (((Later.refl wr).drewN q).grow os)))
        have hbr1 : b1 < wr.heap.size := Nat.lt_of_lt_of_le hb1 hL.size
        have hbr2 : b2 < wr.heap.size := Nat.lt_of_lt_of_le hb2 hL.size
        have d0 := grownCell hbr1 (o := o1 + j * 3) (v := .bool x0.no) (by rw [hL.cell hb1]; exact hc1 0 _ rfl)
        have d1 := grownCell hbr1 (o := o1 + j * 3 + 1) (v := .string (bs x0.name)) (by rw [hL.cell hb1]; exact hc1 1 _ rfl)
        have d2 := grownCell hbr1 (o := o1 + j * 3 + 2) (v := v1) (by rw [hL.cell hb1]; exact hc1 2 _ rfl)
        have g0 := grownCell hbr2 (o := o2 + j * 3) (v := .bool y0.no) (by rw [hL.cell hb2]; exact hc2 0 _ rfl)
        have g1 := grownCell hbr2 (o := o2 + j * 3 + 1) (v := .string (bs y0.name)) (by rw [hL.cell hb2]; exact hc2 1 _ rfl)
        have g2 := grownCell hbr2 (o := o2 + j * 3 + 2) (v := v2) (by rw [hL.cell hb2]; exact hc2 2 _ rfl)
        obtain ⟨ta1, tc1, rfl⟩ := Kind.slice ht1
        obtain ⟨ta2, tc2, rfl⟩ := Kind.slice ht2
        have hjz : (j : Int) < (y.length : Int) := by omega
        have hwr : IntKind.i64.wrap (j : Int) = (j : Int) := wrapNat (by omega)
        have mixed : Try.prog.follows .mixedOrders = true := mixedO
        have HD := hide (drop_step hx0 hy0)
        clear hc1 hc2 hx0 hy0 ht1 ht2 hL
        by_cases hxy : x0 = y0
        · rw [decide_eq_true hxy] at HD HC
          have HF2 : Hid (decide (x = y) = decide (x.drop (j + 1) = y.drop (j + 1))) := by show _ = _; rw [HF.out, HD.out]; rfl
          clear hxy HD HF
          go_wp2
          go_quiet_grown ((go_at_call 81; exact Calls.grown_of (HC.out _ _)))
          go_wp2
          go_roundg (y.length - (j + 1))
          case measure => omega
          case rel => exact ⟨j + 1, by omega, by go_num, HL.out.trans ⟨_, _, rfl⟩, HF2.out⟩
        · rw [decide_eq_false hxy] at HD HC
          have HF2 : Hid (decide (x = y) = false) := by show _ = _; rw [HF.out, HD.out]; rfl
          clear hxy HD HF
          go_wp2
          go_quiet_grown ((go_at_call 81; exact Calls.grown_of (HC.out _ _)))
          go_wp2
          go_ret
          exact ⟨ret_bool HF2.out.symm, HL.out.trans ⟨_, _, rfl⟩⟩
      · have HF2 : Hid (decide (x = y) = true) := by
          show _ = _; rw [HF.out, List.drop_eq_nil_of_le (by have := HXY.out; omega), List.drop_eq_nil_of_le (by omega)]; rfl
        go_wp2
        go_ret
        exact ⟨ret_bool HF2.out.symm, HL.out⟩
  · have h3' : ((x.length : Int) == y.length) = false := by rw [beq_eq_false_iff_ne]; omega
    have F2 : Hid (decide (x = y) = false) := by show _ = _; exact decide_eq_false fun e => h3 (by rw [e])
    clear h3
    go_enter Try.func41, Try.ntmps41
    go_wp2
    go_ret
    exact ⟨ret_bool F2.out.symm, Later.refl _⟩

end Go.Proofs.Ytehipkidohomeaa
