/- The walk of the reference's SameProgram. -/
import Derived.Test.YtehipkidohomeaaSameP
namespace Go.Proofs.Ytehipkidohomeaa
open Go.RowKit Go.Sort

set_option maxHeartbeats 2000000 in
theorem sameProgram (x y : List RuleD) (hxy : x = y) (va vb : Value) (w : World) (ha : ruleK.sl Anyw w va x) (hb : ruleK.sl Anyw w vb y) :
    Calls Try.prog 34 #[va, vb] w fun e w' => e = .returned (.bool true) ∧ Later w w' := by
  have HXX := hide hxy
  clear hxy
  obtain ⟨a1, c1, rfl⟩ := Kind.slice ha
  obtain ⟨a2, c2, rfl⟩ := Kind.slice hb
  have HA := hide ha
  have HB := hide hb
  have hla := ha.1.1
  have hlb := hb.1.1
  clear ha hb
  by_cases h3 : x.length = y.length
  · have HXY := hide h3
    rw [h3]
    clear h3
    go_enter Try.func34, Try.ntmps34
    go_wp2
    go_loopg [13] y.length (fun k i wr => ∃ j : Nat, j + k = y.length ∧ i = .int .i64 j ∧ Later w wr)
    case atStart => exact ⟨0, by omega, rfl, Later.refl _⟩
    case round =>
      obtain ⟨j, hj, rfl, hL⟩ := hrel
      have HL := hide hL
      by_cases hlt : j < y.length
      · obtain ⟨y0, hy0⟩ : ∃ x, y[j]? = some x := ⟨_, List.getElem?_eq_getElem hlt⟩
        obtain ⟨x0, hx0⟩ : ∃ z, x[j]? = some z := ⟨_, List.getElem?_eq_getElem (by have := HXY.out; omega)⟩
        obtain ⟨b1, o1, _, rfl, hb1, ⟨v1, u1, rfl, ht1, hs1⟩, hc1⟩ := Kind.sl_at HA.out hx0
        obtain ⟨b2, o2, _, rfl, hb2, ⟨v2, u2, rfl, ht2, hs2⟩, hc2⟩ := Kind.sl_at HB.out hy0
        have HC : Hid (∀ q os, Calls Try.prog 81 #[.agg #[.bool x0.head.no, .string (bs x0.head.name), v1], .agg #[.bool y0.head.no, .string (bs y0.head.name), v2]] (grow (wr.drewN q) os) fun e w' => e = .returned (.bool (decide (x0.head = y0.head))) ∧ Later (grow (wr.drewN q) os) w') :=
          fun q os => sameAtom x0.head y0.head v1 v2 _ (Kind.sl_later ht1 (hL.trans (((Later.refl wr).drewN q).grow os))) (Kind.sl_later ht2 (hL.trans (((Later.refl wr).drewN q).grow os)))
        have HS : Hid (∀ q os, Calls Try.prog 41 #[u1, u2] (grow (wr.drewN q) os) fun e w' => e = .returned (.bool (decide (x0.body = y0.body))) ∧ Later (grow (wr.drewN q) os) w') :=
          fun q os => sameAtoms x0.body y0.body u1 u2 _ (Kind.sl_later hs1 (hL.trans (((Later.refl wr).drewN q).grow os))) (Kind.sl_later hs2 (hL.trans (((Later.refl wr).drewN q).grow os)))
        have hbr1 : b1 < wr.heap.size := Nat.lt_of_lt_of_le hb1 hL.size
        have hbr2 : b2 < wr.heap.size := Nat.lt_of_lt_of_le hb2 hL.size
        have d0 := grownCell hbr1 (o := o1 + j * 4) (v := .bool x0.head.no) (by rw [hL.cell hb1]; exact hc1 0 _ rfl)
        have d1 := grownCell hbr1 (o := o1 + j * 4 + 1) (v := .string (bs x0.head.name)) (by rw [hL.cell hb1]; exact hc1 1 _ rfl)
        have d2 := grownCell hbr1 (o := o1 + j * 4 + 2) (v := v1) (by rw [hL.cell hb1]; exact hc1 2 _ rfl)
        have d3 := grownCell hbr1 (o := o1 + j * 4 + 3) (v := u1) (by rw [hL.cell hb1]; exact hc1 3 _ rfl)
        have g0 := grownCell hbr2 (o := o2 + j * 4) (v := .bool y0.head.no) (by rw [hL.cell hb2]; exact hc2 0 _ rfl)
        have g1 := grownCell hbr2 (o := o2 + j * 4 + 1) (v := .string (bs y0.head.name)) (by rw [hL.cell hb2]; exact hc2 1 _ rfl)
        have g2 := grownCell hbr2 (o := o2 + j * 4 + 2) (v := v2) (by rw [hL.cell hb2]; exact hc2 2 _ rfl)
        have g3 := grownCell hbr2 (o := o2 + j * 4 + 3) (v := u2) (by rw [hL.cell hb2]; exact hc2 3 _ rfl)
        obtain ⟨ta1, tc1, rfl⟩ := Kind.slice ht1
        obtain ⟨ta2, tc2, rfl⟩ := Kind.slice ht2
        obtain ⟨ba1, bc1, rfl⟩ := Kind.slice hs1
        obtain ⟨ba2, bc2, rfl⟩ := Kind.slice hs2
        have hjz : (j : Int) < (y.length : Int) := by omega
        have hwr : IntKind.i64.wrap (j : Int) = (j : Int) := wrapNat (by omega)
        have mixed : Try.prog.follows .mixedOrders = true := mixedO
        have h00 : x0 = y0 := by
          have h1 := hx0
          rw [HXX.out, hy0] at h1
          exact (Option.some.inj h1).symm
        rw [decide_eq_true (by rw [h00])] at HC HS
        clear h00
        clear hc1 hc2 hx0 hy0 ht1 ht2 hs1 hs2 hL
        go_wp2
        go_quiet_grown ((first | (go_at_call 81; exact Calls.grown_of (HC.out _ _)) | (go_at_call 41; exact Calls.grown_of (HS.out _ _))))
        go_wp2
        go_roundg (y.length - (j + 1))
        case measure => omega
        case rel => exact ⟨j + 1, by omega, by go_num, HL.out.trans ⟨_, _, rfl⟩⟩
      · go_wp2
        go_ret
        exact ⟨rfl, HL.out⟩
  · exact absurd (by rw [HXX.out]) h3

end Go.Proofs.Ytehipkidohomeaa
