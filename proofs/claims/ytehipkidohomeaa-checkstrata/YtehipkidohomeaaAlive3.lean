/- The walk of alive, of the statements on chapter 3. -/
import Derived.Test.YtehipkidohomeaaCkH
import Derived.Test.YtehipkidohomeaaRdQ
namespace Go.Proofs.Ytehipkidohomeaa
open Go.RowKit Go.Sort Go.Maps

def txtA : ByteArray := { data := #[98, 40, 88, 41, 32, 58, 45, 32, 97, 40, 88, 41, 44, 32, 33, 99, 40, 88, 41, 46, 32, 99, 40, 88, 41, 32, 58, 45, 32, 100, 40, 88, 41, 46] }
def txtB : ByteArray := { data := #[97, 40, 120, 41, 32, 58, 45, 32, 33, 97, 40, 120, 41, 46] }
def ra : RuleD := ⟨⟨false, [98], [(true, [88])]⟩, [⟨false, [97], [(true, [88])]⟩, ⟨true, [99], [(true, [88])]⟩]⟩
def rb : RuleD := ⟨⟨false, [99], [(true, [88])]⟩, [⟨false, [100], [(true, [88])]⟩]⟩
def rc : RuleD := ⟨⟨false, [97], [(false, [120])]⟩, [⟨true, [97], [(false, [120])]⟩]⟩
theorem toldA : toldRule (raw txtA) = ([ra, rb], 0, 0) := by kernel_rfl
theorem toldB : toldRule (raw txtB) = ([rc], 0, 0) := by kernel_rfl
theorem strataA : strataP [ra, rb] = ([1, 0], 0, 0) := by kernel_rfl
theorem strataB : strataP [rc] = ([], 10, 0) := by kernel_rfl
theorem wrongA : wrongP [ra, rb] = (0, 0) := by kernel_rfl
theorem varsA : vars ra.head = [[88]] := by kernel_rfl


set_option maxRecDepth 100000 in
theorem fieldErr (a b : Int) (w : World) : (Instr.field 30 (.agg #[.int .i64 a, .int .i64 b]) 0).run Try.prog w = .ok (.int .i64 a) w := by
  first | kernel_rfl | (simp [Instr.field, run_underlying Try.underlying30]) | go_simp

set_option maxRecDepth 100000 in
set_option maxHeartbeats 1000000 in
theorem alive3 (w : World) (m : Int) (hm : w.cell? ⟨0, 0, none⟩ = some (.int .i64 m)) :
    Calls Try.prog 53 #[] w fun e w' => e = .returned (.bool true) ∧ Below w.heap.size w w' := by
  have h0 : 0 < w.heap.size := World.block_lt_of_cell? w _ hm
  have HP := hide (parseC txtA w m hm)
  rw [toldA] at HP
  go_enter Try.func53, Try.ntmps53
  go_wp2_with fail
  refine HP.out.mono ?_
  rintro e w1 ⟨v1, rfl, hV1, hB1⟩
  have hs1 := hB1.size
  have hA1 := ((Later.refl w1).alloc (.cells #[.int .i64 0, .int .i64 0] 30)).below
  have hV1' := Kind.sl_below (Kind.sl_any hV1) hA1
  have HS := hide (strataC [ra, rb] v1 _ hV1')
  rw [strataA] at HS
  have hW1 := below_trans hB1 hA1 hs1
  have hz1 : (w1.alloc (.cells #[.int .i64 0, .int .i64 0] 30)).heap.size = w1.heap.size + 1 := by simp
  obtain ⟨p1, pc, rfl⟩ := Kind.slice hV1
  clear HP
  go_wp2_with fail
  refine HS.out.mono ?_
  rintro e w2 ⟨u2, rfl, hU2, hB2⟩
  have hs2 := hB2.size
  have hA2 := ((Later.refl w2).alloc (.cells #[.int .i64 0, .int .i64 0] 30)).below
  have hW2 := below_trans (below_trans hW1 hB2 (by omega)) hA2 (by omega)
  have hz2 : (w2.alloc (.cells #[.int .i64 0, .int .i64 0] 30)).heap.size = w2.heap.size + 1 := by simp
  have hV2 := Kind.sl_below (Kind.sl_below hV1' hB2) hA2
  have hU2' := Kind.sl_below (Kind.sl_any hU2) hA2
  have hrow := heap_alloc_new w2 (.cells #[.int .i64 0, .int .i64 0] 30)
  have HP := hide (parseC txtB (w2.alloc (.cells #[.int .i64 0, .int .i64 0] 30)) m (by rw [World.cell?_of_block (w := w) (a := ⟨0, 0, none⟩) (hW2.block 0 h0)]; exact hm))
  rw [toldB] at HP
  obtain ⟨p2, pc2, rfl⟩ := Kind.slice hU2
  clear HS hV1 hV1' hU2
  go_wp2_with fail
  refine HP.out.mono ?_
  rintro e w3 ⟨v3, rfl, hV3, hB3⟩
  have hs3 := hB3.size
  have hA3 := ((Later.refl w3).alloc (.cells #[.int .i64 0, .int .i64 0] 30)).below
  have hW3 := below_trans (below_trans hW2 hB3 (by omega)) hA3 (by omega)
  have hz3 : (w3.alloc (.cells #[.int .i64 0, .int .i64 0] 30)).heap.size = w3.heap.size + 1 := by simp
  have hV3a := Kind.sl_below (Kind.sl_below hV2 hB3) hA3
  have hU3a := Kind.sl_below (Kind.sl_below hU2' hB3) hA3
  have hrow3 : (w3.alloc (.cells #[.int .i64 0, .int .i64 0] 30)).heap[w2.heap.size]? = some (.cells #[.int .i64 0, .int .i64 0] 30 (0, 0)) := by rw [hA3.block _ (by omega), hB3.block _ (by omega)]; exact hrow
  have HS := hide (strataC [rc] v3 _ (Kind.sl_below (Kind.sl_any hV3) hA3))
  rw [strataB] at HS
  obtain ⟨p3, pc3, rfl⟩ := Kind.slice hV3
  clear HP hV2 hU2' hrow
  go_wp2_with fail
  refine HS.out.mono ?_
  rintro e w4 ⟨u4, rfl, hU4, hB4⟩
  have hs4 := hB4.size
  have hA4 := ((Later.refl w4).alloc (.cells #[.int .i64 10, .int .i64 0] 30)).below
  have hW4 := below_trans (below_trans hW3 hB4 (by omega)) hA4 (by omega)
  have hz4 : (w4.alloc (.cells #[.int .i64 10, .int .i64 0] 30)).heap.size = w4.heap.size + 1 := by simp
  have hV4 := Kind.sl_below (Kind.sl_below hV3a hB4) hA4
  have hU4a := Kind.sl_below (Kind.sl_below hU3a hB4) hA4
  have hrow4 : (w4.alloc (.cells #[.int .i64 10, .int .i64 0] 30)).heap[w2.heap.size]? = some (.cells #[.int .i64 0, .int .i64 0] 30 (0, 0)) := by rw [hA4.block _ (by omega), hB4.block _ (by omega)]; exact hrow3
  have z0 : (w4.alloc (.cells #[.int .i64 10, .int .i64 0] 30)).cell? ⟨w2.heap.size, 0, none⟩ = some (.int .i64 0) := by rw [cell_of_row _ _ _ _ _ _ hrow4]; rfl
  obtain ⟨b5, o5, _, rfl, hb5, rfl, hc5⟩ := Kind.sl_at hU4a (i := 0) rfl
  obtain ⟨b6, o6, _, e6, hb6, rfl, hc6⟩ := Kind.sl_at hU4a (i := 1) rfl
  simp only [Option.some.injEq, Addr.mk.injEq, and_true] at e6
  obtain ⟨rfl, rfl⟩ := e6
  have y0 := hc5 0 _ rfl
  have y1 := hc6 0 _ rfl
  simp only [intK, Nat.zero_mul, Nat.add_zero, Nat.one_mul] at y0 y1
  have HWr := hide (wrongC [ra, rb] _ _ hV4)
  rw [wrongA] at HWr
  have HV4 := hide hV4
  have HW4 := hide hW4
  obtain ⟨p4, pc4, rfl⟩ := Kind.slice hU4
  clear HS hU4 hV4 hU4a hV3a hU3a hrow3 hrow4 hc5 hc6 hW1 hW2 hW3 hW4 hA1 hA2 hA3 hA4 hB1 hB2 hB3 hB4 hm hV3
  go_wp2_with fail
  refine HWr.out.mono ?_
  rintro e w5 ⟨rfl, hB5⟩
  have hV5 := Kind.sl_below HV4.out hB5
  have hW5 := hide (below_trans HW4.out hB5 (by omega))
  have hs5 := hB5.size
  obtain ⟨b7, o7, _, rfl, hb7, ⟨tv, bv, rfl, htv, hbv⟩, hc7⟩ := Kind.sl_at hV5 (i := 0) rfl
  have g0 := hc7 0 _ rfl
  have g1 := hc7 1 _ rfl
  have g2 := hc7 2 _ rfl
  have HVr := hide (varsC ra.head tv w5 htv (by decide) (fun t ht => short_max (by revert t; decide)))
  rw [varsA] at HVr
  simp only [ruleK, ra, Nat.zero_mul, Nat.add_zero] at g0 g1 g2 HVr
  obtain ⟨ta, tc, rfl⟩ := Kind.slice htv
  have hfe := fieldErr 0 0 w5
  clear HV4 HW4 hB5 hV5 hc7 htv hbv HWr
  go_wp2_with fail
  refine HVr.out.mono ?_
  rintro e w6 ⟨u6, rfl, ho6, hB6⟩
  obtain ⟨p6, pc6, rfl⟩ := Kind.own_slice ho6
  have HW6 := hide (below_trans (unhide hW5) hB6 (by omega))
  clear ho6 hB6 HVr
  go_wp2
  go_ret
  exact ⟨rfl, HW6.out⟩

end Go.Proofs.Ytehipkidohomeaa
