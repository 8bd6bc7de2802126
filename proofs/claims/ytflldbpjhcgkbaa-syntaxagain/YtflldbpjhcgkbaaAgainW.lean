/- The walk of SyntaxAgain. -/
import Derived.Test.YtflldbpjhcgkbaaJoinW
import Derived.Test.YtflldbpjhcgkbaaAgain
namespace Go.Proofs.Ytflldbpjhcgkbaa
open Go.RowKit Go.Sort

set_option maxRecDepth 100000 in
set_option maxHeartbeats 1000000 in
theorem againW (s : ByteArray) (w : World) (m : Int) (hm : w.cell? ⟨0, 0, none⟩ = some (.int .i64 m)) :
    Calls Try.prog 7 #[.string s] w fun e w' => e = .returned (.bool true) ∧ Below w.heap.size w w' := by
  have h0 : 0 < w.heap.size := World.block_lt_of_cell? w _ hm
  have HL := hide (alive2 w m hm)
  go_enter Try.func7, Try.ntmps7
  go_wp2_with fail
  refine HL.out.mono ?_
  rintro e w1 ⟨rfl, hB1⟩
  have hs1 := hB1.size
  have HP := hide (parseC s w1 m (by rw [World.cell?_of_block (w := w) (a := ⟨0, 0, none⟩) (hB1.block 0 h0)]; exact hm))
  obtain ⟨⟨p, n1, k1⟩, hy1⟩ : ∃ y, toldRule (raw s) = y := ⟨_, rfl⟩
  rw [hy1] at HP
  dsimp only at HP
  have HB1 := hide hB1
  clear hB1 HL
  go_wp2_with fail
  refine HP.out.mono ?_
  rintro e w2 ⟨v1, rfl, hV1, hB2⟩
  obtain ⟨a1, c1, rfl⟩ := Kind.slice hV1
  have hs2 := hB2.size
  have hA2 := ((Later.refl w2).alloc (.cells #[.int .i64 n1, .int .i64 k1] 30)).below
  have hrow := heap_alloc_new w2 (.cells #[.int .i64 n1, .int .i64 k1] 30)
  have hz2 : (w2.alloc (.cells #[.int .i64 n1, .int .i64 k1] 30)).heap.size = w2.heap.size + 1 := by simp
  have hW2 := below_trans (below_trans HB1.out hB2 hs1) hA2 (by omega)
  have HW2 := hide hW2
  have hlp := hV1.1.1
  have HV1 : Hid (ruleK.sl Anyw (w2.alloc (.cells #[.int .i64 n1, .int .i64 k1] 30)) (.slice a1 p.length c1) p) := Kind.sl_below (Kind.sl_any hV1) hA2
  have HV1b := hide (Kind.sl_btw hV1)
  clear hB2 HP hV1
  by_cases hn1 : n1 = 0
  · subst hn1
    obtain ⟨hls, r1, hr1⟩ := told_ok hy1
    have hok := rules_ok _ _ _ _ _ hr1 (by simp)
    have hpl : p.length ≤ 16 := by have := hok.2; simp at this; omega
    have hps := all_short p hok.1
    have hag := again hr1
    have HPr := hide (printC _ p (w2.alloc (.cells #[.int .i64 0, .int .i64 k1] 30)) HV1.out (by omega))
    obtain ⟨X, hX⟩ : ∃ X, X = printAll p := ⟨_, rfl⟩
    rw [← hX] at HPr hag hps
    have HX := hide hX
    clear hy1 hr1 hok hls hX
    go_wp2_with fail
    refine HPr.out.mono ?_
    rintro e w3 ⟨rfl, hB3⟩
    have hs3 := hB3.size
    have hW3 := below_trans hW2 hB3 (by omega)
    have HQ := hide (parseC (bs X) w3 m (by rw [World.cell?_of_block (w := w) (a := ⟨0, 0, none⟩) (hW3.block 0 h0)]; exact hm))
    have hrow3 : w3.heap[w2.heap.size]? = some (.cells #[.int .i64 0, .int .i64 k1] 30 (0, 0)) := by rw [hB3.block _ (by omega)]; exact hrow
    rw [raw_bs] at HQ
    by_cases hlong : 3000 < X.length
    · have htold : toldRule X = ([], 4, 0) := by unfold toldRule; rw [if_pos hlong]
      rw [htold] at HQ
      dsimp only at HQ
      have HW3 := hide hW3
      clear htold hag hB3 hrow HPr hW3 hW2 hA2 hm
      go_wp2_with fail
      refine HQ.out.mono ?_
      rintro e w4 ⟨v2, rfl, hV2, hB4⟩
      obtain ⟨a2, c2, rfl⟩ := Kind.slice hV2
      have hrow4 : w4.heap[w2.heap.size]? = some (.cells #[.int .i64 0, .int .i64 k1] 30 (0, 0)) := by rw [hB4.block _ (by omega)]; exact hrow3
      have y0 : w4.cell? ⟨w2.heap.size, 0, none⟩ = some (.int .i64 0) := by rw [cell_of_row _ _ _ _ _ _ hrow4]; rfl
      have y1 : w4.cell? ⟨w2.heap.size, 1, none⟩ = some (.int .i64 k1) := by rw [cell_of_row _ _ _ _ _ _ hrow4]; rfl
      have f0 := frozen_row (j := 0) hrow4
      have f1 := frozen_row (j := 1) hrow4
      have HB4 := hide (below_trans HW3.out hB4 (by omega))
      clear hV2 hB4 hrow3 hrow4 HQ
      go_wp2
      go_ret
      exact ⟨rfl, (HB4.out.setCell (by show w.heap.size ≤ w2.heap.size; omega) _).setCell (by show w.heap.size ≤ w2.heap.size; omega) _⟩
    · have htold : toldRule X = (p, 0, 0) := told_of (by omega) hag
      rw [htold] at HQ
      dsimp only at HQ
      have HW3 := hide hW3
      have HV3 : Hid (ruleK.sl (Btw w1.heap.size w2.heap.size) w3 (.slice a1 p.length c1) p) := Kind.sl_kept HV1b.out (by omega) fun k hk _ => (hB3.block k (by omega)).trans (hA2.block k hk)
      clear htold hag hB3 hrow HPr hW3 hW2 hA2 hm
      go_wp2_with fail
      refine HQ.out.mono ?_
      rintro e w4 ⟨v2, rfl, hV2, hB4⟩
      obtain ⟨a2, c2, rfl⟩ := Kind.slice hV2
      have hs4 := hB4.size
      have hrow4 : w4.heap[w2.heap.size]? = some (.cells #[.int .i64 0, .int .i64 k1] 30 (0, 0)) := by rw [hB4.block _ (by omega)]; exact hrow3
      have y0 : w4.cell? ⟨w2.heap.size, 0, none⟩ = some (.int .i64 0) := by rw [cell_of_row _ _ _ _ _ _ hrow4]; rfl
      have y1 : w4.cell? ⟨w2.heap.size, 1, none⟩ = some (.int .i64 k1) := by rw [cell_of_row _ _ _ _ _ _ hrow4]; rfl
      have f0 := frozen_row (j := 0) hrow4
      have f1 := frozen_row (j := 1) hrow4
      have hB4' := below_trans HW3.out hB4 (by omega)
      have hT5 : Tn w2.heap.size w4 ((w4.setCell ⟨w2.heap.size, 0, none⟩ (.int .i64 0)).setCell ⟨w2.heap.size, 1, none⟩ (.int .i64 0)) := ((Tn.refl _ w4).moved _ _).moved _ _
      have HB5 : Hid (Below w.heap.size w ((w4.setCell ⟨w2.heap.size, 0, none⟩ (.int .i64 0)).setCell ⟨w2.heap.size, 1, none⟩ (.int .i64 0))) := (hB4'.setCell (by show w.heap.size ≤ w2.heap.size; omega) _).setCell (by show w.heap.size ≤ w2.heap.size; omega) _
      have hP5 : ruleK.sl Anyw ((w4.setCell ⟨w2.heap.size, 0, none⟩ (.int .i64 0)).setCell ⟨w2.heap.size, 1, none⟩ (.int .i64 0)) (.slice a1 p.length c1) p :=
        Kind.sl_any (Kind.sl_kept HV3.out (by rw [size_setCell, size_setCell]; omega) fun k hk hB => (hT5.block k (by omega) (by have := hB.2; omega)).trans (hB4.block k hk))
      have hQ5 : ruleK.sl Anyw ((w4.setCell ⟨w2.heap.size, 0, none⟩ (.int .i64 0)).setCell ⟨w2.heap.size, 1, none⟩ (.int .i64 0)) (.slice a2 p.length c2) p :=
        Kind.sl_any (Kind.sl_kept hV2 (by rw [size_setCell, size_setCell]; exact Nat.le_refl _) fun k hk hB => hT5.block k hk (by have : w3.heap.size ≤ k := hB; omega))
      have u0 : ((w4.setCell ⟨w2.heap.size, 0, none⟩ (.int .i64 0)).setCell ⟨w2.heap.size, 1, none⟩ (.int .i64 0)).cell? ⟨w2.heap.size, 0, none⟩ = some (.int .i64 0) := by
        rw [World.cell?_setCell_other _ _ _ _ (by simp)]; exact World.cell?_setCell_same _ _ _ y0
      have HS := hide (sameProgram p p rfl _ _ _ hP5 hQ5)
      have HQ5 := hide hQ5
      clear hV2 hB4 hrow3 hrow4 HQ hB4' hT5 hP5 hQ5 HV3
      go_wp2_with fail
      refine HS.out.mono ?_
      rintro e w6 ⟨rfl, hL6⟩
      have HB6 := hide (below_trans HB5.out hL6.below HB5.out.size)
      have HP2 := hide (printC _ p w6 (Kind.sl_later HQ5.out hL6) (by rw [← HX.out]; omega))
      rw [← HX.out] at HP2
      clear hL6 HS HQ5 HB5
      go_wp2_with fail
      refine HP2.out.mono ?_
      rintro e w7 ⟨rfl, hB7⟩
      have HB7 := hide (below_trans HB6.out hB7 HB6.out.size)
      clear hB7 HP2
      go_wp2
      go_ret
      exact ⟨rfl, HB7.out⟩
  · obtain ⟨rfl, hk⟩ := told_none hy1 hn1
    rw [length_raw] at hk
    have hn1' : (n1 == 0) = false := by simpa using hn1
    have hk' : (k1 : Int) ≤ s.size := by omega
    have hk0 : (0 : Int) ≤ k1 := by omega
    clear hy1 hm
    go_wp2
    go_ret
    refine ⟨?_, HW2.out⟩
    simp

end Go.Proofs.Ytflldbpjhcgkbaa
