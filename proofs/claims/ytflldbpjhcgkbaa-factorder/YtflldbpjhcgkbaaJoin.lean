/- The walks of slices.Grow, slices.Concat at two lists of facts, fact.Join. -/
import Derived.Test.YtflldbpjhcgkbaaOfW
import Derived.Test.YtflldbpjhcgkbaaGrowLay
namespace Go.Proofs.Ytflldbpjhcgkbaa
open Go.RowKit Go.Sort Go.Shelf

theorem growC (w0 w : World) (hL : Later w0 w) (n : Nat) (hn : n ≤ 3518437208883) : Calls Try.prog 80 #[.slice none 0 0, .int .i64 n] w fun e w' =>
    ∃ v', e = .returned v' ∧ RowF w' w0.heap.size v' [] ∧ Later w w' ∧ ∀ k, v'.ownBlock = some k → w.heap.size ≤ k := by
  by_cases h0 : n = 0
  · subst h0
    exact (Any8.slices_Grow_room Try.growFacts none 0 0 0 w (Nat.le_refl _) (by omega) (by omega) (Nat.le_refl _)).mono fun e w' ⟨he, hw⟩ =>
      ⟨_, he, by rw [hw]; exact ⟨[], World.ownsRow_nil w _ _ _, fun i hi => by simp at hi⟩, by rw [hw]; exact Later.refl _, fun k hk => by simp [Value.ownBlock] at hk⟩
  · obtain ⟨i, i1, i2, i3, i4⟩ := infoFact
    refine (Any8.slices_Grow_grow Try.growFacts i _ i1 i2 (by omega) none 0 0 n [] w (Nat.le_refl _) (by omega) (by rw [i4]; omega) (by omega) (by simp) (fun _ => rfl) (fun a h => by cases h)).mono fun e w' ⟨he, hw⟩ => ⟨_, he, ?_, ?_, fun k hk => ?_⟩
    · rw [hw]
      have hge := grownCap_ge w (0 + n) 0 (Try.growFacts_ren.t 25)
      have hcm := grownCap_le_maxLen w (0 + n) 0 (Try.growFacts_ren.t 25) (by simp only [maxLen]; omega)
      refine ⟨[], World.ownsRow_made (base := w0.heap.size) (e := 25) (size := 2) w.drew _ _ hL.size hcm ?_, fun i hi => by simp at hi⟩
      simp only [Array.size_append, List.size_toArray, size_zeroCells]
      show 0 + (0 + n - 0) * 2 + (grownCap w (0 + n) 0 (Try.growFacts_ren.t 25) - (0 + n)) * 2 = _
      omega
    · rw [hw]; exact (Later.refl w).drew.alloc _
    · simp [Value.ownBlock] at hk; omega

set_option maxHeartbeats 1000000 in
theorem concat (w0 w : World) (hL : Later w0 w) (c cp : Nat) (va vb : Value) (la lb : List FactD) (ha : Facts w0 va la) (hb : Facts w0 vb lb) (hn : la.length + lb.length ≤ 3518437208883) (hc0 : w.cell? ⟨c, 0, none⟩ = some va) (hc1 : w.cell? ⟨c, 1, none⟩ = some vb) (hcb : c < w.heap.size) :
    Calls Try.prog 53 #[.slice (some ⟨c, 0, none⟩) 2 cp] w fun e w' => ∃ v', e = .returned v' ∧ RowF w' w0.heap.size v' (la ++ lb) ∧ Later w0 w' := by
  have HA := hide ha
  have HB := hide hb
  obtain ⟨a1, c1, rfl⟩ := sliceFacts ha
  obtain ⟨a2, c2, rfl⟩ := sliceFacts hb
  clear ha hb
  have s1 : ¬ ((la.length : Int) < 0) := by omega
  have s2 : ¬ ((la.length : Int) + (lb.length : Int) < 0) := by omega
  go_enter Try.func53, Try.ntmps53
  go_wp2
  refine wp_loop_rounds 3 ?_
  rw [rounds_succ]
  go_wp2
  rw [rounds_succ]
  go_wp2
  rw [rounds_succ]
  go_wp2_with fail
  rw [show ((la.length : Int) + (lb.length : Int)) = ((la.length + lb.length : Nat) : Int) by omega]
  refine (growC w0 w hL (la.length + lb.length) hn).mono ?_
  rintro e w1 ⟨v1, rfl, hR1, hL1, hk1⟩
  obtain ⟨v2, w2, run2, hR2, hL2, hg2, hk2⟩ := hR1.append (hL.trans hL1) HA.out (by simp; omega)
  obtain ⟨v3, w3, run3, hR3, hL3, hg3, hk3⟩ := hR2.append hL2 HB.out (by simp; omega)
  rw [List.nil_append] at hR3
  have y0 : w1.cell? ⟨c, 0, none⟩ = some (.slice a1 la.length c1) := by rw [hL1.cell (p := ⟨c, 0, none⟩) hcb]; exact hc0
  have y1 : w1.cell? ⟨c, 1, none⟩ = some (.slice a2 lb.length c2) := by rw [hL1.cell (p := ⟨c, 1, none⟩) hcb]; exact hc1
  have y2 : w2.cell? ⟨c, 1, none⟩ = some (.slice a2 lb.length c2) := by
    rw [World.cell?_of_block (w := w1) (hg2.block c (Nat.lt_of_lt_of_le hcb hL1.size) (fun e => by have := hk1 c e.symm; omega))]; exact y1
  have R2 := hide run2
  have R3 := hide run3
  have HR := hide hR3
  clear run2 run3 hR1 hR2 hR3 hg2 hg3
  go_wp2
  refine wp_loop_rounds 3 ?_
  rw [rounds_succ]
  go_wp2_with (at_builtin; refine wpList_append_run rfl (.tmp 31) (.tmp 32) 22 rfl _ _ _ _ rfl rfl R2.out ?_)
  rw [rounds_succ]
  go_wp2_with (at_builtin; refine wpList_append_run rfl (.tmp 31) (.tmp 32) 22 rfl _ _ _ _ rfl rfl R3.out ?_)
  rw [rounds_succ]
  go_wp2
  go_ret
  exact ⟨v3, rfl, HR.out, hL3⟩

set_option maxHeartbeats 400000 in
/-- fact.Join: the set of both lists' facts, in memory of its own. -/
theorem joinC (va vb : Value) (la lb : List FactD) (w : World) (ha : Facts w va la) (hb : Facts w vb lb) (hn : la.length + lb.length ≤ 3518437208883) :
    Calls Try.prog 19 #[va, vb] w fun e w' => ∃ v' s, e = .returned v' ∧ SetOf s (la ++ lb) ∧ OwnF w' w.heap.size v' s ∧ Later w w' := by
  have HA := hide ha
  have HB := hide hb
  obtain ⟨a1, c1, rfl⟩ := sliceFacts ha
  obtain ⟨a2, c2, rfl⟩ := sliceFacts hb
  clear ha hb
  go_enter Try.func19, Try.ntmps19
  go_wp2_with fail
  refine (concat w _ (by repeat (first | exact Later.refl _ | assumption | refine Later.drewN ?_ _ | refine Later.drew ?_ | refine Later.alloc ?_ _ | refine Later.grow ?_ _)) w.heap.size 2 _ _ la lb HA.out HB.out hn (by simp) (by simp) (by simp)).mono ?_
  rintro e w1 ⟨v1, rfl, hR, hL⟩
  have hr0 := rise w1 w.heap.size v1 (la ++ lb) hR (by simpa using hn)
  obtain ⟨a3, c3, rfl⟩ := ownsSlice hR.choose_spec.1
  rw [List.length_append] at hr0
  have hr := hide hr0
  clear hR hr0
  go_wp2_with fail
  refine hr.out.mono ?_
  rintro e w2 ⟨v2, s, rfl, hs, hO, hW⟩
  have HS := hide hs
  have HO := hide hO
  clear hs hO
  go_wp2
  go_ret
  exact ⟨v2, s, rfl, HS.out, HO.out.base hL.size, hW.later hL (Nat.le_refl _)⟩

end Go.Proofs.Ytflldbpjhcgkbaa
