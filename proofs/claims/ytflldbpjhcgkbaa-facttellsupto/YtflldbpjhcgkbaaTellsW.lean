/- The walk of law.FactTells. -/
import Derived.Test.YtflldbpjhcgkbaaAlive
import Derived.Test.YtflldbpjhcgkbaaRefSet
import Derived.Test.YtflldbpjhcgkbaaRefOf
import Derived.Test.YtflldbpjhcgkbaaNeq
namespace Go.Proofs.Ytflldbpjhcgkbaa
open Go.RowKit Go.Sort

theorem Later.of_eq {w w' : World} (h : w' = w) : Later w w' := by rw [h]; exact Later.refl _

set_option maxRecDepth 100000 in
set_option maxHeartbeats 4000000 in
theorem tellsW (va vb vf vg : Value) (la lb : List FactD) (f g : FactD) (w : World) (ha : Facts w va la) (hb : Facts w vb lb) (hf : FactV w vf f) (hg : FactV w vg g) (hla : la.length ≤ 1048576) (hlb : lb.length ≤ 1048576) (hka : ∀ k, okF (la.getD k noFact)) (hkf : okF f) :
    Calls Try.prog 3 #[va, vb, vf, vg] w fun e w' => e = .returned (.bool true) ∧ Later w w' := by
  have mx := mixed
  have HKa := hide hka
  have HKf := hide hkf
  obtain ⟨a1, c1, rfl⟩ := sliceFacts ha
  obtain ⟨a2, c2, rfl⟩ := sliceFacts hb
  obtain ⟨s3, rfl, l3, a3, c3, rfl, k3⟩ := hf
  obtain ⟨s4, rfl, l4, a4, c4, rfl, k4⟩ := hg
  have hLB : Later w ((w.alloc (.cells #[.string f.1, .slice a3 f.2.length c3] 25)).alloc (.cells #[.string g.1, .slice a4 g.2.length c4] 25)) := ((Later.refl w).alloc _).alloc _
  have HA := hide (ha.later hLB)
  have HB := hide (hb.later hLB)
  have HF : Hid (FactV ((w.alloc (.cells #[.string f.1, .slice a3 f.2.length c3] 25)).alloc (.cells #[.string g.1, .slice a4 g.2.length c4] 25)) (.agg #[.string f.1, .slice a3 f.2.length c3]) f) := FactV.later ⟨_, rfl, l3, a3, c3, rfl, k3⟩ hLB
  have HG : Hid (FactV ((w.alloc (.cells #[.string f.1, .slice a3 f.2.length c3] 25)).alloc (.cells #[.string g.1, .slice a4 g.2.length c4] 25)) (.agg #[.string g.1, .slice a4 g.2.length c4]) g) := FactV.later ⟨_, rfl, l4, a4, c4, rfl, k4⟩ hLB
  have hbox : ∀ w', Later ((w.alloc (.cells #[.string f.1, .slice a3 f.2.length c3] 25)).alloc (.cells #[.string g.1, .slice a4 g.2.length c4] 25)) w' → w'.cell? ⟨w.heap.size, 0, none⟩ = some (.string f.1) ∧ w'.cell? ⟨w.heap.size, 1, none⟩ = some (.slice a3 f.2.length c3) ∧ w'.cell? ⟨w.heap.size + 1, 0, none⟩ = some (.string g.1) ∧ w'.cell? ⟨w.heap.size + 1, 1, none⟩ = some (.slice a4 g.2.length c4) :=
    fun w' hw => ⟨by rw [hw.cell (by simp; omega)]; go_simp, by rw [hw.cell (by simp; omega)]; go_simp, by rw [hw.cell (by simp)]; go_simp, by rw [hw.cell (by simp)]; go_simp⟩
  clear ha hb k3 k4 hka hkf
  go_enter Try.func3, Try.ntmps3
  go_wp2
  refine wp_region_held_drew (S := fun w' => Later ((w.alloc (.cells #[.string f.1, .slice a3 f.2.length c3] 25)).alloc (.cells #[.string g.1, .slice a4 g.2.length c4] 25)) w') (by kernel_rfl) (Later.refl _).drew (fun hHeld => ?_)
  refine take_at (i := 0) (d := some 12) (v := ?_) rfl rfl (by kernel_rfl) (by kernel_rfl) (by kernel_rfl) (fun _ _ _ h => h) (Or.inl ⟨by rfl, ?_⟩) hHeld ?_
  rotate_left
  · intro w hSw; (try dsimp only at hSw);  go_simp; try with_reducible rfl
  simp only [Act.put, List.setIfInBounds_toArray, List.set_cons_zero, List.set_cons_succ]
  refine take_at (i := 1) (d := some 13) (v := ?_) rfl rfl (by kernel_rfl) (by kernel_rfl) (by kernel_rfl) (fun _ _ _ h => h) (Or.inl ⟨by rfl, ?_⟩) hHeld ?_
  rotate_left
  · intro w hSw; (try dsimp only at hSw); obtain ⟨q0, q1, q2, q3⟩ := hbox w hSw; go_simp; try with_reducible rfl
  simp only [Act.put, List.setIfInBounds_toArray, List.set_cons_zero, List.set_cons_succ]
  refine take_at (i := 3) (d := some 15) (v := ?_) rfl rfl (by kernel_rfl) (by kernel_rfl) (by kernel_rfl) (fun _ _ _ h => h) (Or.inl ⟨by rfl, ?_⟩) hHeld ?_
  rotate_left
  · intro w hSw; (try dsimp only at hSw);  go_simp; try with_reducible rfl
  simp only [Act.put, List.setIfInBounds_toArray, List.set_cons_zero, List.set_cons_succ]
  refine take_at (i := 4) (d := some 16) (v := ?_) rfl rfl (by kernel_rfl) (by kernel_rfl) (by kernel_rfl) (fun _ _ _ h => h) (Or.inl ⟨by rfl, ?_⟩) hHeld ?_
  rotate_left
  · intro w hSw; (try dsimp only at hSw); obtain ⟨q0, q1, q2, q3⟩ := hbox w hSw; go_simp; try with_reducible rfl
  simp only [Act.put, List.setIfInBounds_toArray, List.set_cons_zero, List.set_cons_succ]
  refine wpAnyH_ready (rs := [2]) (by kernel_rfl) (by simp) ?_
  refine AllReadyH.cons rfl (fun K hK => ?_) AllReadyH.nil
  go_simp
  refine (named f.1 _).mono ?_
  rintro e u2 ⟨rfl, hE2⟩
  dsimp only
  have hU2 := Later.of_eq hE2
  clear hE2
  refine hK.out _ _ (hHeld.trans hU2) (fun hHeld => ?_)
  clear hK K
  refine wpAnyH_ready (rs := [5]) (by kernel_rfl) (by simp) ?_
  refine AllReadyH.cons rfl (fun K hK => ?_) AllReadyH.nil
  go_simp
  refine (rNamed f.1 _ HKf.out.1).mono ?_
  rintro e u5 ⟨rfl, hU5⟩
  dsimp only
  refine hK.out _ _ (hHeld.trans hU5) (fun hHeld => ?_)
  clear hK K
  refine take_at (i := 6) (d := some 18) (v := ?_) rfl rfl (by kernel_rfl) (by kernel_rfl) (by kernel_rfl) (fun _ _ _ h => h) (Or.inl ⟨by rfl, ?_⟩) hHeld ?_
  rotate_left
  · intro w hSw; (try dsimp only at hSw);  go_simp; try with_reducible rfl
  simp only [Act.put, List.setIfInBounds_toArray, List.set_cons_zero, List.set_cons_succ]
  refine take_at (i := 7) (d := some 19) (v := ?_) rfl rfl (by kernel_rfl) (by kernel_rfl) (by kernel_rfl) (fun _ _ _ h => h) (Or.inl ⟨by rfl, ?_⟩) hHeld ?_
  rotate_left
  · intro w hSw; (try dsimp only at hSw);  go_simp; try with_reducible rfl
  simp only [Act.put, List.setIfInBounds_toArray, List.set_cons_zero, List.set_cons_succ]
  refine take_at (i := 8) (d := some 20) (v := ?_) rfl rfl (by kernel_rfl) (by kernel_rfl) (by kernel_rfl) (fun _ _ _ h => h) (Or.inl ⟨by rfl, ?_⟩) hHeld ?_
  rotate_left
  · intro w hSw; (try dsimp only at hSw); obtain ⟨q0, q1, q2, q3⟩ := hbox w hSw; go_simp; try with_reducible rfl
  simp only [Act.put, List.setIfInBounds_toArray, List.set_cons_zero, List.set_cons_succ]
  refine take_at (i := 10) (d := some 22) (v := ?_) rfl rfl (by kernel_rfl) (by kernel_rfl) (by kernel_rfl) (fun _ _ _ h => h) (Or.inl ⟨by rfl, ?_⟩) hHeld ?_
  rotate_left
  · intro w hSw; (try dsimp only at hSw); obtain ⟨q0, q1, q2, q3⟩ := hbox w hSw; go_simp; try with_reducible rfl
  simp only [Act.put, List.setIfInBounds_toArray, List.set_cons_zero, List.set_cons_succ]
  refine wpAnyH_ready (rs := [9]) (by kernel_rfl) (by simp) ?_
  refine AllReadyH.cons rfl (fun K hK => ?_) AllReadyH.nil
  go_simp
  refine (wrong _ f _ (HF.out.later hHeld)).mono ?_
  rintro e u9 ⟨rfl, hU9⟩
  dsimp only
  refine hK.out _ _ (hHeld.trans hU9) (fun hHeld => ?_)
  clear hK K
  refine wpAnyH_ready (rs := [11]) (by kernel_rfl) (by simp) ?_
  refine AllReadyH.cons rfl (fun K hK => ?_) AllReadyH.nil
  go_simp
  refine (rWrong _ f _ (HF.out.later hHeld) HKf.out).mono ?_
  rintro e u11 ⟨rfl, hU11⟩
  dsimp only
  refine hK.out _ _ (hHeld.trans hU11) (fun hHeld => ?_)
  clear hK K
  refine take_at (i := 12) (d := some 24) (v := ?_) rfl rfl (by kernel_rfl) (by kernel_rfl) (by kernel_rfl) (fun _ _ _ h => h) (Or.inl ⟨by rfl, ?_⟩) hHeld ?_
  rotate_left
  · intro w hSw; (try dsimp only at hSw);  go_simp; try with_reducible rfl
  simp only [Act.put, List.setIfInBounds_toArray, List.set_cons_zero, List.set_cons_succ]
  refine take_at (i := 13) (d := some 25) (v := ?_) rfl rfl (by kernel_rfl) (by kernel_rfl) (by kernel_rfl) (fun _ _ _ h => h) (Or.inl ⟨by rfl, ?_⟩) hHeld ?_
  rotate_left
  · intro w hSw; (try dsimp only at hSw);  go_simp; try with_reducible rfl
  simp only [Act.put, List.setIfInBounds_toArray, List.set_cons_zero, List.set_cons_succ]
  refine take_at (i := 14) (d := some 26) (v := ?_) rfl rfl (by kernel_rfl) (by kernel_rfl) (by kernel_rfl) (fun _ _ _ h => h) (Or.inl ⟨by rfl, ?_⟩) hHeld ?_
  rotate_left
  · intro w hSw; (try dsimp only at hSw);  go_simp; try with_reducible rfl
  simp only [Act.put, List.setIfInBounds_toArray, List.set_cons_zero, List.set_cons_succ]
  refine take_at (i := 15) (d := some 27) (v := ?_) rfl rfl (by kernel_rfl) (by kernel_rfl) (by kernel_rfl) (fun _ _ _ h => h) (Or.inl ⟨by rfl, ?_⟩) hHeld ?_
  rotate_left
  · intro w hSw; (try dsimp only at hSw);  go_simp; try with_reducible rfl
  simp only [Act.put, List.setIfInBounds_toArray, List.set_cons_zero, List.set_cons_succ]
  refine take_at (i := 17) (d := some 29) (v := ?_) rfl rfl (by kernel_rfl) (by kernel_rfl) (by kernel_rfl) (fun _ _ _ h => h) (Or.inl ⟨by rfl, ?_⟩) hHeld ?_
  rotate_left
  · intro w hSw; (try dsimp only at hSw);  go_simp; try with_reducible rfl
  simp only [Act.put, List.setIfInBounds_toArray, List.set_cons_zero, List.set_cons_succ]
  refine wpAnyH_ready (rs := [16]) (by kernel_rfl) (by simp) ?_
  refine AllReadyH.cons rfl (fun K hK => ?_) AllReadyH.nil
  go_simp
  refine (setC _ la _ (HA.out.later hHeld)).mono ?_
  rintro e u16 ⟨rfl, hU16⟩
  dsimp only
  refine hK.out _ _ (hHeld.trans hU16) (fun hHeld => ?_)
  clear hK K
  refine wpAnyH_ready (rs := [18]) (by kernel_rfl) (by simp) ?_
  refine AllReadyH.cons rfl (fun K hK => ?_) AllReadyH.nil
  go_simp
  refine (rSetC _ la _ (HA.out.later hHeld) HKa.out).mono ?_
  rintro e u18 ⟨rfl, hU18⟩
  dsimp only
  refine hK.out _ _ (hHeld.trans hU18) (fun hHeld => ?_)
  clear hK K
  have hne := neqFault (setFault la).1 (setFault la).2
  refine take_at (i := 19) (d := some 31) (v := ?_) rfl rfl (by kernel_rfl) (by kernel_rfl) (by kernel_rfl) (fun _ _ _ h => h) (Or.inl ⟨by rfl, ?_⟩) hHeld ?_
  rotate_left
  · intro w hSw; (try dsimp only at hSw);  go_simp; try with_reducible rfl
  simp only [Act.put, List.setIfInBounds_toArray, List.set_cons_zero, List.set_cons_succ]
  refine take_at (i := 20) (d := some 32) (v := ?_) rfl rfl (by kernel_rfl) (by kernel_rfl) (by kernel_rfl) (fun _ _ _ h => h) (Or.inl ⟨by rfl, ?_⟩) hHeld ?_
  rotate_left
  · intro w hSw; (try dsimp only at hSw);  go_simp; try with_reducible rfl
  simp only [Act.put, List.setIfInBounds_toArray, List.set_cons_zero, List.set_cons_succ]
  refine take_at (i := 21) (d := some 33) (v := ?_) rfl rfl (by kernel_rfl) (by kernel_rfl) (by kernel_rfl) (fun _ _ _ h => h) (Or.inl ⟨by rfl, ?_⟩) hHeld ?_
  rotate_left
  · intro w hSw; (try dsimp only at hSw);  go_simp; try with_reducible rfl
  simp only [Act.put, List.setIfInBounds_toArray, List.set_cons_zero, List.set_cons_succ]
  refine take_at (i := 22) (d := some 34) (v := ?_) rfl rfl (by kernel_rfl) (by kernel_rfl) (by kernel_rfl) (fun _ _ _ h => h) (Or.inl ⟨by rfl, ?_⟩) hHeld ?_
  rotate_left
  · intro w hSw; (try dsimp only at hSw);  go_simp; try with_reducible rfl
  simp only [Act.put, List.setIfInBounds_toArray, List.set_cons_zero, List.set_cons_succ]
  refine take_at (i := 24) (d := some 36) (v := ?_) rfl rfl (by kernel_rfl) (by kernel_rfl) (by kernel_rfl) (fun _ _ _ h => h) (Or.inl ⟨by rfl, ?_⟩) hHeld ?_
  rotate_left
  · intro w hSw; (try dsimp only at hSw);  go_simp; try with_reducible rfl
  simp only [Act.put, List.setIfInBounds_toArray, List.set_cons_zero, List.set_cons_succ]
  clear hne
  refine wpAnyH_ready (rs := [23]) (by kernel_rfl) (by simp) ?_
  refine AllReadyH.cons rfl (fun K hK => ?_) AllReadyH.nil
  go_simp
  refine (ownC _ la _ (HA.out.later hHeld)).mono ?_
  rintro e u23 ⟨v23, rfl, hO23, hU23⟩
  dsimp only
  have F23 := hide (hO23.facts (by omega))
  obtain ⟨b23, k23, rfl⟩ := ownsSlice hO23.choose_spec.1
  clear hO23
  refine hK.out _ _ (hHeld.trans hU23) (fun hHeld => ?_)
  clear hK K
  refine wpAnyH_ready (rs := [25]) (by kernel_rfl) (by simp) ?_
  refine AllReadyH.cons rfl (fun K hK => ?_) AllReadyH.nil
  go_simp
  refine (rSame _ _ la _ F23.out (HA.out.later hHeld)).mono ?_
  rintro e u25 ⟨rfl, hU25⟩
  dsimp only
  refine hK.out _ _ (hHeld.trans hU25) (fun hHeld => ?_)
  clear hK K
  clear F23
  refine take_at (i := 26) (d := some 38) (v := ?_) rfl rfl (by kernel_rfl) (by kernel_rfl) (by kernel_rfl) (fun _ _ _ h => h) (Or.inl ⟨by rfl, ?_⟩) hHeld ?_
  rotate_left
  · intro w hSw; (try dsimp only at hSw);  go_simp; try with_reducible rfl
  simp only [Act.put, List.setIfInBounds_toArray, List.set_cons_zero, List.set_cons_succ]
  refine take_at (i := 27) (d := some 39) (v := ?_) rfl rfl (by kernel_rfl) (by kernel_rfl) (by kernel_rfl) (fun _ _ _ h => h) (Or.inl ⟨by rfl, ?_⟩) hHeld ?_
  rotate_left
  · intro w hSw; (try dsimp only at hSw);  go_simp; try with_reducible rfl
  simp only [Act.put, List.setIfInBounds_toArray, List.set_cons_zero, List.set_cons_succ]
  refine take_at (i := 28) (d := some 40) (v := ?_) rfl rfl (by kernel_rfl) (by kernel_rfl) (by kernel_rfl) (fun _ _ _ h => h) (Or.inl ⟨by rfl, ?_⟩) hHeld ?_
  rotate_left
  · intro w hSw; (try dsimp only at hSw);  go_simp; try with_reducible rfl
  simp only [Act.put, List.setIfInBounds_toArray, List.set_cons_zero, List.set_cons_succ]
  refine take_at (i := 29) (d := some 41) (v := ?_) rfl rfl (by kernel_rfl) (by kernel_rfl) (by kernel_rfl) (fun _ _ _ h => h) (Or.inl ⟨by rfl, ?_⟩) hHeld ?_
  rotate_left
  · intro w hSw; (try dsimp only at hSw);  go_simp; try with_reducible rfl
  simp only [Act.put, List.setIfInBounds_toArray, List.set_cons_zero, List.set_cons_succ]
  refine take_at (i := 31) (d := some 43) (v := ?_) rfl rfl (by kernel_rfl) (by kernel_rfl) (by kernel_rfl) (fun _ _ _ h => h) (Or.inl ⟨by rfl, ?_⟩) hHeld ?_
  rotate_left
  · intro w hSw; (try dsimp only at hSw);  go_simp; try with_reducible rfl
  simp only [Act.put, List.setIfInBounds_toArray, List.set_cons_zero, List.set_cons_succ]
  refine wpAnyH_ready (rs := [30]) (by kernel_rfl) (by simp) ?_
  refine AllReadyH.cons rfl (fun K hK => ?_) AllReadyH.nil
  go_simp
  refine (ofC _ la _ (HA.out.later hHeld)).mono ?_
  rintro e u30 ⟨v30, s30, rfl, hS30, hO30, hU30⟩
  dsimp only
  have F30 := hide (hO30.facts (by have := hS30.2.2; omega))
  obtain ⟨b30, k30, rfl⟩ := ownsSlice hO30.choose_spec.1
  clear hO30
  have S30 := hide hS30
  clear hS30
  refine hK.out _ _ (hHeld.trans hU30) (fun hHeld => ?_)
  clear hK K
  refine wpAnyH_ready (rs := [32]) (by kernel_rfl) (by simp) ?_
  refine AllReadyH.cons rfl (fun K hK => ?_) AllReadyH.nil
  go_simp
  refine (rOf _ la _ (HA.out.later hHeld) hla).mono ?_
  rintro e u32 ⟨v32, s32, rfl, hF32, hS32, hU32⟩
  dsimp only
  obtain rfl : s32 = s30 := hS32.same S30.out fun _ => Iff.rfl
  have F32 := hide hF32.1
  obtain ⟨b32, k32, rfl⟩ := sliceFacts hF32.1
  clear hF32
  clear hS32
  replace F30 := hide (F30.out.later hU32)
  refine hK.out _ _ (hHeld.trans hU32) (fun hHeld => ?_)
  clear hK K
  refine wpAnyH_ready (rs := [33]) (by kernel_rfl) (by simp) ?_
  refine AllReadyH.cons rfl (fun K hK => ?_) AllReadyH.nil
  go_simp
  refine (rSame _ _ s32 _ F30.out F32.out).mono ?_
  rintro e u33 ⟨rfl, hU33⟩
  dsimp only
  refine hK.out _ _ (hHeld.trans hU33) (fun hHeld => ?_)
  clear hK K
  clear F30 F32 S30
  refine take_at (i := 34) (d := some 46) (v := ?_) rfl rfl (by kernel_rfl) (by kernel_rfl) (by kernel_rfl) (fun _ _ _ h => h) (Or.inl ⟨by rfl, ?_⟩) hHeld ?_
  rotate_left
  · intro w hSw; (try dsimp only at hSw);  go_simp; try with_reducible rfl
  simp only [Act.put, List.setIfInBounds_toArray, List.set_cons_zero, List.set_cons_succ]
  refine take_at (i := 35) (d := some 47) (v := ?_) rfl rfl (by kernel_rfl) (by kernel_rfl) (by kernel_rfl) (fun _ _ _ h => h) (Or.inl ⟨by rfl, ?_⟩) hHeld ?_
  rotate_left
  · intro w hSw; (try dsimp only at hSw);  go_simp; try with_reducible rfl
  simp only [Act.put, List.setIfInBounds_toArray, List.set_cons_zero, List.set_cons_succ]
  refine take_at (i := 36) (d := some 48) (v := ?_) rfl rfl (by kernel_rfl) (by kernel_rfl) (by kernel_rfl) (fun _ _ _ h => h) (Or.inl ⟨by rfl, ?_⟩) hHeld ?_
  rotate_left
  · intro w hSw; (try dsimp only at hSw);  go_simp; try with_reducible rfl
  simp only [Act.put, List.setIfInBounds_toArray, List.set_cons_zero, List.set_cons_succ]
  refine take_at (i := 37) (d := some 49) (v := ?_) rfl rfl (by kernel_rfl) (by kernel_rfl) (by kernel_rfl) (fun _ _ _ h => h) (Or.inl ⟨by rfl, ?_⟩) hHeld ?_
  rotate_left
  · intro w hSw; (try dsimp only at hSw);  go_simp; try with_reducible rfl
  simp only [Act.put, List.setIfInBounds_toArray, List.set_cons_zero, List.set_cons_succ]
  refine take_at (i := 38) (d := some 50) (v := ?_) rfl rfl (by kernel_rfl) (by kernel_rfl) (by kernel_rfl) (fun _ _ _ h => h) (Or.inl ⟨by rfl, ?_⟩) hHeld ?_
  rotate_left
  · intro w hSw; (try dsimp only at hSw);  go_simp; try with_reducible rfl
  simp only [Act.put, List.setIfInBounds_toArray, List.set_cons_zero, List.set_cons_succ]
  refine take_at (i := 40) (d := some 52) (v := ?_) rfl rfl (by kernel_rfl) (by kernel_rfl) (by kernel_rfl) (fun _ _ _ h => h) (Or.inl ⟨by rfl, ?_⟩) hHeld ?_
  rotate_left
  · intro w hSw; (try dsimp only at hSw);  go_simp; try with_reducible rfl
  simp only [Act.put, List.setIfInBounds_toArray, List.set_cons_zero, List.set_cons_succ]
  refine take_at (i := 41) (d := some 53) (v := ?_) rfl rfl (by kernel_rfl) (by kernel_rfl) (by kernel_rfl) (fun _ _ _ h => h) (Or.inl ⟨by rfl, ?_⟩) hHeld ?_
  rotate_left
  · intro w hSw; (try dsimp only at hSw);  go_simp; try with_reducible rfl
  simp only [Act.put, List.setIfInBounds_toArray, List.set_cons_zero, List.set_cons_succ]
  refine wpAnyH_ready (rs := [39]) (by kernel_rfl) (by simp) ?_
  refine AllReadyH.cons rfl (fun K hK => ?_) AllReadyH.nil
  go_simp
  refine (joinC _ _ la lb _ (HA.out.later hHeld) (HB.out.later hHeld) (by omega)).mono ?_
  rintro e u39 ⟨v39, s39, rfl, hS39, hO39, hU39⟩
  dsimp only
  have F39 := hide (hO39.facts (by have := hS39.2.2; simp at this; omega))
  obtain ⟨b39, k39, rfl⟩ := ownsSlice hO39.choose_spec.1
  clear hO39
  have S39 := hide hS39
  clear hS39
  refine hK.out _ _ (hHeld.trans hU39) (fun hHeld => ?_)
  clear hK K
  refine wpAnyH_ready (rs := [42]) (by kernel_rfl) (by simp) ?_
  refine AllReadyH.cons rfl (fun K hK => ?_) AllReadyH.nil
  go_simp
  refine (rBoth _ _ la lb _ (HA.out.later hHeld) (HB.out.later hHeld) hla hlb).mono ?_
  rintro e u42 ⟨v42, s42, rfl, hF42, hS42, hU42⟩
  dsimp only
  obtain rfl : s42 = s39 := hS42.same S39.out fun _ => Iff.rfl
  have F42 := hide hF42.1
  obtain ⟨b42, k42, rfl⟩ := sliceFacts hF42.1
  clear hF42
  clear hS42
  replace F39 := hide (F39.out.later hU42)
  refine hK.out _ _ (hHeld.trans hU42) (fun hHeld => ?_)
  clear hK K
  refine wpAnyH_ready (rs := [43]) (by kernel_rfl) (by simp) ?_
  refine AllReadyH.cons rfl (fun K hK => ?_) AllReadyH.nil
  go_simp
  refine (rSame _ _ s42 _ F39.out F42.out).mono ?_
  rintro e u43 ⟨rfl, hU43⟩
  dsimp only
  refine hK.out _ _ (hHeld.trans hU43) (fun hHeld => ?_)
  clear hK K
  clear F39 F42 S39
  refine take_at (i := 44) (d := some 56) (v := ?_) rfl rfl (by kernel_rfl) (by kernel_rfl) (by kernel_rfl) (fun _ _ _ h => h) (Or.inl ⟨by rfl, ?_⟩) hHeld ?_
  rotate_left
  · intro w hSw; (try dsimp only at hSw);  go_simp; try with_reducible rfl
  simp only [Act.put, List.setIfInBounds_toArray, List.set_cons_zero, List.set_cons_succ]
  refine take_at (i := 45) (d := some 57) (v := ?_) rfl rfl (by kernel_rfl) (by kernel_rfl) (by kernel_rfl) (fun _ _ _ h => h) (Or.inl ⟨by rfl, ?_⟩) hHeld ?_
  rotate_left
  · intro w hSw; (try dsimp only at hSw);  go_simp; try with_reducible rfl
  simp only [Act.put, List.setIfInBounds_toArray, List.set_cons_zero, List.set_cons_succ]
  refine wpAnyH_done (by kernel_rfl) ?_ _
  obtain ⟨q0, q1, q2, q3⟩ := hbox _ hHeld
  have hsw := three_cmpF.swap f g
  have el : lessF f g = decide (cmpF f g < 0) := rfl
  have el2 : lessF g f = decide (0 < cmpF f g) := by unfold lessF; rw [Bool.eq_iff_iff]; simp; omega
  have EL := hide el
  have EL2 := hide el2
  clear hsw el el2
  go_wp2_with fail
  refine (compareF _ _ f g _ (HF.out.later hHeld) (HG.out.later hHeld)).mono ?_
  rintro e x1 ⟨rfl, hX1⟩
  clear q0 q1 q2 q3
  have hH1 := hHeld.trans hX1
  obtain ⟨q0, q1, q2, q3⟩ := hbox _ hH1
  go_wp2_with fail
  refine (rLess _ _ f g _ (HF.out.later hH1) (HG.out.later hH1)).mono ?_
  rintro e x2 ⟨rfl, hX2⟩
  rw [EL.out]
  clear q0 q1 q2 q3
  have hH2 := hH1.trans hX2
  obtain ⟨q0, q1, q2, q3⟩ := hbox _ hH2
  go_wp2_with fail
  refine (rLess _ _ g f _ (HG.out.later hH2) (HF.out.later hH2)).mono ?_
  rintro e x3 ⟨rfl, hX3⟩
  rw [EL2.out]
  clear q0 q1 q2 q3 EL EL2
  have hH3 := hH2.trans hX3
  go_wp2_with fail
  refine (rOf _ la _ (HA.out.later hH3) hla).mono ?_
  rintro e x4 ⟨v4, sx, rfl, hF4, hS4, hX4⟩
  have FX := hide hF4.1
  obtain ⟨ax, kx, rfl⟩ := sliceFacts hF4.1
  have SX := hide hS4
  clear hF4 hS4
  have hH4 := hH3.trans hX4
  go_wp2_with fail
  refine (rOf _ lb _ (HB.out.later hH4) hlb).mono ?_
  rintro e x5 ⟨v5, sy, rfl, hF5, hS5, hX5⟩
  have FY := hide hF5.1
  obtain ⟨ay, ky, rfl⟩ := sliceFacts hF5.1
  have SY := hide hS5
  replace FX := hide (FX.out.later hX5)
  have hxl := SX.out.2.2
  clear hF5 hS5
  have hH5 := hH4.trans hX5
  clear hHeld hX1 hX2 hX3 hX4 hX5 hH1 hH2 hH3 hH4
  go_wp2
  refine wp_region_held_drew (S := fun w' => Later ((w.alloc (.cells #[.string f.1, .slice a3 f.2.length c3] 25)).alloc (.cells #[.string g.1, .slice a4 g.2.length c4] 25)) w' ∧ Later x5 w') (by kernel_rfl) ⟨hH5.drew, (Later.refl _).drew⟩ (fun hHeld => ?_)
  refine take_at (i := 0) (d := some 79) (v := ?_) rfl rfl (by kernel_rfl) (by kernel_rfl) (by kernel_rfl) (fun _ _ _ h => h) (Or.inl ⟨by rfl, ?_⟩) hHeld ?_
  rotate_left
  · intro w hSw; (try dsimp only at hSw);  go_simp; try with_reducible rfl
  simp only [Act.put, List.setIfInBounds_toArray, List.set_cons_zero, List.set_cons_succ]
  refine take_at (i := 3) (d := some 82) (v := ?_) rfl rfl (by kernel_rfl) (by kernel_rfl) (by kernel_rfl) (fun _ _ _ h => h) (Or.inl ⟨by rfl, ?_⟩) hHeld ?_
  rotate_left
  · intro w hSw; (try dsimp only at hSw);  go_simp; try with_reducible rfl
  simp only [Act.put, List.setIfInBounds_toArray, List.set_cons_zero, List.set_cons_succ]
  refine take_at (i := 1) (d := some 80) (v := ?_) rfl rfl (by kernel_rfl) (by kernel_rfl) (by kernel_rfl) (fun _ _ _ h => h) (Or.inl ⟨by rfl, ?_⟩) hHeld ?_
  rotate_left
  · intro w hSw; (try dsimp only at hSw); obtain ⟨q0, q1, q2, q3⟩ := hbox w hSw.1; go_simp; try with_reducible rfl
  simp only [Act.put, List.setIfInBounds_toArray, List.set_cons_zero, List.set_cons_succ]
  refine take_at (i := 4) (d := some 83) (v := ?_) rfl rfl (by kernel_rfl) (by kernel_rfl) (by kernel_rfl) (fun _ _ _ h => h) (Or.inl ⟨by rfl, ?_⟩) hHeld ?_
  rotate_left
  · intro w hSw; (try dsimp only at hSw); obtain ⟨q0, q1, q2, q3⟩ := hbox w hSw.1; go_simp; try with_reducible rfl
  simp only [Act.put, List.setIfInBounds_toArray, List.set_cons_zero, List.set_cons_succ]
  refine wpAnyH_ready (rs := [2]) (by kernel_rfl) (by simp) ?_
  refine AllReadyH.cons rfl (fun K hK => ?_) AllReadyH.nil
  go_simp
  refine (inC _ _ sx f _ (FX.out.later hHeld.2) (HF.out.later hHeld.1) SX.out.1).mono ?_
  rintro e y2 ⟨rfl, hU2⟩
  dsimp only
  refine hK.out _ _ ⟨hHeld.1.trans hU2, hHeld.2.trans hU2⟩ (fun hHeld => ?_)
  clear hK K
  refine wpAnyH_ready (rs := [5]) (by kernel_rfl) (by simp) ?_
  refine AllReadyH.cons rfl (fun K hK => ?_) AllReadyH.nil
  go_simp
  refine (rIn _ _ sx f _ (FX.out.later hHeld.2) (HF.out.later hHeld.1)).mono ?_
  rintro e y5 ⟨rfl, hU5⟩
  dsimp only
  refine hK.out _ _ ⟨hHeld.1.trans hU5, hHeld.2.trans hU5⟩ (fun hHeld => ?_)
  clear hK K
  refine take_at (i := 6) (d := some 85) (v := ?_) rfl rfl (by kernel_rfl) (by kernel_rfl) (by kernel_rfl) (fun _ _ _ h => h) (Or.inl ⟨by rfl, ?_⟩) hHeld ?_
  rotate_left
  · intro w hSw; (try dsimp only at hSw);  go_simp; try with_reducible rfl
  simp only [Act.put, List.setIfInBounds_toArray, List.set_cons_zero, List.set_cons_succ]
  refine take_at (i := 7) (d := some 86) (v := ?_) rfl rfl (by kernel_rfl) (by kernel_rfl) (by kernel_rfl) (fun _ _ _ h => h) (Or.inl ⟨by rfl, ?_⟩) hHeld ?_
  rotate_left
  · intro w hSw; (try dsimp only at hSw);  go_simp; try with_reducible rfl
  simp only [Act.put, List.setIfInBounds_toArray, List.set_cons_zero, List.set_cons_succ]
  refine take_at (i := 8) (d := some 87) (v := ?_) rfl rfl (by kernel_rfl) (by kernel_rfl) (by kernel_rfl) (fun _ _ _ h => h) (Or.inl ⟨by rfl, ?_⟩) hHeld ?_
  rotate_left
  · intro w hSw; (try dsimp only at hSw);  go_simp; try with_reducible rfl
  simp only [Act.put, List.setIfInBounds_toArray, List.set_cons_zero, List.set_cons_succ]
  refine take_at (i := 9) (d := some 88) (v := ?_) rfl rfl (by kernel_rfl) (by kernel_rfl) (by kernel_rfl) (fun _ _ _ h => h) (Or.inl ⟨by rfl, ?_⟩) hHeld ?_
  rotate_left
  · intro w hSw; (try dsimp only at hSw);  go_simp; try with_reducible rfl
  simp only [Act.put, List.setIfInBounds_toArray, List.set_cons_zero, List.set_cons_succ]
  refine take_at (i := 11) (d := some 90) (v := ?_) rfl rfl (by kernel_rfl) (by kernel_rfl) (by kernel_rfl) (fun _ _ _ h => h) (Or.inl ⟨by rfl, ?_⟩) hHeld ?_
  rotate_left
  · intro w hSw; (try dsimp only at hSw);  go_simp; try with_reducible rfl
  simp only [Act.put, List.setIfInBounds_toArray, List.set_cons_zero, List.set_cons_succ]
  refine take_at (i := 12) (d := some 91) (v := ?_) rfl rfl (by kernel_rfl) (by kernel_rfl) (by kernel_rfl) (fun _ _ _ h => h) (Or.inl ⟨by rfl, ?_⟩) hHeld ?_
  rotate_left
  · intro w hSw; (try dsimp only at hSw);  go_simp; try with_reducible rfl
  simp only [Act.put, List.setIfInBounds_toArray, List.set_cons_zero, List.set_cons_succ]
  refine wpAnyH_ready (rs := [10]) (by kernel_rfl) (by simp) ?_
  refine AllReadyH.cons rfl (fun K hK => ?_) AllReadyH.nil
  go_simp
  refine (lessC _ _ sx sy _ (FX.out.later hHeld.2) (FY.out.later hHeld.2) SY.out.1).mono ?_
  rintro e y10 ⟨v10, rfl, hO10, hU10⟩
  dsimp only
  have hfl : (sx.filter fun f => !inFrom sy f 0).length ≤ sx.length := List.length_filter_le _ _
  have F10 := hide (hO10.facts (by omega))
  obtain ⟨b10, k10, rfl⟩ := ownsSlice hO10.choose_spec.1
  clear hO10
  refine hK.out _ _ ⟨hHeld.1.trans hU10, hHeld.2.trans hU10⟩ (fun hHeld => ?_)
  clear hK K
  refine wpAnyH_ready (rs := [13]) (by kernel_rfl) (by simp) ?_
  refine AllReadyH.cons rfl (fun K hK => ?_) AllReadyH.nil
  go_simp
  refine (rMinus _ _ sx sy _ (FX.out.later hHeld.2) (FY.out.later hHeld.2)).mono ?_
  rintro e y13 ⟨v13, rfl, hF13, hU13⟩
  dsimp only
  have F13 := hide hF13
  obtain ⟨b13, k13, rfl⟩ := sliceFacts hF13
  clear hF13
  replace F10 := hide (F10.out.later hU13)
  refine hK.out _ _ ⟨hHeld.1.trans hU13, hHeld.2.trans hU13⟩ (fun hHeld => ?_)
  clear hK K
  refine wpAnyH_ready (rs := [14]) (by kernel_rfl) (by simp) ?_
  refine AllReadyH.cons rfl (fun K hK => ?_) AllReadyH.nil
  go_simp
  refine (rSame _ _ _ _ F10.out F13.out).mono ?_
  rintro e y14 ⟨rfl, hU14⟩
  dsimp only
  refine hK.out _ _ ⟨hHeld.1.trans hU14, hHeld.2.trans hU14⟩ (fun hHeld => ?_)
  clear hK K
  refine take_at (i := 15) (d := some 94) (v := ?_) rfl rfl (by kernel_rfl) (by kernel_rfl) (by kernel_rfl) (fun _ _ _ h => h) (Or.inl ⟨by rfl, ?_⟩) hHeld ?_
  rotate_left
  · intro w hSw; (try dsimp only at hSw);  go_simp; try with_reducible rfl
  simp only [Act.put, List.setIfInBounds_toArray, List.set_cons_zero, List.set_cons_succ]
  refine take_at (i := 16) (d := some 8) (v := ?_) rfl rfl (by kernel_rfl) (by kernel_rfl) (by kernel_rfl) (fun _ _ _ h => h) (Or.inl ⟨by rfl, ?_⟩) hHeld ?_
  rotate_left
  · intro w hSw; (try dsimp only at hSw);  go_simp; try with_reducible rfl
  simp only [Act.put, List.setIfInBounds_toArray, List.set_cons_zero, List.set_cons_succ]
  refine wpAnyH_done (by kernel_rfl) ?_ _
  go_wp2
  go_ret
  exact ⟨rfl, hLB.trans hHeld.1⟩

end Go.Proofs.Ytflldbpjhcgkbaa
