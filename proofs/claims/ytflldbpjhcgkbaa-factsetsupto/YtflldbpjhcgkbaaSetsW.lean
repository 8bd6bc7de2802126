/- The walk of law.FactSets. -/
import Derived.Test.YtflldbpjhcgkbaaAlive
import Derived.Test.YtflldbpjhcgkbaaRefSame
import Derived.Test.YtflldbpjhcgkbaaHeld
namespace Go.Proofs.Ytflldbpjhcgkbaa
open Go.RowKit Go.Sort

theorem Rises.filter {s : List FactD} (h : Rises s) (p : FactD → Bool) : Rises (s.filter p) := List.Pairwise.filter p h

theorem in_join {sx sy z : List FactD} (hz : SetOf z (sx ++ sy)) (f : FactD) : inFrom z f 0 = (inFrom sx f 0 || inFrom sy f 0) := by
  rw [Bool.eq_iff_iff, Bool.or_eq_true, inFrom_iff, inFrom_iff, inFrom_iff, hz.2.1 f, List.mem_append]

theorem in_less (sx sy : List FactD) (f : FactD) : inFrom (sx.filter fun f => !inFrom sy f 0) f 0 = (inFrom sx f 0 && !inFrom sy f 0) := by
  rw [Bool.eq_iff_iff, Bool.and_eq_true, inFrom_iff, inFrom_iff, List.mem_filter]

/-- What a region's loads read stays, whatever is laid behind it. -/
theorem keepBox {b : Nat} {w0 w w' : World} {n s : Value} (h : w.cell? ⟨b, 0, none⟩ = some n ∧ w.cell? ⟨b, 1, none⟩ = some s ∧ Later w0 w) (hL : Later w w') : w'.cell? ⟨b, 0, none⟩ = some n ∧ w'.cell? ⟨b, 1, none⟩ = some s ∧ Later w0 w' :=
  ⟨by rw [hL.cell (World.block_lt_of_cell? w _ h.1)]; exact h.1, by rw [hL.cell (World.block_lt_of_cell? w _ h.2.1)]; exact h.2.1, h.2.2.trans hL⟩

theorem filter_le (s : List FactD) (p : FactD → Bool) : (s.filter p).length ≤ s.length := List.length_filter_le p s

/-- What is taken away, and joined again, is all. -/
theorem less_join {sx sy s z : List FactD} (hz : SetOf z (sx ++ sy)) (hs : SetOf s ((sx.filter fun f => !inFrom sy f 0) ++ sy)) : s = z :=
  hs.same hz fun f => by
    rw [List.mem_append, List.mem_append, List.mem_filter]
    constructor
    · rintro (h | h)
      · exact Or.inl h.1
      · exact Or.inr h
    · rintro (h | h)
      · by_cases k : f ∈ sy
        · exact Or.inr k
        · refine Or.inl ⟨h, ?_⟩
          cases e : inFrom sy f 0
          · rfl
          · exact absurd (inFrom_iff.1 e) k
      · exact Or.inr h

set_option maxRecDepth 100000 in
set_option maxHeartbeats 1000000 in
theorem setsW (va vb vf : Value) (la lb : List FactD) (f : FactD) (w : World) (ha : Facts w va la) (hb : Facts w vb lb) (hf : FactV w vf f) (hla : la.length ≤ 1048576) (hlb : lb.length ≤ 1048576) :
    Calls Try.prog 4 #[va, vb, vf] w fun e w' => e = .returned (.bool true) ∧ Later w w' := by
  have mx := mixed
  have HA := hide ha
  have HB := hide hb
  have HF := hide hf
  obtain ⟨a1, c1, rfl⟩ := sliceFacts ha
  obtain ⟨a2, c2, rfl⟩ := sliceFacts hb
  obtain ⟨s3, rfl, l3, a3, c3, rfl, _⟩ := hf
  clear ha hb
  go_enter Try.func4, Try.ntmps4
  go_wp2_with fail
  refine (alive _).mono ?_
  rintro e w1 ⟨rfl, hL1⟩
  have hL01 : Later w w1 := ((Later.refl w).alloc _).trans hL1
  have zb : w.heap.size < w1.heap.size := by have := hL1.size; simp at this; omega
  have z0 : w1.cell? ⟨w.heap.size, 0, none⟩ = some (.string f.1) := by rw [hL1.cell (by simp)]; simp
  have z1 : w1.cell? ⟨w.heap.size, 1, none⟩ = some (.slice a3 f.2.length c3) := by rw [hL1.cell (by simp)]; simp
  have HF1 := hide (HF.out.later hL01)
  go_wp2_with fail
  refine (ofC _ _ _ (HA.out.later hL01)).mono ?_
  rintro e w2 ⟨vx, sx, rfl, hsx, hox, hL2⟩
  have FX := hide (hox.facts (by have := hsx.2.2; omega))
  obtain ⟨ax, cx, rfl⟩ := ownsSlice hox.choose_spec.1
  have SX := hide hsx
  clear hox hsx
  go_wp2_with fail
  refine (ofC _ _ _ (HB.out.later (hL01.trans hL2))).mono ?_
  rintro e w3 ⟨vy, sy, rfl, hsy, hoy, hL3⟩
  have FY := hide (hoy.facts (by have := hsy.2.2; omega))
  obtain ⟨ay, cy, rfl⟩ := ownsSlice hoy.choose_spec.1
  have SY := hide hsy
  have hxl := SX.out.2.2
  have hyl := SY.out.2.2
  clear hoy hsy
  go_wp2_with fail
  refine (joinC _ _ _ _ _ (FX.out.later hL3) FY.out (by omega)).mono ?_
  rintro e w4 ⟨vz, sz, rfl, hsz, hoz, hL4⟩
  have FZ := hide (hoz.facts (by have := hsz.2.2; simp at this; omega))
  obtain ⟨az, cz, rfl⟩ := ownsSlice hoz.choose_spec.1
  have SZ := hide hsz
  clear hoz hsz
  go_wp2_with fail
  refine (joinC _ _ _ _ _ (FY.out.later hL4) (FX.out.later (hL3.trans hL4)) (by omega)).mono ?_
  rintro e w5 ⟨v5, s5, rfl, hs5, ho5, hL5⟩
  obtain rfl : s5 = sz := hs5.same SZ.out fun f => by rw [List.mem_append, List.mem_append, or_comm]
  have F5 := ho5.facts (by have := hs5.2.2; simp at this; omega)
  have hs := hide (rSame _ _ _ _ (FZ.out.later hL5) F5)
  obtain ⟨a5, c5, rfl⟩ := ownsSlice ho5.choose_spec.1
  clear ho5 hs5 F5
  go_wp2_with fail
  refine hs.out.mono ?_
  clear hs
  rintro e w6 ⟨rfl, hL6⟩
  have hL36 : Later w3 w6 := hL4.trans (hL5.trans hL6)
  have h0 : RowF (w6.alloc (.cells #[] 25)) w6.heap.size (.slice (some ⟨w6.heap.size, 0, none⟩) 0 0) [] :=
    ⟨[], World.ownsRow_made w6 #[] 0 (Nat.le_refl _) (by simp) (by simp), fun i hi => by simp at hi⟩
  obtain ⟨v7, w7, run7, hR7, hL7, _⟩ := h0.append ((Later.refl w6).alloc _) (FX.out.later (hL3.trans hL36)) (by simp; omega)
  obtain ⟨v8, w8, run8, hR8, hL8, _⟩ := hR7.append hL7 (FX.out.later (hL3.trans hL36)) (by simp; omega)
  have R7 := hide run7
  have R8 := hide run8
  rw [List.nil_append] at hR8
  go_wp2_with (first
    | (at_builtin; refine wpList_append_guarded (by rfl) (.tmp 26) (.tmp 27) 22 rfl _ _ _ _ rfl rfl R7.out ?_)
    | (at_builtin; refine wpList_append_guarded (by rfl) (.tmp 28) (.tmp 29) 22 rfl _ _ _ _ rfl rfl R8.out ?_))
  have F8 := hR8.facts (by simp; omega)
  clear R7 R8 hR7 hR8 h0 run7 run8
  refine (ofC _ _ _ F8).mono ?_
  clear F8
  rintro e w9 ⟨v9, s9, rfl, hs9, ho9, hL9⟩
  obtain rfl : s9 = sx := hs9.eq SX.out.1 fun f => by rw [List.mem_append, or_self]
  have F9 := ho9.facts (by omega)
  have hL39 : Later w3 w9 := hL36.trans (hL8.trans hL9)
  have hs := hide (rSame _ _ _ _ F9 (FX.out.later (hL3.trans hL39)))
  obtain ⟨a9, c9, rfl⟩ := ownsSlice ho9.choose_spec.1
  clear ho9 hs9 F9
  go_wp2_with fail
  refine hs.out.mono ?_
  clear hs
  rintro e w10 ⟨rfl, hL10⟩
  have hL310 : Later w3 w10 := hL39.trans hL10
  go_wp2_with fail
  refine (lessC _ _ _ _ _ (FX.out.later (hL3.trans hL310)) (FY.out.later hL310) SY.out.1).mono ?_
  rintro e w11 ⟨v11, rfl, ho11, hL11⟩
  have hfl := filter_le s9 fun f => !inFrom sy f 0
  have F11 := hide (ho11.facts (by omega))
  obtain ⟨a11, c11, rfl⟩ := ownsSlice ho11.choose_spec.1
  clear ho11
  go_wp2_with fail
  refine (joinC _ _ _ _ _ F11.out (FY.out.later (hL310.trans hL11)) (by omega)).mono ?_
  rintro e w12 ⟨v12, s12, rfl, hs12, ho12, hL12⟩
  obtain rfl := less_join SZ.out hs12
  have F12 := ho12.facts (by have := hs12.2.2; simp at this; omega)
  have hL312 : Later w3 w12 := hL310.trans (hL11.trans hL12)
  have hs := hide (rSame _ _ _ _ F12 (FZ.out.later (hL5.trans (hL6.trans (hL8.trans (hL9.trans (hL10.trans (hL11.trans hL12))))))))
  obtain ⟨a12, c12, rfl⟩ := ownsSlice ho12.choose_spec.1
  clear ho12 hs12 F12
  go_wp2_with fail
  refine hs.out.mono ?_
  clear hs
  rintro e w13 ⟨rfl, hL13⟩
  have hL113 : Later w1 w13 := hL2.trans (hL3.trans (hL312.trans hL13))
  have y0 : w13.cell? ⟨w.heap.size, 0, none⟩ = some (.string f.1) := by rw [hL113.cell (p := ⟨w.heap.size, 0, none⟩) zb]; exact z0
  have y1 : w13.cell? ⟨w.heap.size, 1, none⟩ = some (.slice a3 f.2.length c3) := by rw [hL113.cell (p := ⟨w.heap.size, 1, none⟩) zb]; exact z1
  have hzb : w.heap.size < w13.heap.size := Nat.lt_of_lt_of_le zb hL113.size
  have GZ := hide (FZ.out.later (hL5.trans (hL6.trans (hL8.trans (hL9.trans (hL10.trans (hL11.trans (hL12.trans hL13))))))))
  have GX := hide (FX.out.later (hL3.trans (hL312.trans hL13)))
  have GY := hide (FY.out.later (hL312.trans hL13))
  have GF := hide (HF1.out.later hL113)
  have hLw : Later w w13 := hL01.trans hL113
  clear FZ FX FY HF1 HA HB HF z0 z1 zb hL1 hL2 hL3 hL4 hL5 hL6 hL36 hL7 hL8 hL9 hL39 hL10 hL310 hL11 hL12 hL312 hL13 hL113 F11 hL01
  have ez := in_join SZ.out f
  have ed := in_less s9 sy f
  generalize hrx : inFrom s9 f 0 = rx at *
  generalize hry : inFrom sy f 0 = ry at *
  have EZ := hide ez
  have ED := hide ed
  have EX := hide hrx
  have EY := hide hry
  clear ez ed hrx hry
  go_wp2
  refine wp_region_held_drew (S := fun w' => w'.cell? ⟨w.heap.size, 0, none⟩ = some (.string f.1) ∧ w'.cell? ⟨w.heap.size, 1, none⟩ = some (.slice a3 f.2.length c3) ∧ Later w13 w') (by kernel_rfl) ⟨y0, y1, (Later.refl _).drew⟩ (fun hHeld => ?_)
  cases rx
  · cases ry
    all_goals
      refine take_at (i := 0) (d := some 46) (v := ?_) rfl rfl (by kernel_rfl) (by kernel_rfl) (by kernel_rfl) (fun _ _ _ h => h) (Or.inl ⟨by rfl, ?_⟩) hHeld ?_
      rotate_left
      · intro w hSw; (try dsimp only at hSw);  go_simp; try with_reducible rfl
      simp only [Act.put, List.setIfInBounds_toArray, List.set_cons_zero, List.set_cons_succ]
      refine take_at (i := 1) (d := some 47) (v := ?_) rfl rfl (by kernel_rfl) (by kernel_rfl) (by kernel_rfl) (fun _ _ _ h => h) (Or.inl ⟨by rfl, ?_⟩) hHeld ?_
      rotate_left
      · intro w hSw; (try dsimp only at hSw);  go_simp; try with_reducible rfl
      simp only [Act.put, List.setIfInBounds_toArray, List.set_cons_zero, List.set_cons_succ]
      refine take_at (i := 3) (d := some 49) (v := ?_) rfl rfl (by kernel_rfl) (by kernel_rfl) (by kernel_rfl) (fun _ _ _ h => h) (Or.inl ⟨by rfl, ?_⟩) hHeld ?_
      rotate_left
      · intro w hSw; (try dsimp only at hSw);  go_simp; try with_reducible rfl
      simp only [Act.put, List.setIfInBounds_toArray, List.set_cons_zero, List.set_cons_succ]
      refine take_at (i := 4) (d := some 50) (v := ?_) rfl rfl (by kernel_rfl) (by kernel_rfl) (by kernel_rfl) (fun _ _ _ h => h) (Or.inl ⟨by rfl, ?_⟩) hHeld ?_
      rotate_left
      · intro w hSw; (try dsimp only at hSw);  go_simp; try with_reducible rfl
      simp only [Act.put, List.setIfInBounds_toArray, List.set_cons_zero, List.set_cons_succ]
      refine wpAnyH_ready (rs := [2]) (by kernel_rfl) (by simp) ?_
      refine AllReadyH.cons rfl (fun K hK => ?_) AllReadyH.nil
      go_simp
      refine (inC _ _ _ _ _ (GZ.out.later hHeld.2.2) (GF.out.later hHeld.2.2) SZ.out.1).mono ?_
      rintro e u1 ⟨rfl, hU1⟩
      dsimp only
      rw [EZ.out]
      refine hK.out _ _ (keepBox hHeld hU1) (fun hHeld => ?_)
      clear hK K
      refine wpAnyH_ready (rs := [5]) (by kernel_rfl) (by simp) ?_
      refine AllReadyH.cons rfl (fun K hK => ?_) AllReadyH.nil
      go_simp
      refine (inC _ _ _ _ _ (GX.out.later hHeld.2.2) (GF.out.later hHeld.2.2) SX.out.1).mono ?_
      rintro e u2 ⟨rfl, hU2⟩
      dsimp only
      rw [EX.out]
      refine hK.out _ _ (keepBox hHeld hU2) (fun hHeld => ?_)
      clear hK K
      refine take_at (i := 6) (d := some 52) (v := ?_) rfl rfl (by kernel_rfl) (by kernel_rfl) (by kernel_rfl) (fun _ _ _ h => h) (Or.inl ⟨by rfl, ?_⟩) hHeld ?_
      rotate_left
      · intro w hSw; (try dsimp only at hSw);  go_simp; try with_reducible rfl
      simp only [Act.put, List.setIfInBounds_toArray, List.set_cons_zero, List.set_cons_succ]
      refine take_at (i := 7) (d := some 53) (v := ?_) rfl rfl (by kernel_rfl) (by kernel_rfl) (by kernel_rfl) (fun _ _ _ h => h) (Or.inl ⟨by rfl, ?_⟩) hHeld ?_
      rotate_left
      · intro w hSw; (try dsimp only at hSw);  go_simp; try with_reducible rfl
      simp only [Act.put, List.setIfInBounds_toArray, List.set_cons_zero, List.set_cons_succ]
      refine take_at (i := 8) (d := some 54) (v := ?_) rfl rfl (by kernel_rfl) (by kernel_rfl) (by kernel_rfl) (fun _ _ _ h => h) (Or.inl ⟨by rfl, ?_⟩) hHeld ?_
      rotate_left
      · intro w hSw; (try dsimp only at hSw);  go_simp; try with_reducible rfl
      simp only [Act.put, List.setIfInBounds_toArray, List.set_cons_zero, List.set_cons_succ]
      refine wpAnyH_ready (rs := [9]) (by kernel_rfl) (by simp) ?_
      refine AllReadyH.cons rfl (fun K hK => ?_) AllReadyH.nil
      go_simp
      refine (inC _ _ _ _ _ (GY.out.later hHeld.2.2) (GF.out.later hHeld.2.2) SY.out.1).mono ?_
      rintro e u3 ⟨rfl, hU3⟩
      dsimp only
      rw [EY.out]
      refine hK.out _ _ (keepBox hHeld hU3) (fun hHeld => ?_)
      clear hK K
      refine take_at (i := 10) (d := some 56) (v := ?_) rfl rfl (by kernel_rfl) (by kernel_rfl) (by kernel_rfl) (fun _ _ _ h => h) (Or.inl ⟨by rfl, ?_⟩) hHeld ?_
      rotate_left
      · intro w hSw; (try dsimp only at hSw);  go_simp; try with_reducible rfl
      simp only [Act.put, List.setIfInBounds_toArray, List.set_cons_zero, List.set_cons_succ]
      refine take_at (i := 11) (d := some 57) (v := ?_) rfl rfl (by kernel_rfl) (by kernel_rfl) (by kernel_rfl) (fun _ _ _ h => h) (Or.inl ⟨by rfl, ?_⟩) hHeld ?_
      rotate_left
      · intro w hSw; (try dsimp only at hSw);  go_simp; try with_reducible rfl
      simp only [Act.put, List.setIfInBounds_toArray, List.set_cons_zero, List.set_cons_succ]
      refine take_at (i := 12) (d := some 58) (v := ?_) rfl rfl (by kernel_rfl) (by kernel_rfl) (by kernel_rfl) (fun _ _ _ h => h) (Or.inl ⟨by rfl, ?_⟩) hHeld ?_
      rotate_left
      · intro w hSw; (try dsimp only at hSw);  go_simp; try with_reducible rfl
      simp only [Act.put, List.setIfInBounds_toArray, List.set_cons_zero, List.set_cons_succ]
      refine take_at (i := 13) (d := some 59) (v := ?_) rfl rfl (by kernel_rfl) (by kernel_rfl) (by kernel_rfl) (fun _ _ _ h => h) (Or.inl ⟨by rfl, ?_⟩) hHeld ?_
      rotate_left
      · intro w hSw; (try dsimp only at hSw);  go_simp; try with_reducible rfl
      simp only [Act.put, List.setIfInBounds_toArray, List.set_cons_zero, List.set_cons_succ]
      refine take_at (i := 14) (d := some 60) (v := ?_) rfl rfl (by kernel_rfl) (by kernel_rfl) (by kernel_rfl) (fun _ _ _ h => h) (Or.inl ⟨by rfl, ?_⟩) hHeld ?_
      rotate_left
      · intro w hSw; (try dsimp only at hSw);  go_simp; try with_reducible rfl
      simp only [Act.put, List.setIfInBounds_toArray, List.set_cons_zero, List.set_cons_succ]
      refine take_at (i := 16) (d := some 62) (v := ?_) rfl rfl (by kernel_rfl) (by kernel_rfl) (by kernel_rfl) (fun _ _ _ h => h) (Or.inl ⟨by rfl, ?_⟩) hHeld ?_
      rotate_left
      · intro w hSw; (try dsimp only at hSw);  go_simp; try with_reducible rfl
      simp only [Act.put, List.setIfInBounds_toArray, List.set_cons_zero, List.set_cons_succ]
      refine take_at (i := 18) (d := some 64) (v := ?_) rfl rfl (by kernel_rfl) (by kernel_rfl) (by kernel_rfl) (fun _ _ _ h => h) (Or.inl ⟨by rfl, ?_⟩) hHeld ?_
      rotate_left
      · intro w hSw; (try dsimp only at hSw);  go_simp; try with_reducible rfl
      simp only [Act.put, List.setIfInBounds_toArray, List.set_cons_zero, List.set_cons_succ]
      refine take_at (i := 19) (d := some 65) (v := ?_) rfl rfl (by kernel_rfl) (by kernel_rfl) (by kernel_rfl) (fun _ _ _ h => h) (Or.inl ⟨by rfl, ?_⟩) hHeld ?_
      rotate_left
      · intro w hSw; (try dsimp only at hSw);  go_simp; try with_reducible rfl
      simp only [Act.put, List.setIfInBounds_toArray, List.set_cons_zero, List.set_cons_succ]
      refine wpAnyH_ready (rs := [15]) (by kernel_rfl) (by simp) ?_
      refine AllReadyH.cons rfl (fun K hK => ?_) AllReadyH.nil
      go_simp
      refine (lessC _ _ _ _ _ (GX.out.later hHeld.2.2) (GY.out.later hHeld.2.2) SY.out.1).mono ?_
      rintro e u5 ⟨v5, rfl, hO5, hU5⟩
      dsimp only
      have F5 := hide (hO5.facts (by omega))
      obtain ⟨a15, c15, rfl⟩ := ownsSlice hO5.choose_spec.1
      clear hO5
      refine hK.out _ _ (keepBox hHeld hU5) (fun hHeld => ?_)
      clear hK K
      refine wpAnyH_ready (rs := [17]) (by kernel_rfl) (by simp) ?_
      refine AllReadyH.cons rfl (fun K hK => ?_) AllReadyH.nil
      go_simp
      refine (inC _ _ _ _ _ F5.out (GF.out.later hHeld.2.2) (SX.out.1.filter _)).mono ?_
      rintro e u6 ⟨rfl, hU6⟩
      dsimp only
      rw [ED.out]
      refine hK.out _ _ (keepBox hHeld hU6) (fun hHeld => ?_)
      clear hK K
      refine wpAnyH_ready (rs := [20]) (by kernel_rfl) (by simp) ?_
      refine AllReadyH.cons rfl (fun K hK => ?_) AllReadyH.nil
      go_simp
      refine (inC _ _ _ _ _ (GX.out.later hHeld.2.2) (GF.out.later hHeld.2.2) SX.out.1).mono ?_
      rintro e u7 ⟨rfl, hU7⟩
      dsimp only
      rw [EX.out]
      refine hK.out _ _ (keepBox hHeld hU7) (fun hHeld => ?_)
      clear hK K
      refine take_at (i := 21) (d := some 67) (v := ?_) rfl rfl (by kernel_rfl) (by kernel_rfl) (by kernel_rfl) (fun _ _ _ h => h) (Or.inl ⟨by rfl, ?_⟩) hHeld ?_
      rotate_left
      · intro w hSw; (try dsimp only at hSw);  go_simp; try with_reducible rfl
      simp only [Act.put, List.setIfInBounds_toArray, List.set_cons_zero, List.set_cons_succ]
      refine take_at (i := 22) (d := some 68) (v := undef) rfl rfl (by kernel_rfl) (by kernel_rfl) (by kernel_rfl) (fun _ _ _ h => h) (Or.inr ⟨by rfl, rfl⟩) hHeld ?_
      simp only [Act.put, List.setIfInBounds_toArray, List.set_cons_zero, List.set_cons_succ]
      refine take_at (i := 23) (d := some 69) (v := undef) rfl rfl (by kernel_rfl) (by kernel_rfl) (by kernel_rfl) (fun _ _ _ h => h) (Or.inr ⟨by rfl, rfl⟩) hHeld ?_
      simp only [Act.put, List.setIfInBounds_toArray, List.set_cons_zero, List.set_cons_succ]
      refine take_at (i := 24) (d := some 70) (v := undef) rfl rfl (by kernel_rfl) (by kernel_rfl) (by kernel_rfl) (fun _ _ _ h => h) (Or.inr ⟨by rfl, rfl⟩) hHeld ?_
      simp only [Act.put, List.setIfInBounds_toArray, List.set_cons_zero, List.set_cons_succ]
      refine take_at (i := 25) (d := some 71) (v := undef) rfl rfl (by kernel_rfl) (by kernel_rfl) (by kernel_rfl) (fun _ _ _ h => h) (Or.inr ⟨by rfl, rfl⟩) hHeld ?_
      simp only [Act.put, List.setIfInBounds_toArray, List.set_cons_zero, List.set_cons_succ]
      refine take_at (i := 26) (d := some 72) (v := ?_) rfl rfl (by kernel_rfl) (by kernel_rfl) (by kernel_rfl) (fun _ _ _ h => h) (Or.inl ⟨by rfl, ?_⟩) hHeld ?_
      rotate_left
      · intro w hSw; (try dsimp only at hSw);  go_simp; try with_reducible rfl
      simp only [Act.put, List.setIfInBounds_toArray, List.set_cons_zero, List.set_cons_succ]
      refine take_at (i := 27) (d := some 73) (v := ?_) rfl rfl (by kernel_rfl) (by kernel_rfl) (by kernel_rfl) (fun _ _ _ h => h) (Or.inl ⟨by rfl, ?_⟩) hHeld ?_
      rotate_left
      · intro w hSw; (try dsimp only at hSw);  go_simp; try with_reducible rfl
      simp only [Act.put, List.setIfInBounds_toArray, List.set_cons_zero, List.set_cons_succ]
      refine take_at (i := 28) (d := some 74) (v := ?_) rfl rfl (by kernel_rfl) (by kernel_rfl) (by kernel_rfl) (fun _ _ _ h => h) (Or.inl ⟨by rfl, ?_⟩) hHeld ?_
      rotate_left
      · intro w hSw; (try dsimp only at hSw);  go_simp; try with_reducible rfl
      simp only [Act.put, List.setIfInBounds_toArray, List.set_cons_zero, List.set_cons_succ]
      refine take_at (i := 29) (d := some 6) (v := ?_) rfl rfl (by kernel_rfl) (by kernel_rfl) (by kernel_rfl) (fun _ _ _ h => h) (Or.inl ⟨by rfl, ?_⟩) hHeld ?_
      rotate_left
      · intro w hSw; (try dsimp only at hSw);  go_simp; try with_reducible rfl
      simp only [Act.put, List.setIfInBounds_toArray, List.set_cons_zero, List.set_cons_succ]
      refine wpAnyH_done (by kernel_rfl) ?_ _
      go_wp2
      go_ret
      exact ⟨rfl, hLw.trans hHeld.2.2⟩
  · cases ry
    all_goals
      refine take_at (i := 0) (d := some 46) (v := ?_) rfl rfl (by kernel_rfl) (by kernel_rfl) (by kernel_rfl) (fun _ _ _ h => h) (Or.inl ⟨by rfl, ?_⟩) hHeld ?_
      rotate_left
      · intro w hSw; (try dsimp only at hSw);  go_simp; try with_reducible rfl
      simp only [Act.put, List.setIfInBounds_toArray, List.set_cons_zero, List.set_cons_succ]
      refine take_at (i := 1) (d := some 47) (v := ?_) rfl rfl (by kernel_rfl) (by kernel_rfl) (by kernel_rfl) (fun _ _ _ h => h) (Or.inl ⟨by rfl, ?_⟩) hHeld ?_
      rotate_left
      · intro w hSw; (try dsimp only at hSw);  go_simp; try with_reducible rfl
      simp only [Act.put, List.setIfInBounds_toArray, List.set_cons_zero, List.set_cons_succ]
      refine take_at (i := 3) (d := some 49) (v := ?_) rfl rfl (by kernel_rfl) (by kernel_rfl) (by kernel_rfl) (fun _ _ _ h => h) (Or.inl ⟨by rfl, ?_⟩) hHeld ?_
      rotate_left
      · intro w hSw; (try dsimp only at hSw);  go_simp; try with_reducible rfl
      simp only [Act.put, List.setIfInBounds_toArray, List.set_cons_zero, List.set_cons_succ]
      refine take_at (i := 4) (d := some 50) (v := ?_) rfl rfl (by kernel_rfl) (by kernel_rfl) (by kernel_rfl) (fun _ _ _ h => h) (Or.inl ⟨by rfl, ?_⟩) hHeld ?_
      rotate_left
      · intro w hSw; (try dsimp only at hSw);  go_simp; try with_reducible rfl
      simp only [Act.put, List.setIfInBounds_toArray, List.set_cons_zero, List.set_cons_succ]
      refine wpAnyH_ready (rs := [2]) (by kernel_rfl) (by simp) ?_
      refine AllReadyH.cons rfl (fun K hK => ?_) AllReadyH.nil
      go_simp
      refine (inC _ _ _ _ _ (GZ.out.later hHeld.2.2) (GF.out.later hHeld.2.2) SZ.out.1).mono ?_
      rintro e u1 ⟨rfl, hU1⟩
      dsimp only
      rw [EZ.out]
      refine hK.out _ _ (keepBox hHeld hU1) (fun hHeld => ?_)
      clear hK K
      refine wpAnyH_ready (rs := [5]) (by kernel_rfl) (by simp) ?_
      refine AllReadyH.cons rfl (fun K hK => ?_) AllReadyH.nil
      go_simp
      refine (inC _ _ _ _ _ (GX.out.later hHeld.2.2) (GF.out.later hHeld.2.2) SX.out.1).mono ?_
      rintro e u2 ⟨rfl, hU2⟩
      dsimp only
      rw [EX.out]
      refine hK.out _ _ (keepBox hHeld hU2) (fun hHeld => ?_)
      clear hK K
      refine take_at (i := 6) (d := some 52) (v := ?_) rfl rfl (by kernel_rfl) (by kernel_rfl) (by kernel_rfl) (fun _ _ _ h => h) (Or.inl ⟨by rfl, ?_⟩) hHeld ?_
      rotate_left
      · intro w hSw; (try dsimp only at hSw);  go_simp; try with_reducible rfl
      simp only [Act.put, List.setIfInBounds_toArray, List.set_cons_zero, List.set_cons_succ]
      refine take_at (i := 7) (d := some 53) (v := undef) rfl rfl (by kernel_rfl) (by kernel_rfl) (by kernel_rfl) (fun _ _ _ h => h) (Or.inr ⟨by rfl, rfl⟩) hHeld ?_
      simp only [Act.put, List.setIfInBounds_toArray, List.set_cons_zero, List.set_cons_succ]
      refine take_at (i := 8) (d := some 54) (v := undef) rfl rfl (by kernel_rfl) (by kernel_rfl) (by kernel_rfl) (fun _ _ _ h => h) (Or.inr ⟨by rfl, rfl⟩) hHeld ?_
      simp only [Act.put, List.setIfInBounds_toArray, List.set_cons_zero, List.set_cons_succ]
      refine take_at (i := 9) (d := some 55) (v := undef) rfl rfl (by kernel_rfl) (by kernel_rfl) (by kernel_rfl) (fun _ _ _ h => h) (Or.inr ⟨by rfl, rfl⟩) hHeld ?_
      simp only [Act.put, List.setIfInBounds_toArray, List.set_cons_zero, List.set_cons_succ]
      refine take_at (i := 10) (d := some 56) (v := ?_) rfl rfl (by kernel_rfl) (by kernel_rfl) (by kernel_rfl) (fun _ _ _ h => h) (Or.inl ⟨by rfl, ?_⟩) hHeld ?_
      rotate_left
      · intro w hSw; (try dsimp only at hSw);  go_simp; try with_reducible rfl
      simp only [Act.put, List.setIfInBounds_toArray, List.set_cons_zero, List.set_cons_succ]
      refine take_at (i := 11) (d := some 57) (v := ?_) rfl rfl (by kernel_rfl) (by kernel_rfl) (by kernel_rfl) (fun _ _ _ h => h) (Or.inl ⟨by rfl, ?_⟩) hHeld ?_
      rotate_left
      · intro w hSw; (try dsimp only at hSw);  go_simp; try with_reducible rfl
      simp only [Act.put, List.setIfInBounds_toArray, List.set_cons_zero, List.set_cons_succ]
      refine take_at (i := 12) (d := some 58) (v := ?_) rfl rfl (by kernel_rfl) (by kernel_rfl) (by kernel_rfl) (fun _ _ _ h => h) (Or.inl ⟨by rfl, ?_⟩) hHeld ?_
      rotate_left
      · intro w hSw; (try dsimp only at hSw);  go_simp; try with_reducible rfl
      simp only [Act.put, List.setIfInBounds_toArray, List.set_cons_zero, List.set_cons_succ]
      refine take_at (i := 13) (d := some 59) (v := ?_) rfl rfl (by kernel_rfl) (by kernel_rfl) (by kernel_rfl) (fun _ _ _ h => h) (Or.inl ⟨by rfl, ?_⟩) hHeld ?_
      rotate_left
      · intro w hSw; (try dsimp only at hSw);  go_simp; try with_reducible rfl
      simp only [Act.put, List.setIfInBounds_toArray, List.set_cons_zero, List.set_cons_succ]
      refine take_at (i := 14) (d := some 60) (v := ?_) rfl rfl (by kernel_rfl) (by kernel_rfl) (by kernel_rfl) (fun _ _ _ h => h) (Or.inl ⟨by rfl, ?_⟩) hHeld ?_
      rotate_left
      · intro w hSw; (try dsimp only at hSw);  go_simp; try with_reducible rfl
      simp only [Act.put, List.setIfInBounds_toArray, List.set_cons_zero, List.set_cons_succ]
      refine take_at (i := 16) (d := some 62) (v := ?_) rfl rfl (by kernel_rfl) (by kernel_rfl) (by kernel_rfl) (fun _ _ _ h => h) (Or.inl ⟨by rfl, ?_⟩) hHeld ?_
      rotate_left
      · intro w hSw; (try dsimp only at hSw);  go_simp; try with_reducible rfl
      simp only [Act.put, List.setIfInBounds_toArray, List.set_cons_zero, List.set_cons_succ]
      refine take_at (i := 18) (d := some 64) (v := ?_) rfl rfl (by kernel_rfl) (by kernel_rfl) (by kernel_rfl) (fun _ _ _ h => h) (Or.inl ⟨by rfl, ?_⟩) hHeld ?_
      rotate_left
      · intro w hSw; (try dsimp only at hSw);  go_simp; try with_reducible rfl
      simp only [Act.put, List.setIfInBounds_toArray, List.set_cons_zero, List.set_cons_succ]
      refine take_at (i := 19) (d := some 65) (v := ?_) rfl rfl (by kernel_rfl) (by kernel_rfl) (by kernel_rfl) (fun _ _ _ h => h) (Or.inl ⟨by rfl, ?_⟩) hHeld ?_
      rotate_left
      · intro w hSw; (try dsimp only at hSw);  go_simp; try with_reducible rfl
      simp only [Act.put, List.setIfInBounds_toArray, List.set_cons_zero, List.set_cons_succ]
      refine wpAnyH_ready (rs := [15]) (by kernel_rfl) (by simp) ?_
      refine AllReadyH.cons rfl (fun K hK => ?_) AllReadyH.nil
      go_simp
      refine (lessC _ _ _ _ _ (GX.out.later hHeld.2.2) (GY.out.later hHeld.2.2) SY.out.1).mono ?_
      rintro e u5 ⟨v5, rfl, hO5, hU5⟩
      dsimp only
      have F5 := hide (hO5.facts (by omega))
      obtain ⟨a15, c15, rfl⟩ := ownsSlice hO5.choose_spec.1
      clear hO5
      refine hK.out _ _ (keepBox hHeld hU5) (fun hHeld => ?_)
      clear hK K
      refine wpAnyH_ready (rs := [17]) (by kernel_rfl) (by simp) ?_
      refine AllReadyH.cons rfl (fun K hK => ?_) AllReadyH.nil
      go_simp
      refine (inC _ _ _ _ _ F5.out (GF.out.later hHeld.2.2) (SX.out.1.filter _)).mono ?_
      rintro e u6 ⟨rfl, hU6⟩
      dsimp only
      rw [ED.out]
      refine hK.out _ _ (keepBox hHeld hU6) (fun hHeld => ?_)
      clear hK K
      refine wpAnyH_ready (rs := [20]) (by kernel_rfl) (by simp) ?_
      refine AllReadyH.cons rfl (fun K hK => ?_) AllReadyH.nil
      go_simp
      refine (inC _ _ _ _ _ (GX.out.later hHeld.2.2) (GF.out.later hHeld.2.2) SX.out.1).mono ?_
      rintro e u7 ⟨rfl, hU7⟩
      dsimp only
      rw [EX.out]
      refine hK.out _ _ (keepBox hHeld hU7) (fun hHeld => ?_)
      clear hK K
      refine take_at (i := 21) (d := some 67) (v := ?_) rfl rfl (by kernel_rfl) (by kernel_rfl) (by kernel_rfl) (fun _ _ _ h => h) (Or.inl ⟨by rfl, ?_⟩) hHeld ?_
      rotate_left
      · intro w hSw; (try dsimp only at hSw);  go_simp; try with_reducible rfl
      simp only [Act.put, List.setIfInBounds_toArray, List.set_cons_zero, List.set_cons_succ]
      refine take_at (i := 22) (d := some 68) (v := ?_) rfl rfl (by kernel_rfl) (by kernel_rfl) (by kernel_rfl) (fun _ _ _ h => h) (Or.inl ⟨by rfl, ?_⟩) hHeld ?_
      rotate_left
      · intro w hSw; (try dsimp only at hSw);  go_simp; try with_reducible rfl
      simp only [Act.put, List.setIfInBounds_toArray, List.set_cons_zero, List.set_cons_succ]
      refine take_at (i := 23) (d := some 69) (v := ?_) rfl rfl (by kernel_rfl) (by kernel_rfl) (by kernel_rfl) (fun _ _ _ h => h) (Or.inl ⟨by rfl, ?_⟩) hHeld ?_
      rotate_left
      · intro w hSw; (try dsimp only at hSw);  go_simp; try with_reducible rfl
      simp only [Act.put, List.setIfInBounds_toArray, List.set_cons_zero, List.set_cons_succ]
      refine wpAnyH_ready (rs := [24]) (by kernel_rfl) (by simp) ?_
      refine AllReadyH.cons rfl (fun K hK => ?_) AllReadyH.nil
      go_simp
      refine (inC _ _ _ _ _ (GY.out.later hHeld.2.2) (GF.out.later hHeld.2.2) SY.out.1).mono ?_
      rintro e u8 ⟨rfl, hU8⟩
      dsimp only
      rw [EY.out]
      refine hK.out _ _ (keepBox hHeld hU8) (fun hHeld => ?_)
      clear hK K
      refine take_at (i := 25) (d := some 71) (v := ?_) rfl rfl (by kernel_rfl) (by kernel_rfl) (by kernel_rfl) (fun _ _ _ h => h) (Or.inl ⟨by rfl, ?_⟩) hHeld ?_
      rotate_left
      · intro w hSw; (try dsimp only at hSw);  go_simp; try with_reducible rfl
      simp only [Act.put, List.setIfInBounds_toArray, List.set_cons_zero, List.set_cons_succ]
      refine take_at (i := 26) (d := some 72) (v := ?_) rfl rfl (by kernel_rfl) (by kernel_rfl) (by kernel_rfl) (fun _ _ _ h => h) (Or.inl ⟨by rfl, ?_⟩) hHeld ?_
      rotate_left
      · intro w hSw; (try dsimp only at hSw);  go_simp; try with_reducible rfl
      simp only [Act.put, List.setIfInBounds_toArray, List.set_cons_zero, List.set_cons_succ]
      refine take_at (i := 27) (d := some 73) (v := ?_) rfl rfl (by kernel_rfl) (by kernel_rfl) (by kernel_rfl) (fun _ _ _ h => h) (Or.inl ⟨by rfl, ?_⟩) hHeld ?_
      rotate_left
      · intro w hSw; (try dsimp only at hSw);  go_simp; try with_reducible rfl
      simp only [Act.put, List.setIfInBounds_toArray, List.set_cons_zero, List.set_cons_succ]
      refine take_at (i := 28) (d := some 74) (v := ?_) rfl rfl (by kernel_rfl) (by kernel_rfl) (by kernel_rfl) (fun _ _ _ h => h) (Or.inl ⟨by rfl, ?_⟩) hHeld ?_
      rotate_left
      · intro w hSw; (try dsimp only at hSw);  go_simp; try with_reducible rfl
      simp only [Act.put, List.setIfInBounds_toArray, List.set_cons_zero, List.set_cons_succ]
      refine take_at (i := 29) (d := some 6) (v := ?_) rfl rfl (by kernel_rfl) (by kernel_rfl) (by kernel_rfl) (fun _ _ _ h => h) (Or.inl ⟨by rfl, ?_⟩) hHeld ?_
      rotate_left
      · intro w hSw; (try dsimp only at hSw);  go_simp; try with_reducible rfl
      simp only [Act.put, List.setIfInBounds_toArray, List.set_cons_zero, List.set_cons_succ]
      refine wpAnyH_done (by kernel_rfl) ?_ _
      go_wp2
      go_ret
      exact ⟨rfl, hLw.trans hHeld.2.2⟩

end Go.Proofs.Ytflldbpjhcgkbaa
