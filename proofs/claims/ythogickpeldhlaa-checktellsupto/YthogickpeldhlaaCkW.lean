/- The walk of the law CheckTells. -/
import Derived.Test.YthogickpeldhlaaCrI
import Derived.Test.YthogickpeldhlaaHeld
import Derived.Test.YthogickpeldhlaaNeq
import Derived.Deep.QuietTactic
import Derived.BigQuiet
namespace Go.Proofs.Ythogickpeldhlaa
open Go.RowKit Go.Sort Go.Maps

set_option maxRecDepth 100000 in
set_option maxHeartbeats 8000000 in
theorem checkTellsW (v : Value) (p : List RuleD) (w : World) (hv : ruleK.sl Anyw w v p) (hk : ∀ r ∈ p, longR r) (hka : ∀ r ∈ p, keyA r.head) :
    Calls Try.prog 9 #[v] w fun e w' => e = .returned (.bool true) ∧ Below w.heap.size w w' := by
  obtain ⟨sa, cap, rfl⟩ := Kind.slice hv
  have hl0 := hv.1.1
  have HV := hide hv
  have HK := hide hk
  have HKA := hide hka
  have HC1 := hide (wrongC p _ w hv)
  clear hv hk hka
  have hne1 := neqFault (wrongP p).1 (wrongP p).2
  go_enter Try.func9, Try.ntmps9
  go_wp2_with fail
  refine HC1.out.mono ?_
  rintro e w1 ⟨rfl, hB1⟩
  have HC2 := hide (rWrongProgram p _ w1 (Kind.sl_below HV.out hB1) HK.out)
  go_wp2_with fail
  refine HC2.out.mono ?_
  rintro e w2 ⟨rfl, hB2⟩
  have HB := hide (below_trans hB1 hB2 hB1.size)
  clear HC1 HC2 hB1 hB2
  go_wp2
  clear hne1
  go_loopg [20] p.length (fun k i wr => ∃ j : Nat, j + k = p.length ∧ i = .int .i64 j ∧ Hid (Below w.heap.size w wr))
  case atStart => exact ⟨0, by omega, rfl, HB⟩
  case round =>
    obtain ⟨j, hj, rfl, HBj⟩ := hrel
    clear HB
    by_cases hlt : j < p.length
    · obtain ⟨r, hr⟩ : ∃ x, p[j]? = some x := ⟨_, List.getElem?_eq_getElem hlt⟩
      obtain ⟨b1, o1, _, rfl, hb1, ⟨sv, su, rfl, hsv, hsu⟩, hcl⟩ := Kind.sl_at HV.out hr
      have d0 : wr.cell? ⟨b1, o1 + j * 4, none⟩ = some (.bool r.head.no) := by rw [HBj.out.cell hb1]; exact hcl 0 _ rfl
      have d1 : wr.cell? ⟨b1, o1 + j * 4 + 1, none⟩ = some (.string (bs r.head.name)) := by rw [HBj.out.cell hb1]; exact hcl 1 _ rfl
      have d2 : wr.cell? ⟨b1, o1 + j * 4 + 2, none⟩ = some sv := by rw [HBj.out.cell hb1]; exact hcl 2 _ rfl
      have d3 : wr.cell? ⟨b1, o1 + j * 4 + 3, none⟩ = some su := by rw [HBj.out.cell hb1]; exact hcl 3 _ rfl
      have hbr : b1 < wr.heap.size := by have := HBj.out.size; omega
      have hkA := HKA.out r (List.mem_of_getElem? hr)
      have hlR := HK.out r (List.mem_of_getElem? hr)
      obtain ⟨a2, c2, rfl⟩ := Kind.slice hsv
      obtain ⟨a3, c3, rfl⟩ := Kind.slice hsu
      have HSV := hide hsv
      have HSU := hide hsu
      have hW1 := HBj.out.alloc HBj.out.size (.cells #[.bool r.head.no, .string (bs r.head.name), .slice a2 r.head.terms.length c2, .slice a3 r.body.length c3] 56)
      have hbox : ∀ w', Below (wr.heap.size + 1) (wr.alloc (.cells #[.bool r.head.no, .string (bs r.head.name), .slice a2 r.head.terms.length c2, .slice a3 r.body.length c3] 56)) w' → w'.cell? ⟨wr.heap.size, 0, none⟩ = some (.bool r.head.no) ∧ w'.cell? ⟨wr.heap.size, 1, none⟩ = some (.string (bs r.head.name)) ∧ w'.cell? ⟨wr.heap.size, 2, none⟩ = some (.slice a2 r.head.terms.length c2) ∧ w'.cell? ⟨wr.heap.size, 3, none⟩ = some (.slice a3 r.body.length c3) ∧ wr.heap.size < w'.heap.size := fun w' k => by
        have hs := k.size
        simp at hs
        refine ⟨?_, ?_, ?_, ?_, by omega⟩ <;> (rw [Below.cell k (by show wr.heap.size < _; omega)]; simp)
      have hBW : ∀ w', Below (wr.heap.size + 1) (wr.alloc (.cells #[.bool r.head.no, .string (bs r.head.name), .slice a2 r.head.terms.length c2, .slice a3 r.body.length c3] 56)) w' → Below w.heap.size w w' := fun w' k => below_trans hW1 k (by have := HBj.out.size; omega)
      have HBX := hide hbox
      have HBW := hide hBW
      have H1 : Hid (∀ x, Below (wr.heap.size + 1) (wr.alloc (.cells #[.bool r.head.no, .string (bs r.head.name), .slice a2 r.head.terms.length c2, .slice a3 r.body.length c3] 56)) x → Calls Try.prog 47 #[.agg #[.bool r.head.no, .string (bs r.head.name), .slice a2 r.head.terms.length c2]] x fun e w' => ∃ u, e = .returned u ∧ strK.own 9 (x.heap.size + 2) w' u (vars r.head) ∧ Below x.heap.size x w') := fun x hx => varsC r.head _ x (Kind.sl_below HSV.out (hBW x hx)) hkA.1 hkA.2
      have H2 : Hid (∀ x, Below (wr.heap.size + 1) (wr.alloc (.cells #[.bool r.head.no, .string (bs r.head.name), .slice a2 r.head.terms.length c2, .slice a3 r.body.length c3] 56)) x → Calls Try.prog 48 #[.agg #[.bool r.head.no, .string (bs r.head.name), .slice a2 r.head.terms.length c2]] x fun e w' => ∃ u, e = .returned u ∧ strK.own 9 (x.heap.size + 2) w' u (vars r.head) ∧ Below x.heap.size x w') := fun x hx => rVars r.head _ x (Kind.sl_below HSV.out (hBW x hx)) hkA.1 hkA.2
      have H3 : Hid (∀ x, Below (wr.heap.size + 1) (wr.alloc (.cells #[.bool r.head.no, .string (bs r.head.name), .slice a2 r.head.terms.length c2, .slice a3 r.body.length c3] 56)) x → Calls Try.prog 49 #[.slice a3 r.body.length c3] x fun e w' => e = .returned (.int .i64 (wrongBody r.body)) ∧ Below x.heap.size x w') := fun x hx => chkBodyC r.body _ x (Kind.sl_below HSU.out (hBW x hx))
      have H4 : Hid (∀ x, Below (wr.heap.size + 1) (wr.alloc (.cells #[.bool r.head.no, .string (bs r.head.name), .slice a2 r.head.terms.length c2, .slice a3 r.body.length c3] 56)) x → Calls Try.prog 50 #[.slice a3 r.body.length c3] x fun e w' => e = .returned (.int .i64 (wrongBody r.body)) ∧ Below x.heap.size x w') := fun x hx => rWrongBody r.body _ x (Kind.sl_below HSU.out (hBW x hx)) hlR.2
      have hvl : (vars r.head).length ≤ 1099511627775 := Nat.le_trans (vars_le r.head) hkA.1
      have hwz := HBj.out.size
      clear hcl hr hsv hsu hkA hlR hW1 hbox hBW HSV HSU
      generalize bs r.head.name = nm at *
      generalize r.head.no = no at *
      generalize vars r.head = vs at *
      generalize wrongBody r.body = wb at *
      go_wp2
      refine wp_region_held_drew (S := fun w' => Below (wr.heap.size + 1) (wr.alloc (.cells #[.bool no, .string nm, .slice a2 r.head.terms.length c2, .slice a3 r.body.length c3] 56)) w') (by kernel_rfl) (by have := (Later.refl (wr.alloc (.cells #[.bool no, .string nm, .slice a2 r.head.terms.length c2, .slice a3 r.body.length c3] 56))).drew.below; rw [World.size_alloc] at this; exact this) (fun hHeld => ?_)
      refine take_at (i := 0) (d := some 24) (v := ?_) rfl rfl (by kernel_rfl) (by kernel_rfl) (by kernel_rfl) (fun _ _ _ h => h) (Or.inl ⟨by rfl, ?_⟩) hHeld ?_
      rotate_left
      · intro w hSw; (try dsimp only at hSw);  go_simp; try with_reducible rfl
      simp only [Act.put, List.setIfInBounds_toArray, List.set_cons_zero, List.set_cons_succ]
      refine take_at (i := 1) (d := some 25) (v := ?_) rfl rfl (by kernel_rfl) (by kernel_rfl) (by kernel_rfl) (fun _ _ _ h => h) (Or.inl ⟨by rfl, ?_⟩) hHeld ?_
      rotate_left
      · intro w hSw; (try dsimp only at hSw); obtain ⟨q0, q1, q2, q3, q4⟩ := HBX.out w hSw; go_simp; try with_reducible rfl
      simp only [Act.put, List.setIfInBounds_toArray, List.set_cons_zero, List.set_cons_succ]
      refine take_at (i := 3) (d := some 27) (v := ?_) rfl rfl (by kernel_rfl) (by kernel_rfl) (by kernel_rfl) (fun _ _ _ h => h) (Or.inl ⟨by rfl, ?_⟩) hHeld ?_
      rotate_left
      · intro w hSw; (try dsimp only at hSw);  go_simp; try with_reducible rfl
      simp only [Act.put, List.setIfInBounds_toArray, List.set_cons_zero, List.set_cons_succ]
      refine take_at (i := 4) (d := some 28) (v := ?_) rfl rfl (by kernel_rfl) (by kernel_rfl) (by kernel_rfl) (fun _ _ _ h => h) (Or.inl ⟨by rfl, ?_⟩) hHeld ?_
      rotate_left
      · intro w hSw; (try dsimp only at hSw); obtain ⟨q0, q1, q2, q3, q4⟩ := HBX.out w hSw; go_simp; try with_reducible rfl
      simp only [Act.put, List.setIfInBounds_toArray, List.set_cons_zero, List.set_cons_succ]
      refine wpAnyH_ready (rs := [2]) (by kernel_rfl) (by simp) ?_
      refine AllReadyH.cons rfl (fun K hK => ?_) AllReadyH.nil
      go_simp
      refine (H1.out _ hHeld).mono ?_
      rintro e y1 ⟨u1, rfl, hO1, hU1⟩
      dsimp only
      have hz1 := (HBX.out _ hHeld).2.2.2.2
      have F1 := hide (Kind.sl_any (Kind.own_sl hO1 (by omega)))
      obtain ⟨ua, uc, rfl⟩ := Kind.own_slice hO1
      clear hO1
      refine hK.out _ _ (below_trans hHeld hU1 (by omega)) (fun hHeld => ?_)
      clear hK K
      refine wpAnyH_ready (rs := [5]) (by kernel_rfl) (by simp) ?_
      refine AllReadyH.cons rfl (fun K hK => ?_) AllReadyH.nil
      go_simp
      refine (H2.out _ hHeld).mono ?_
      rintro e y2 ⟨u2, rfl, hO2, hU2⟩
      dsimp only
      have hz2 := (HBX.out _ hHeld).2.2.2.2
      have F2 := hide (Kind.sl_any (Kind.own_sl hO2 (by omega)))
      obtain ⟨ub, ud, rfl⟩ := Kind.own_slice hO2
      replace F1 := hide (Kind.sl_below F1.out hU2)
      clear hO2
      refine hK.out _ _ (below_trans hHeld hU2 (by omega)) (fun hHeld => ?_)
      clear hK K
      refine take_at (i := 6) (d := some 5) (v := ?_) rfl rfl (by kernel_rfl) (by kernel_rfl) (by kernel_rfl) (fun _ _ _ h => h) (Or.inl ⟨by rfl, ?_⟩) hHeld ?_
      rotate_left
      · intro w hSw; (try dsimp only at hSw);  go_simp; try with_reducible rfl
      simp only [Act.put, List.setIfInBounds_toArray, List.set_cons_zero, List.set_cons_succ]
      refine take_at (i := 7) (d := some 6) (v := ?_) rfl rfl (by kernel_rfl) (by kernel_rfl) (by kernel_rfl) (fun _ _ _ h => h) (Or.inl ⟨by rfl, ?_⟩) hHeld ?_
      rotate_left
      · intro w hSw; (try dsimp only at hSw);  go_simp; try with_reducible rfl
      simp only [Act.put, List.setIfInBounds_toArray, List.set_cons_zero, List.set_cons_succ]
      refine wpAnyH_done (by kernel_rfl) ?_ _
      clear hU1 hz1 hU2 hz2
      go_wp2
      refine wp_region_held_drew (S := fun w' => Below (wr.heap.size + 1) (wr.alloc (.cells #[.bool no, .string nm, .slice a2 r.head.terms.length c2, .slice a3 r.body.length c3] 56)) w' ∧ Below y2.heap.size y2 w') (by kernel_rfl) ⟨below_trans hHeld (Later.refl y2).drew.below (by have := (HBX.out _ hHeld).2.2.2.2; omega), (Later.refl y2).drew.below⟩ (fun hHeld => ?_)
      refine take_at (i := 0) (d := some 30) (v := ?_) rfl rfl (by kernel_rfl) (by kernel_rfl) (by kernel_rfl) (fun _ _ _ h => h) (Or.inl ⟨by rfl, ?_⟩) hHeld ?_
      rotate_left
      · intro w hSw; (try dsimp only at hSw);  go_simp; try with_reducible rfl
      simp only [Act.put, List.setIfInBounds_toArray, List.set_cons_zero, List.set_cons_succ]
      refine take_at (i := 1) (d := some 31) (v := ?_) rfl rfl (by kernel_rfl) (by kernel_rfl) (by kernel_rfl) (fun _ _ _ h => h) (Or.inl ⟨by rfl, ?_⟩) hHeld ?_
      rotate_left
      · intro w hSw; (try dsimp only at hSw);  go_simp; try with_reducible rfl
      simp only [Act.put, List.setIfInBounds_toArray, List.set_cons_zero, List.set_cons_succ]
      refine take_at (i := 2) (d := some 32) (v := ?_) rfl rfl (by kernel_rfl) (by kernel_rfl) (by kernel_rfl) (fun _ _ _ h => h) (Or.inl ⟨by rfl, ?_⟩) hHeld ?_
      rotate_left
      · intro w hSw; (try dsimp only at hSw);  go_simp; try with_reducible rfl
      simp only [Act.put, List.setIfInBounds_toArray, List.set_cons_zero, List.set_cons_succ]
      refine take_at (i := 3) (d := some 33) (v := ?_) rfl rfl (by kernel_rfl) (by kernel_rfl) (by kernel_rfl) (fun _ _ _ h => h) (Or.inl ⟨by rfl, ?_⟩) hHeld ?_
      rotate_left
      · intro w hSw; (try dsimp only at hSw);  go_simp; try with_reducible rfl
      simp only [Act.put, List.setIfInBounds_toArray, List.set_cons_zero, List.set_cons_succ]
      refine take_at (i := 4) (d := some 34) (v := ?_) rfl rfl (by kernel_rfl) (by kernel_rfl) (by kernel_rfl) (fun _ _ _ h => h) (Or.inl ⟨by rfl, ?_⟩) hHeld ?_
      rotate_left
      · intro w hSw; (try dsimp only at hSw);  go_simp; try with_reducible rfl
      simp only [Act.put, List.setIfInBounds_toArray, List.set_cons_zero, List.set_cons_succ]
      refine take_at (i := 5) (d := some 35) (v := ?_) rfl rfl (by kernel_rfl) (by kernel_rfl) (by kernel_rfl) (fun _ _ _ h => h) (Or.inl ⟨by rfl, ?_⟩) hHeld ?_
      rotate_left
      · intro w hSw; (try dsimp only at hSw);  go_simp; try with_reducible rfl
      simp only [Act.put, List.setIfInBounds_toArray, List.set_cons_zero, List.set_cons_succ]
      refine take_at (i := 6) (d := some 36) (v := ?_) rfl rfl (by kernel_rfl) (by kernel_rfl) (by kernel_rfl) (fun _ _ _ h => h) (Or.inl ⟨by rfl, ?_⟩) hHeld ?_
      rotate_left
      · intro w hSw; (try dsimp only at hSw);  go_simp; try with_reducible rfl
      simp only [Act.put, List.setIfInBounds_toArray, List.set_cons_zero, List.set_cons_succ]
      refine take_at (i := 7) (d := some 37) (v := ?_) rfl rfl (by kernel_rfl) (by kernel_rfl) (by kernel_rfl) (fun _ _ _ h => h) (Or.inl ⟨by rfl, ?_⟩) hHeld ?_
      rotate_left
      · intro w hSw; (try dsimp only at hSw); obtain ⟨q0, q1, q2, q3, q4⟩ := HBX.out w hSw.1; go_simp; try with_reducible rfl
      simp only [Act.put, List.setIfInBounds_toArray, List.set_cons_zero, List.set_cons_succ]
      refine take_at (i := 9) (d := some 39) (v := ?_) rfl rfl (by kernel_rfl) (by kernel_rfl) (by kernel_rfl) (fun _ _ _ h => h) (Or.inl ⟨by rfl, ?_⟩) hHeld ?_
      rotate_left
      · intro w hSw; (try dsimp only at hSw);  go_simp; try with_reducible rfl
      simp only [Act.put, List.setIfInBounds_toArray, List.set_cons_zero, List.set_cons_succ]
      refine take_at (i := 10) (d := some 40) (v := ?_) rfl rfl (by kernel_rfl) (by kernel_rfl) (by kernel_rfl) (fun _ _ _ h => h) (Or.inl ⟨by rfl, ?_⟩) hHeld ?_
      rotate_left
      · intro w hSw; (try dsimp only at hSw); obtain ⟨q0, q1, q2, q3, q4⟩ := HBX.out w hSw.1; go_simp; try with_reducible rfl
      simp only [Act.put, List.setIfInBounds_toArray, List.set_cons_zero, List.set_cons_succ]
      refine wpAnyH_ready (rs := [8]) (by kernel_rfl) (by simp) ?_
      refine AllReadyH.cons rfl (fun K hK => ?_) AllReadyH.nil
      go_simp
      refine (H3.out _ hHeld.1).mono ?_
      rintro e y3 ⟨rfl, hU3⟩
      dsimp only
      have hz3 := (HBX.out _ hHeld.1).2.2.2.2
      refine hK.out _ _ ⟨below_trans hHeld.1 hU3 (by omega), below_trans hHeld.2 hU3 hHeld.2.size⟩ (fun hHeld => ?_)
      clear hK K
      refine wpAnyH_ready (rs := [11]) (by kernel_rfl) (by simp) ?_
      refine AllReadyH.cons rfl (fun K hK => ?_) AllReadyH.nil
      go_simp
      refine (H4.out _ hHeld.1).mono ?_
      rintro e y4 ⟨rfl, hU4⟩
      dsimp only
      have hz4 := (HBX.out _ hHeld.1).2.2.2.2
      refine hK.out _ _ ⟨below_trans hHeld.1 hU4 (by omega), below_trans hHeld.2 hU4 hHeld.2.size⟩ (fun hHeld => ?_)
      clear hK K
      refine take_at (i := 12) (d := some 42) (v := ?_) rfl rfl (by kernel_rfl) (by kernel_rfl) (by kernel_rfl) (fun _ _ _ h => h) (Or.inl ⟨by rfl, ?_⟩) hHeld ?_
      rotate_left
      · intro w hSw; (try dsimp only at hSw);  go_simp; try with_reducible rfl
      simp only [Act.put, List.setIfInBounds_toArray, List.set_cons_zero, List.set_cons_succ]
      refine take_at (i := 13) (d := some 43) (v := ?_) rfl rfl (by kernel_rfl) (by kernel_rfl) (by kernel_rfl) (fun _ _ _ h => h) (Or.inl ⟨by rfl, ?_⟩) hHeld ?_
      rotate_left
      · intro w hSw; (try dsimp only at hSw);  go_simp; try with_reducible rfl
      simp only [Act.put, List.setIfInBounds_toArray, List.set_cons_zero, List.set_cons_succ]
      refine wpAnyH_done (by kernel_rfl) ?_ _
      have G1 := hide (Kind.sl_below F1.out hHeld.2)
      have G2 := hide (Kind.sl_below F2.out hHeld.2)
      have HB4 := hide (HBW.out _ hHeld.1)
      clear hU3 hU4 hz3 hz4 hHeld F1 F2 H1 H2 H3 H4 HBX HBW d0 d1 d2 d3
      go_wp2
      go_loopg [46] vs.length (fun k i wr => ∃ q : Nat, q + k = vs.length ∧ i = .int .i64 q ∧ Hid (Later y4 wr))
      case atStart => exact ⟨0, by omega, rfl, Later.refl _⟩
      case round =>
        obtain ⟨q, hq, rfl, HL⟩ := hrel
        by_cases hlq : q < vs.length
        · obtain ⟨x, hx⟩ : ∃ x, vs[q]? = some x := ⟨_, List.getElem?_eq_getElem hlq⟩
          obtain ⟨b5, o5, _, rfl, hb5, rfl, hc5⟩ := Kind.sl_at (Kind.sl_later G1.out HL.out) hx
          obtain ⟨b6, o6, _, rfl, hb6, rfl, hc6⟩ := Kind.sl_at (Kind.sl_later G2.out HL.out) hx
          have e1 : wr.cell? ⟨b5, o5 + q, none⟩ = some (.string (bs x)) := by simpa [strK] using hc5 0 _ rfl
          have e2 : wr.cell? ⟨b6, o6 + q, none⟩ = some (.string (bs x)) := by simpa [strK] using hc6 0 _ rfl
          have hj1 : (q : Int) < (vs.length : Int) := by omega
          clear hc5 hc6 hx
          generalize bs x = bx at *
          go_wp2
          go_quiet (fail)
          go_wp2
          go_roundg (vs.length - (q + 1))
          case measure => omega
          case rel => exact ⟨q + 1, by omega, by go_num, HL.out.drewN _⟩
        · go_wp2
          go_roundg (p.length - (j + 1))
          case measure => omega
          case rel => exact ⟨j + 1, by omega, by go_num, below_trans HB4.out HL.out.below HB4.out.size⟩
    · have HS1 : Hid (∀ x, Below w.heap.size w x → Calls Try.prog 51 #[.slice sa p.length cap] x fun e w' => ∃ u, e = .returned (.tuple #[u, .agg #[.int .i64 (strataP p).2.1, .int .i64 ((strataP p).2.2 : Nat)]]) ∧ intK.sl (From x.heap.size) w' u (strataP p).1 ∧ Below x.heap.size x w') := fun x hx => strataC p _ x (Kind.sl_below HV.out hx)
      have HS2 : Hid (∀ x, Below w.heap.size w x → Calls Try.prog 52 #[.slice sa p.length cap] x fun e w' => ∃ u, e = .returned (.tuple #[u, .agg #[.int .i64 (strataP p).2.1, .int .i64 ((strataP p).2.2 : Nat)]]) ∧ intK.sl (From x.heap.size) w' u (strataP p).1 ∧ Below x.heap.size x w') := fun x hx => rStrata p _ x (Kind.sl_below HV.out hx) HK.out
      generalize strataP p = sp at *
      obtain ⟨ls, se, sn⟩ := sp
      dsimp only at *
      have hne := neqFault se (sn : Int)
      go_wp2_with fail
      refine (HS1.out _ HBj.out).mono ?_
      rintro e w3 ⟨u3, rfl, hU3, hB3⟩
      have hw3 := HBj.out.size
      have hs3 := hB3.size
      have hll := hU3.1.1
      have F3 := hide (Kind.sl_any hU3)
      obtain ⟨xa, xc, rfl⟩ := Kind.slice hU3
      have hBa : Below w.heap.size w (w3.alloc (.cells #[.int .i64 se, .int .i64 (sn : Int)] 30)) := (below_trans HBj.out hB3 hw3).alloc (by omega) _
      clear hU3 hB3 HS1
      go_wp2_with fail
      refine (HS2.out _ hBa).mono ?_
      rintro e w4 ⟨u4, rfl, hU4, hB4⟩
      have hs4 := hB4.size
      simp only [World.size_alloc] at hs4
      have q0 : w4.cell? ⟨w3.heap.size, 0, none⟩ = some (.int .i64 se) := by rw [Below.cell hB4 (by simp)]; simp
      have q1 : w4.cell? ⟨w3.heap.size, 1, none⟩ = some (.int .i64 (sn : Int)) := by rw [Below.cell hB4 (by simp)]; simp
      have hB5 : Below w3.heap.size w3 w4 := below_trans ((Later.refl w3).alloc _).below hB4 (by simp)
      have G3 := hide (Kind.sl_below (Kind.sl_below F3.out hB5) ((Later.refl w4).alloc (.cells #[.int .i64 se, .int .i64 (sn : Int)] 30)).below)
      have G4 := hide (Kind.sl_below (Kind.sl_any hU4) ((Later.refl w4).alloc (.cells #[.int .i64 se, .int .i64 (sn : Int)] 30)).below)
      obtain ⟨ya, yc, rfl⟩ := Kind.slice hU4
      have HB6 : Hid (Below w.heap.size w (w4.alloc (.cells #[.int .i64 se, .int .i64 (sn : Int)] 30))) := (below_trans hBa hB4 (by simp; omega)).alloc (by omega) _
      have hq4 : w3.heap.size < w4.heap.size := by omega
      clear hU4 hB4 hB5 hBa F3 HS2
      go_wp2
      go_loopg [82] ls.length (fun k i wr => ∃ q : Nat, q + k = ls.length ∧ i = .int .i64 q ∧ Hid (Later (w4.alloc (.cells #[.int .i64 se, .int .i64 (sn : Int)] 30)) wr))
      case atStart => exact ⟨0, by omega, rfl, Later.refl _⟩
      case round =>
        obtain ⟨q, hq, rfl, HL⟩ := hrel
        by_cases hlq : q < ls.length
        · obtain ⟨x, hx⟩ : ∃ x, ls[q]? = some x := ⟨_, List.getElem?_eq_getElem hlq⟩
          obtain ⟨b5, o5, _, rfl, hb5, rfl, hc5⟩ := Kind.sl_at (Kind.sl_later G3.out HL.out) hx
          obtain ⟨b6, o6, _, rfl, hb6, rfl, hc6⟩ := Kind.sl_at (Kind.sl_later G4.out HL.out) hx
          have e1 : wr.cell? ⟨b5, o5 + q, none⟩ = some (.int .i64 (x : Int)) := by simpa [intK] using hc5 0 _ rfl
          have e2 : wr.cell? ⟨b6, o6 + q, none⟩ = some (.int .i64 (x : Int)) := by simpa [intK] using hc6 0 _ rfl
          have hj1 : (q : Int) < (ls.length : Int) := by omega
          clear hc5 hc6 hx hne q0 q1
          go_wp2
          go_quiet (fail)
          go_wp2
          go_roundg (ls.length - (q + 1))
          case measure => omega
          case rel => exact ⟨q + 1, by omega, by go_num, HL.out.drewN _⟩
        · clear hne q0 q1
          go_wp2
          go_ret
          exact ⟨rfl, below_trans HB6.out HL.out.below HB6.out.size⟩

end Go.Proofs.Ythogickpeldhlaa
