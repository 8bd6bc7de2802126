/- The walks of cmp.Or at ints, match.compare, slices.CompareFunc at binds, match.risen's closure; slices.SortFunc at binds and at lists of them. -/
import Derived.Test.YthogickpeldhlaaGreatMtC
import Derived.Test.YthogickpeldhlaaGreatSortBLay
import Derived.Test.YthogickpeldhlaaGreatSortLLay
import Derived.Shelf.SlSortCmp.WholeK
import Derived.Shelf.SlSortCmp.Whole1
import Derived.Shelf.SlSortCmp.NoneTotal
namespace Go.Proofs.YthogickpeldhlaaGreat
open Go.RowKit Go.Sort Go.Shelf

set_option maxHeartbeats 1000000 in
theorem orC (c cp : Nat) (x y : Int) (w : World) (h0 : w.cell? ⟨c, 0, none⟩ = some (.int .i64 x)) (h1 : w.cell? ⟨c, 1, none⟩ = some (.int .i64 y)) :
    Calls Tryz.prog 67 #[.slice (some ⟨c, 0, none⟩) 2 cp] w fun e w' => e = .returned (.int .i64 (if x ≠ 0 then x else y)) ∧ w' = w := by
  by_cases hx : x = 0
  · subst hx
    by_cases hy : y = 0
    · subst hy
      go_enter Tryz.func67, Tryz.ntmps67
      go_wp2
      refine wp_loop_rounds 3 ?_
      rw [rounds_succ]
      go_wp2
      rw [rounds_succ]
      go_wp2
      rw [rounds_succ]
      go_wp2
      go_ret
      exact ⟨rfl, rfl⟩
    · have hq : (y != 0) = true := by simpa using hy
      go_enter Tryz.func67, Tryz.ntmps67
      go_wp2
      refine wp_loop_rounds 3 ?_
      rw [rounds_succ]
      go_wp2
      rw [rounds_succ]
      go_wp2
      go_ret
      exact ⟨rfl, rfl⟩
  · have hq : (x != 0) = true := by simpa using hx
    rw [if_pos hx]
    clear hx
    go_enter Tryz.func67, Tryz.ntmps67
    go_wp2
    refine wp_loop_rounds 3 ?_
    rw [rounds_succ]
    go_wp2
    go_ret
    exact ⟨rfl, rfl⟩

set_option maxRecDepth 100000 in
set_option maxHeartbeats 2000000 in
theorem compareB (a b : BindD) (w : World) : Calls Tryz.prog 45 #[.agg (encB a).toArray, .agg (encB b).toArray] w fun e w' => e = .returned (.int .i64 (cmpB a b)) ∧ Later w w' := by
  obtain ⟨a1, a2⟩ := a
  obtain ⟨b1, b2⟩ := b
  show Calls _ _ #[.agg #[.string a1, .string a2], .agg #[.string b1, .string b2]] _ fun e w' => e = .returned (.int .i64 (if cmpS a1 b1 ≠ 0 then cmpS a1 b1 else cmpS a2 b2)) ∧ _
  generalize hwb : (w.alloc (.cells #[.string a1, .string a2] 34)).alloc (.cells #[.string b1, .string b2] 34) = wb
  have HWB := hide hwb
  have hLb : Later w wb := by rw [← hwb]; exact (by repeat (first | exact Later.refl _ | assumption | refine Later.drewN ?_ _ | refine Later.drew ?_ | refine Later.alloc ?_ _ | refine Later.grow ?_ _))
  have z0 : wb.cell? ⟨w.heap.size, 0, none⟩ = some (.string a1) := by rw [← hwb]; simp
  have z1 : wb.cell? ⟨w.heap.size, 1, none⟩ = some (.string a2) := by rw [← hwb]; simp
  have z2 : wb.cell? ⟨w.heap.size + 1, 0, none⟩ = some (.string b1) := by rw [← hwb]; simp
  have z3 : wb.cell? ⟨w.heap.size + 1, 1, none⟩ = some (.string b2) := by rw [← hwb]; simp
  have hsb : wb.heap.size = w.heap.size + 2 := by rw [← hwb]; simp
  clear hwb
  obtain ⟨r, hr⟩ : ∃ r, r = if cmpS a1 b1 ≠ 0 then cmpS a1 b1 else cmpS a2 b2 := ⟨_, rfl⟩
  have HOr : Hid (∀ (c : Nat) (w : World), w.cell? ⟨c, 0, none⟩ = some (.int .i64 (cmpS a1 b1)) → w.cell? ⟨c, 1, none⟩ = some (.int .i64 (cmpS a2 b2)) → Calls Tryz.prog 67 #[.slice (some ⟨c, 0, none⟩) 2 2] w fun e w' => e = .returned (.int .i64 r) ∧ w' = w) := fun c w h0 h1 => by
    rw [hr]; exact orC c 2 _ _ w h0 h1
  rw [← hr]
  clear hr
  go_enter Tryz.func45, Tryz.ntmps45
  go_wp2
  rw [HWB.out]
  have cell : ∀ w', Later wb w' → w'.cell? ⟨w.heap.size, 0, none⟩ = some (.string a1) ∧ w'.cell? ⟨w.heap.size, 1, none⟩ = some (.string a2) ∧ w'.cell? ⟨w.heap.size + 1, 0, none⟩ = some (.string b1) ∧ w'.cell? ⟨w.heap.size + 1, 1, none⟩ = some (.string b2) := fun w' hL =>
    ⟨by rw [hL.cell (by show w.heap.size < _; omega)]; exact z0, by rw [hL.cell (by show w.heap.size < _; omega)]; exact z1, by rw [hL.cell (by show w.heap.size + 1 < _; omega)]; exact z2, by rw [hL.cell (by show w.heap.size + 1 < _; omega)]; exact z3⟩
  have CELL := hide cell
  clear cell z0 z1 z2 z3 hsb
  refine wp_region_held_drew (S := fun w' => Later wb w') (by kernel_rfl) (Later.refl _).drew (fun hHeld => ?_)
  refine take_at (i := 0) (d := some 5) (v := ?_) rfl rfl (by kernel_rfl) (by kernel_rfl) (by kernel_rfl) (fun _ _ _ h => h) (Or.inl ⟨by rfl, ?_⟩) hHeld ?_
  rotate_left
  · intro w hSw; (try dsimp only at hSw);  go_simp; try with_reducible rfl
  simp only [Act.put, List.setIfInBounds_toArray, List.set_cons_zero, List.set_cons_succ]
  refine take_at (i := 1) (d := some 6) (v := ?_) rfl rfl (by kernel_rfl) (by kernel_rfl) (by kernel_rfl) (fun _ _ _ h => h) (Or.inl ⟨by rfl, ?_⟩) hHeld ?_
  rotate_left
  · intro w hSw; (try dsimp only at hSw); obtain ⟨q0, q1, q2, q3⟩ := CELL.out w hSw; go_simp; try with_reducible rfl
  simp only [Act.put, List.setIfInBounds_toArray, List.set_cons_zero, List.set_cons_succ]
  refine take_at (i := 2) (d := some 7) (v := ?_) rfl rfl (by kernel_rfl) (by kernel_rfl) (by kernel_rfl) (fun _ _ _ h => h) (Or.inl ⟨by rfl, ?_⟩) hHeld ?_
  rotate_left
  · intro w hSw; (try dsimp only at hSw);  go_simp; try with_reducible rfl
  simp only [Act.put, List.setIfInBounds_toArray, List.set_cons_zero, List.set_cons_succ]
  refine take_at (i := 3) (d := some 8) (v := ?_) rfl rfl (by kernel_rfl) (by kernel_rfl) (by kernel_rfl) (fun _ _ _ h => h) (Or.inl ⟨by rfl, ?_⟩) hHeld ?_
  rotate_left
  · intro w hSw; (try dsimp only at hSw); obtain ⟨q0, q1, q2, q3⟩ := CELL.out w hSw; go_simp; try with_reducible rfl
  simp only [Act.put, List.setIfInBounds_toArray, List.set_cons_zero, List.set_cons_succ]
  refine take_at (i := 5) (d := some 10) (v := ?_) rfl rfl (by kernel_rfl) (by kernel_rfl) (by kernel_rfl) (fun _ _ _ h => h) (Or.inl ⟨by rfl, ?_⟩) hHeld ?_
  rotate_left
  · intro w hSw; (try dsimp only at hSw);  go_simp; try with_reducible rfl
  simp only [Act.put, List.setIfInBounds_toArray, List.set_cons_zero, List.set_cons_succ]
  refine take_at (i := 6) (d := some 11) (v := ?_) rfl rfl (by kernel_rfl) (by kernel_rfl) (by kernel_rfl) (fun _ _ _ h => h) (Or.inl ⟨by rfl, ?_⟩) hHeld ?_
  rotate_left
  · intro w hSw; (try dsimp only at hSw); obtain ⟨q0, q1, q2, q3⟩ := CELL.out w hSw; go_simp; try with_reducible rfl
  simp only [Act.put, List.setIfInBounds_toArray, List.set_cons_zero, List.set_cons_succ]
  refine take_at (i := 7) (d := some 12) (v := ?_) rfl rfl (by kernel_rfl) (by kernel_rfl) (by kernel_rfl) (fun _ _ _ h => h) (Or.inl ⟨by rfl, ?_⟩) hHeld ?_
  rotate_left
  · intro w hSw; (try dsimp only at hSw);  go_simp; try with_reducible rfl
  simp only [Act.put, List.setIfInBounds_toArray, List.set_cons_zero, List.set_cons_succ]
  refine take_at (i := 8) (d := some 13) (v := ?_) rfl rfl (by kernel_rfl) (by kernel_rfl) (by kernel_rfl) (fun _ _ _ h => h) (Or.inl ⟨by rfl, ?_⟩) hHeld ?_
  rotate_left
  · intro w hSw; (try dsimp only at hSw); obtain ⟨q0, q1, q2, q3⟩ := CELL.out w hSw; go_simp; try with_reducible rfl
  simp only [Act.put, List.setIfInBounds_toArray, List.set_cons_zero, List.set_cons_succ]
  refine wpAnyH_ready (rs := [4]) (by kernel_rfl) (by simp) ?_
  refine AllReadyH.cons rfl (fun K hK => ?_) AllReadyH.nil
  go_simp
  refine (compareS _ _ _).mono ?_
  rintro e u1 ⟨rfl, rfl⟩
  dsimp only
  refine hK.out _ _ hHeld (fun hHeld => ?_)
  clear hK K
  refine wpAnyH_ready (rs := [9]) (by kernel_rfl) (by simp) ?_
  refine AllReadyH.cons rfl (fun K hK => ?_) AllReadyH.nil
  go_simp
  refine (compareS _ _ _).mono ?_
  rintro e u2 ⟨rfl, rfl⟩
  dsimp only
  refine hK.out _ _ hHeld (fun hHeld => ?_)
  clear hK K
  refine wpAnyH_ready (rs := [10]) (by kernel_rfl) (by simp) ?_
  refine AllReadyH.cons rfl (fun K hK => ?_) AllReadyH.nil
  go_simp
  refine hK.out _ _ (hHeld.alloc _) (fun hHeld => ?_)
  clear hK K
  refine wpAnyH_ready (rs := [11]) (by kernel_rfl) (by simp) ?_
  refine AllReadyH.cons rfl (fun K hK => ?_) AllReadyH.nil
  go_simp
  refine (HOr.out _ _ (by simp) (by simp)).mono ?_
  rintro e u3 ⟨rfl, rfl⟩
  dsimp only
  refine hK.out _ _ hHeld (fun hHeld => ?_)
  clear hK K
  refine take_at (i := 12) (d := some 4) (v := ?_) rfl rfl (by kernel_rfl) (by kernel_rfl) (by kernel_rfl) (fun _ _ _ h => h) (Or.inl ⟨by rfl, ?_⟩) hHeld ?_
  rotate_left
  · intro w hSw; (try dsimp only at hSw);  go_simp; try with_reducible rfl
  simp only [Act.put, List.setIfInBounds_toArray, List.set_cons_zero, List.set_cons_succ]
  refine wpAnyH_done (by kernel_rfl) ?_ _
  go_wp2
  go_ret
  exact ⟨rfl, hLb.trans hHeld⟩

set_option maxRecDepth 100000 in
set_option maxHeartbeats 2000000 in
/-- slices.CompareFunc at binds, by match.compare. -/
theorem compareBs (u v : Value) (l m : List BindD) (w : World) (hu : bindK.sl Anyw w u l) (hv : bindK.sl Anyw w v m) :
    Calls Tryz.prog 48 #[u, v, .func (.func 45) #[] #[]] w fun e w' => e = .returned (.int .i64 (cmpBs l m)) ∧ Later w w' := by
  obtain ⟨a, cap, rfl⟩ := Kind.slice hu
  obtain ⟨a', cap', rfl⟩ := Kind.slice hv
  have hl := hu.1.1
  have hm := hv.1.1
  have HU := hide hu
  have HV := hide hv
  clear hu hv
  go_enter Tryz.func48, Tryz.ntmps48
  go_wp2
  go_loopg [13] l.length (fun g i wr => ∃ j : Nat, j + g = l.length ∧ i = .int .i64 j ∧ Hid (cmpBs l m = cmpBs (l.drop j) (m.drop j)) ∧ Hid (j ≤ m.length) ∧ Hid (Later w wr))
  case atStart => exact ⟨0, by omega, rfl, (rfl : _ = _), (Nat.zero_le _ : _ ≤ _), Later.refl _⟩
  case round =>
    obtain ⟨j, hj, rfl, HE, HJ, HL⟩ := hrel
    have hjm := HJ.out
    by_cases hlt : j < l.length
    · obtain ⟨x, hx⟩ : ∃ x, l[j]? = some x := ⟨_, List.getElem?_eq_getElem hlt⟩
      obtain ⟨b1, o1, _, rfl, hb1, rfl, hc⟩ := Kind.sl_at HU.out hx
      have d0 : wr.cell? ⟨b1, o1 + j * 2, none⟩ = some (.string x.1) := by rw [HL.out.cell hb1]; exact hc 0 _ rfl
      have d1 : wr.cell? ⟨b1, o1 + j * 2 + 1, none⟩ = some (.string x.2) := by rw [HL.out.cell hb1]; exact hc 1 _ rfl
      have hbr : b1 < wr.heap.size := Nat.lt_of_lt_of_le hb1 HL.out.size
      have hdx : l.drop j = x :: l.drop (j + 1) := by
        obtain ⟨h1, e1⟩ := List.getElem?_eq_some_iff.1 hx
        rw [List.drop_eq_getElem_cons h1, e1]
      by_cases hlm : j < m.length
      · obtain ⟨y, hy⟩ : ∃ y, m[j]? = some y := ⟨_, List.getElem?_eq_getElem hlm⟩
        obtain ⟨b2, o2, _, rfl, hb2, rfl, hc2⟩ := Kind.sl_at HV.out hy
        have hLa := HL.out.alloc (.cells #[.string x.1, .string x.2] 34)
        have d2 : (wr.alloc (.cells #[.string x.1, .string x.2] 34)).cell? ⟨b2, o2 + j * 2, none⟩ = some (.string y.1) := by rw [hLa.cell hb2]; exact hc2 0 _ rfl
        have d3 : (wr.alloc (.cells #[.string x.1, .string x.2] 34)).cell? ⟨b2, o2 + j * 2 + 1, none⟩ = some (.string y.2) := by rw [hLa.cell hb2]; exact hc2 1 _ rfl
        have hbr2 : b2 < wr.heap.size := Nat.lt_of_lt_of_le hb2 HL.out.size
        have hdy : m.drop j = y :: m.drop (j + 1) := by
          obtain ⟨h1, e1⟩ := List.getElem?_eq_some_iff.1 hy
          rw [List.drop_eq_getElem_cons h1, e1]
        have HC : Hid (Calls Tryz.prog 45 #[.agg #[.string x.1, .string x.2], .agg #[.string y.1, .string y.2]] ((wr.alloc (.cells #[.string x.1, .string x.2] 34)).alloc (.cells #[.string y.1, .string y.2] 34)) fun e w2 => e = .returned (.int .i64 (cmpB x y)) ∧ Hid (Later w w2)) :=
          (compareB x y _).mono fun e w2 ⟨he, h2⟩ => ⟨he, (hLa.alloc _).trans h2⟩
        have E : cmpBs l m = if cmpB x y ≠ 0 then cmpB x y else cmpBs (l.drop (j + 1)) (m.drop (j + 1)) := by rw [HE.out, hdx, hdy]; rfl
        have hjz : ¬ ((m.length : Int) ≤ (j : Int)) := by omega
        clear hc hc2 hx hy hdx hdy hLa
        obtain ⟨x1, x2⟩ := x
        obtain ⟨y1, y2⟩ := y
        dsimp only at *
        generalize cmpB (x1, x2) (y1, y2) = r at *
        by_cases h0 : r = 0
        · subst h0
          have HE1 : Hid (cmpBs l m = cmpBs (l.drop (j + 1)) (m.drop (j + 1))) := by show _ = _; rw [E]; rfl
          clear E HE
          go_wp2_with (go_at_call 45; refine HC.out.mono ?_; rintro e w2 ⟨rfl, hL2⟩)
          go_roundg (l.length - (j + 1))
          case measure => omega
          case rel => exact ⟨j + 1, by omega, by go_num, HE1, (by omega : j + 1 ≤ m.length), hL2⟩
        · have HE1 : Hid (cmpBs l m = r) := by show _ = _; rw [E, if_pos h0]
          have hq : (r != 0) = true := by simpa using h0
          clear E HE h0
          go_wp2_with (go_at_call 45; refine HC.out.mono ?_; rintro e w2 ⟨rfl, hL2⟩)
          go_ret
          exact ⟨by rw [HE1.out]; rfl, hL2.out⟩
      · have HE1 : Hid (cmpBs l m = 1) := by show _ = _; rw [HE.out, hdx, List.drop_eq_nil_of_le (by omega : m.length ≤ j)]; rfl
        have hjz : (m.length : Int) ≤ (j : Int) := by omega
        clear hc hx hdx HE
        obtain ⟨x1, x2⟩ := x
        dsimp only at *
        go_wp2
        go_ret
        exact ⟨by rw [HE1.out]; rfl, HL.out.alloc _⟩
    · have e : j = l.length := by omega
      by_cases hlm : l.length < m.length
      · have HE1 : Hid (cmpBs l m = -1) := by
          show _ = _
          rw [HE.out, List.drop_eq_nil_of_le (by omega), List.drop_eq_getElem_cons (by omega : j < m.length)]; rfl
        have hz : (l.length : Int) < (m.length : Int) := by omega
        clear HE
        go_wp2
        go_ret
        exact ⟨by rw [HE1.out]; rfl, HL.out⟩
      · have HE1 : Hid (cmpBs l m = 0) := by
          show _ = _
          rw [HE.out, List.drop_eq_nil_of_le (by omega), List.drop_eq_nil_of_le (by omega)]; rfl
        have hz : ¬ ((l.length : Int) < (m.length : Int)) := by omega
        clear HE
        go_wp2
        go_ret
        exact ⟨by rw [HE1.out]; rfl, HL.out⟩

theorem enters_compare : ∀ args w, (callFunc 45 args).run Tryz.prog w = .ok (.enter 45 args) w := enters_of Tryz.func45 (by kernel_rfl) rfl
theorem enters_risen1 : ∀ args w, (callFunc 47 args).run Tryz.prog w = .ok (.enter 47 args) w := enters_of Tryz.func47 (by kernel_rfl) rfl

set_option maxHeartbeats 400000 in
theorem risen1 (u v : Value) (l m : List BindD) (w : World) (hu : bindK.sl Anyw w u l) (hv : bindK.sl Anyw w v m) :
    Calls Tryz.prog 47 #[u, v] w fun e w' => e = .returned (.int .i64 (cmpBs l m)) ∧ Later w w' := by
  have HC := hide (compareBs u v l m w hu hv)
  obtain ⟨a, cap, rfl⟩ := Kind.slice hu
  obtain ⟨a', cap', rfl⟩ := Kind.slice hv
  clear hu hv
  generalize cmpBs l m = r at *
  go_enter Tryz.func47, Tryz.ntmps47
  go_wp2_with (go_at_call 48; refine HC.out.mono ?_; rintro e w2 ⟨rfl, hL2⟩; replace hL2 := hide hL2)
  go_ret
  exact ⟨rfl, unhide hL2⟩

end Go.Proofs.YthogickpeldhlaaGreat
