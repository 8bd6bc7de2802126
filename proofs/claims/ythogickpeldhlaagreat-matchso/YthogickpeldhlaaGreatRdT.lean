/- The walks of a reader's atom and bodyAtom. -/
import Derived.Test.YthogickpeldhlaaGreatRdL
namespace Go.Proofs.YthogickpeldhlaaGreat
open Go.RowKit Go.Sort

theorem Rd.alloc {w : World} {p : Nat} {s : ByteArray} {l : Bs} (h : Rd w p s l) (o : Obj) : Rd (w.alloc o) p s l := h.below ((Later.refl w).alloc o).below

/-- A block that only others have turned around. -/
theorem Tn.row {p b : Nat} {w w' : World} {arr : Array Value} {t : TypeId} (h : Tn p w w') (hr : w.heap[b]? = some (.cells arr t (0, 0))) (hb : b ≠ p) : w'.heap[b]? = some (.cells arr t (0, 0)) := by
  rw [h.block b (Array.getElem?_eq_some_iff.1 hr).1 hb]; exact hr

theorem row3 {w : World} {b : Nat} {x y z : Value} {t : TypeId} (h : w.heap[b]? = some (.cells #[x, y, z] t (0, 0))) :
    w.cell? ⟨b, 0, none⟩ = some x ∧ w.cell? ⟨b, 1, none⟩ = some y ∧ w.cell? ⟨b, 2, none⟩ = some z ∧ w.frozen? ⟨b, 0, none⟩ = false ∧ w.frozen? ⟨b, 1, none⟩ = false ∧ w.frozen? ⟨b, 2, none⟩ = false :=
  ⟨by rw [cell_of_row _ _ _ _ _ _ h]; rfl, by rw [cell_of_row _ _ _ _ _ _ h]; rfl, by rw [cell_of_row _ _ _ _ _ _ h]; rfl, frozen_row h, frozen_row h, frozen_row h⟩

set_option maxHeartbeats 2000000 in
theorem atomC (p : Nat) (s : ByteArray) (l : Bs) (w : World) (h : Rd w p s l) :
    Calls Tryz.prog 127 #[.pointer (some ⟨p, 0, none⟩)] w fun e w' => Ends' p s w (atomK.val w.heap.size) (atom l) e w' := by
  have hlt := h.lt
  have hne := h.ne
  have hA : Tn p w (w.alloc (.cells #[.bool false, .string { data := #[] }, .slice none 0 0] 38)) := (Tn.refl p w).alloc _
  have HW := hide (wordR 79 isNamed fitsNamed enters_named p s l _ (h.alloc (.cells #[.bool false, .string { data := #[] }, .slice none 0 0] 38)))
  clear h
  go_enter Tryz.func127, Tryz.ntmps127
  go_wp2_with fail
  refine HW.out.mono ?_
  intro e w1 hE
  obtain ⟨hT, ⟨a, r, v, hx, rfl, rfl, hR⟩ | ⟨n, r, hx, rfl, hR⟩⟩ := hE.split
  · have hr1 := hT.row (heap_alloc_new w _) (b := w.heap.size) (by omega)
    have hlt1 : w.heap.size < w1.heap.size := by have := hT.size; simp at this; omega
    have hT1 := hA.trans hT
    have HTk := hide (tookC p s r [40] _ (hR.alloc (.cells #[.bool false, .string (bs a), .slice none 0 0] 38)))
    have HT1 := hide (hT1.alloc (.cells #[.bool false, .string (bs a), .slice none 0 0] 38))
    have HX : Hid (atom l = if (took [40] r).1 then (listP term 4 (took [40] r).2).next fun ts r => mustTake [41] ⟨false, a, ts⟩ r else .ok ⟨false, a, []⟩ (took [40] r).2) := by
      show _ = _; unfold atom; rw [hx]; rfl
    have hr1' := (Tn.refl p w1).alloc (.cells #[.bool false, .string (bs a), .slice none 0 0] 38) |>.row hr1 (by omega)
    have hr2 := heap_alloc_new w1 (.cells #[.bool false, .string (bs a), .slice none 0 0] 38)
    clear hx hT hR hE hA hT1 hr1 HW
    go_wp2_with fail
    refine HTk.out.mono ?_
    rintro e w2 ⟨rfl, hR2, hT2⟩
    replace hr1 := hT2.row hr1' (by omega)
    replace hr2 := hT2.row hr2 (by omega)
    have hlt2 : w1.heap.size < w2.heap.size := by have := hT2.size; simp at this; omega
    have HT2 := hide (HT1.out.trans hT2)
    have HR2 := hide hR2
    cases ht : (took [40] r).1
    · have HX2 : Hid (atom l = .ok ⟨false, a, []⟩ (took [40] r).2) := by show _ = _; rw [HX.out, if_neg (by rw [ht]; simp)]
      obtain ⟨z0, z1, z2, f0, f1, f2⟩ := row3 hr1
      obtain ⟨y0, y1, y2, _, _, _⟩ := row3 hr2
      clear ht hR2 hT2 HTk HT1 HX hr1' hr1 hr2
      go_wp2
      refine bodyPost_ret (v := .agg #[.bool false, .string (bs a), .slice none 0 0]) (by simp [results, Tryz.results127, go_sem, z0, z1, z2]) rfl ?_
      exact endsOk HX2.out (((HT2.out.setCell (Or.inr (Nat.le_refl _)) _).setCell (Or.inr (Nat.le_refl _)) _).setCell (Or.inr (Nat.le_refl _)) _) ⟨_, rfl, _, rfl, termK.sl_nil _ _ _ _⟩
        (((HR2.out.other (by omega) (by omega) _).other (by omega) (by omega) _).other (by omega) (by omega) _)
    · have HX2 : Hid (atom l = (listP term 4 (took [40] r).2).next fun ts r => mustTake [41] ⟨false, a, ts⟩ r) := by show _ = _; rw [HX.out, if_pos ht]
      have HL := hide (listTerm p s _ w2 hR2)
      clear ht hR2 hT2 HTk HT1 HX hr1'
      go_wp2_with fail
      refine HL.out.mono ?_
      intro e w3 hE3
      obtain ⟨hT3, ⟨ts, r3, v3, hx3, rfl, hV3, hR3⟩ | ⟨n, r3, hx3, rfl, hR3⟩⟩ := hE3.split
      · obtain ⟨a3, c3, rfl⟩ := Kind.slice hV3
        replace hr1 := hT3.row hr1 (by omega)
        replace hr2 := hT3.row hr2 (by omega)
        have hsz3 := hT3.size
        obtain ⟨y0, y1, y2, g0, g1, g2⟩ := row3 hr2
        obtain ⟨z0, z1, z2, f0, f1, f2⟩ := row3 hr1
        have hTs : Tn (w1.heap.size) w3 (w3.setCell ⟨w1.heap.size, 2, none⟩ (.slice a3 ts.length c3)) := (Tn.refl _ w3).moved _ _
        have HTk := hide (tookC p s r3 [41] _ (hR3.turned hTs (by omega) (by omega)))
        have HV3 : Hid (termK.sl (From w2.heap.size) (w3.setCell ⟨w1.heap.size, 2, none⟩ (.slice a3 ts.length c3)) (.slice a3 ts.length c3) ts) := Kind.sl_turned hV3 hTs (by omega)
        have HT3 := hide ((HT2.out.trans hT3).setCell (x := ⟨w1.heap.size, 2, none⟩) (Or.inr (by show w.heap.size ≤ w1.heap.size; omega)) (.slice a3 ts.length c3))
        have HX3 : Hid (atom l = mustTake [41] ⟨false, a, ts⟩ r3) := by show _ = _; rw [HX2.out, hx3]; rfl
        have hq1 := hTs.row hr1 (by omega)
        have q0 : (w3.setCell ⟨w1.heap.size, 2, none⟩ (.slice a3 ts.length c3)).cell? ⟨w1.heap.size, 0, none⟩ = some (.bool false) := by rw [World.cell?_setCell_other _ _ _ _ (by simp)]; exact y0
        have q1 : (w3.setCell ⟨w1.heap.size, 2, none⟩ (.slice a3 ts.length c3)).cell? ⟨w1.heap.size, 1, none⟩ = some (.string (bs a)) := by rw [World.cell?_setCell_other _ _ _ _ (by simp)]; exact y1
        have q2 : (w3.setCell ⟨w1.heap.size, 2, none⟩ (.slice a3 ts.length c3)).cell? ⟨w1.heap.size, 2, none⟩ = some (.slice a3 ts.length c3) := World.cell?_setCell_same _ _ _ y2
        have hsz4 : w3.heap.size = (w3.setCell ⟨w1.heap.size, 2, none⟩ (.slice a3 ts.length c3)).heap.size := (size_setCell _ _ _).symm
        clear hx3 hE3 hV3 hR3 HL HX2 hr1 hr2 z0 z1 z2 f0 f1 f2 HR2 hTs y0 y1
        go_wp2_with fail
        refine HTk.out.mono ?_
        rintro e w4 ⟨rfl, hR4, hT4⟩
        have hq1' := hT4.row hq1 (by omega)
        obtain ⟨z0, z1, z2, f0, f1, f2⟩ := row3 hq1'
        rw [← hT4.cell (x := ⟨w1.heap.size, 0, none⟩) (by show w1.heap.size < _; omega) (by show w1.heap.size ≠ p; omega)] at q0
        rw [← hT4.cell (x := ⟨w1.heap.size, 1, none⟩) (by show w1.heap.size < _; omega) (by show w1.heap.size ≠ p; omega)] at q1
        rw [← hT4.cell (x := ⟨w1.heap.size, 2, none⟩) (by show w1.heap.size < _; omega) (by show w1.heap.size ≠ p; omega)] at q2
        have HV4 := hide (Kind.sl_turned HV3.out hT4 (by omega))
        have HT4 := hide (HT3.out.trans hT4)
        have HR4 := hide hR4
        have HM := hide (mustC p s _ ((took [41] r3).1) w4 hR4)
        have hsz5 := hT4.size
        clear hR4 hT4 HTk HV3 HT3 hq1 hq1' y2
        cases ht : (took [41] r3).1
        · have HX4 : Hid (atom l = .bad 2 (took [41] r3).2) := by show _ = _; rw [HX3.out]; unfold mustTake; rw [if_neg (by rw [ht]; simp)]
          rw [ht] at HM
          clear ht HX3
          go_wp2_with fail
          refine HM.out.mono ?_
          rintro e w5 ⟨rfl, rfl⟩
          exact ⟨rfl, endsBad HX4.out HT4.out HR4.out⟩
        · have HX4 : Hid (atom l = .ok ⟨false, a, ts⟩ (took [41] r3).2) := by show _ = _; rw [HX3.out]; unfold mustTake; rw [if_pos ht]
          rw [ht] at HM
          clear ht HX3
          go_wp2_with fail
          refine HM.out.mono ?_
          rintro e w5 ⟨rfl, rfl⟩
          go_wp2
          refine bodyPost_ret (v := .agg #[.bool false, .string (bs a), .slice a3 ts.length c3]) (by simp [results, Tryz.results127, go_sem, z0, z1, z2]) rfl ?_
          have hTb : Tn w.heap.size w5 (((w5.setCell ⟨w.heap.size, 0, none⟩ (.bool false)).setCell ⟨w.heap.size, 1, none⟩ (.string (bs a))).setCell ⟨w.heap.size, 2, none⟩ (.slice a3 ts.length c3)) :=
            (((Tn.refl _ w5).moved _ _).moved _ _).moved _ _
          exact endsOk HX4.out (((HT4.out.setCell (Or.inr (Nat.le_refl _)) _).setCell (Or.inr (Nat.le_refl _)) _).setCell (Or.inr (Nat.le_refl _)) _) ⟨_, rfl, _, rfl, Kind.sl_mono (Kind.sl_turned HV4.out hTb (by omega)) (fun k _ hB => by have : w2.heap.size ≤ k := hB; show w.heap.size ≤ k; omega)⟩
            (HR4.out.turned hTb (by omega) (by omega))
      · have hx' : atom l = .bad n r3 := by rw [HX2.out, hx3]; rfl
        exact ⟨rfl, endsBad hx' (HT2.out.trans hT3) hR3⟩
  · have hx' : atom l = .bad n r := by unfold atom; rw [hx]; rfl
    exact ⟨rfl, endsBad hx' (hA.trans hT) hR⟩

set_option maxHeartbeats 2000000 in
theorem bodyAtomC (p : Nat) (s : ByteArray) (l : Bs) (w : World) (h : Rd w p s l) :
    Calls Tryz.prog 108 #[.pointer (some ⟨p, 0, none⟩)] w fun e w' => Ends' p s w (atomK.val w.heap.size) (bodyAtom l) e w' := by
  have hlt := h.lt
  have hne := h.ne
  have HA := hide ((Tn.refl p w).alloc (.cells #[.bool false, .string { data := #[] }, .slice none 0 0] 38))
  have hr1 := heap_alloc_new w (.cells #[.bool false, .string { data := #[] }, .slice none 0 0] 38)
  have HW := hide (tookC p s l [33] _ (h.alloc (.cells #[.bool false, .string { data := #[] }, .slice none 0 0] 38)))
  clear h
  go_enter Tryz.func108, Tryz.ntmps108
  go_wp2_with fail
  refine HW.out.mono ?_
  rintro e w1 ⟨rfl, hR, hT⟩
  replace hr1 := hT.row hr1 (by omega)
  have hlt1 : w.heap.size < w1.heap.size := by have := hT.size; simp at this; omega
  have HT1 := hide (HA.out.trans hT)
  have HC := hide (atomC p s _ w1 hR)
  clear hR hT HA HW
  go_wp2_with fail
  refine HC.out.mono ?_
  intro e w2 hE
  obtain ⟨hT2, ⟨a, r, v, hx, rfl, ⟨c, rfl, v2, rfl, hV⟩, hR2⟩ | ⟨n, r, hx, rfl, hR2⟩⟩ := hE.split
  · obtain ⟨a3, c3, rfl⟩ := Kind.slice hV
    replace hr1 := hT2.row hr1 (by omega)
    have hlt2 := hT2.size
    have HX : Hid (bodyAtom l = .ok { a with no := (took [33] l).1 } r) := by show _ = _; unfold bodyAtom; rw [hx]; rfl
    have HT2 := hide ((HT1.out.trans hT2).alloc (.cells #[.bool (took [33] l).1, .string (bs a.name), .slice a3 a.terms.length c3] 38))
    have HR2 := hide (hR2.alloc (.cells #[.bool (took [33] l).1, .string (bs a.name), .slice a3 a.terms.length c3] 38))
    have hTa : Tn (w2.heap.size + 1) w2 (w2.alloc (.cells #[.bool (took [33] l).1, .string (bs a.name), .slice a3 a.terms.length c3] 38)) := (Tn.refl _ w2).alloc _
    have HV : Hid (termK.sl (From w1.heap.size) (w2.alloc (.cells #[.bool (took [33] l).1, .string (bs a.name), .slice a3 a.terms.length c3] 38)) (.slice a3 a.terms.length c3) a.terms) := Kind.sl_kept hV hTa.size (fun k hk _ => hTa.block k hk (by omega))
    obtain ⟨z0, z1, z2, f0, f1, f2⟩ := row3 (hTa.row hr1 (by omega))
    clear hx hE hV hR2 HT1 HC hr1 hTa
    generalize (took [33] l).1 = b at *
    go_wp2
    refine bodyPost_ret (v := .agg #[.bool b, .string (bs a.name), .slice a3 a.terms.length c3]) (by simp [results, Tryz.results108, go_sem, z0, z1, z2]) rfl ?_
    generalize w2.alloc (.cells #[.bool b, .string (bs a.name), .slice a3 a.terms.length c3] 38) = w3 at *
    have hTb : Tn w.heap.size w3 (((w3.setCell ⟨w.heap.size, 0, none⟩ (.bool b)).setCell ⟨w.heap.size, 1, none⟩ (.string (bs a.name))).setCell ⟨w.heap.size, 2, none⟩ (.slice a3 a.terms.length c3)) :=
      (((Tn.refl _ w3).moved _ _).moved _ _).moved _ _
    exact endsOk HX.out (((HT2.out.setCell (Or.inr (Nat.le_refl _)) _).setCell (Or.inr (Nat.le_refl _)) _).setCell (Or.inr (Nat.le_refl _)) _) ⟨_, rfl, _, rfl, Kind.sl_mono (Kind.sl_turned HV.out hTb (by omega)) (fun k _ hB => by have : w1.heap.size ≤ k := hB; show w.heap.size ≤ k; omega)⟩
      (HR2.out.turned hTb (by omega) (by omega))
  · have hx' : bodyAtom l = .bad n r := by unfold bodyAtom; rw [hx]; rfl
    exact ⟨rfl, endsBad hx' (HT1.out.trans hT2) hR2⟩

end Go.Proofs.YthogickpeldhlaaGreat
