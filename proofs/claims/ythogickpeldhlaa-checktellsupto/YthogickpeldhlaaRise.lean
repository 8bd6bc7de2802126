/- The walks of fact.Own, fact.unlikeLast and its closure. -/
import Derived.Test.YthogickpeldhlaaSets
namespace Go.Proofs.Ythogickpeldhlaa
open Go.RowKit Go.Sort

theorem pick_all (l : List FactD) : ∀ k, k ≤ l.length → pick (fun _ => true) l k = l.take k
  | 0, _ => by simp [pick]
  | k + 1, h => by
    simp only [pick, if_true]
    rw [pick_all l k (by omega), List.take_succ_eq_append_getElem (by omega), List.getD_eq_getElem?_getD, List.getElem?_eq_getElem (by omega)]; rfl

set_option maxHeartbeats 400000 in
theorem own1 (v : Value) (f : FactD) (w : World) (h : FactV w v f) : Calls Try.prog 62 #[v] w fun e w' => e = .returned (.bool true) ∧ Later w w' := by
  obtain ⟨s, rfl, h0, a, cap, rfl, hc⟩ := h
  clear hc
  go_enter Try.func62, Try.ntmps62
  go_wp2
  go_ret
  exact ⟨rfl, (by repeat (first | exact Later.refl _ | assumption | refine Later.drewN ?_ _ | refine Later.drew ?_ | refine Later.alloc ?_ _ | refine Later.grow ?_ _))⟩

theorem enters_own1 : ∀ args w, (callFunc 62 args).run Try.prog w = .ok (.enter 62 args) w := enters_of Try.func62 (by kernel_rfl) rfl
theorem enters_ul1 : ∀ args w, (callFunc 126 args).run Try.prog w = .ok (.enter 126 args) w := enters_of Try.func126 (by kernel_rfl) rfl
theorem enters_less1 : ∀ args w, (callFunc 71 args).run Try.prog w = .ok (.enter 71 args) w := enters_of Try.func71 (by kernel_rfl) rfl

set_option maxHeartbeats 400000 in
/-- fact.Own: a copy, in memory of its own. -/
theorem ownC (v : Value) (l : List FactD) (w : World) (h : Facts w v l) : Calls Try.prog 20 #[v] w fun e w' => ∃ v', e = .returned v' ∧ OwnF w' w.heap.size v' l ∧ Later w w' := by
  have hk := keep 62 #[] enters_own1 w.heap.size w.heap.size w w v l (fun _ => true) (fun _ _ => True) h (Later.refl _) (Nat.le_refl _) (Nat.le_refl _)
    ⟨fun k w' v' _ hL _ _ hf => (own1 v' _ w' (hf.later hL)).mono fun e w'' ⟨he, hw⟩ => ⟨he, hw.only, trivial⟩, fun _ _ _ _ _ _ => trivial⟩ trivial
  rw [pick_all l l.length (Nat.le_refl _), List.take_length] at hk
  obtain ⟨a, cap, rfl⟩ := sliceFacts h
  have HK := hide hk
  clear hk h
  go_enter Try.func20, Try.ntmps20
  go_wp2_with (go_at_call 61; refine HK.out.mono ?_; rintro e w' ⟨v', rfl, ho, hO, _⟩)
  go_ret
  exact ⟨v', rfl, ho, hO.later (Later.refl _) (Nat.le_refl _)⟩

/-- The blocks that fact.unlikeLast's closure keeps. -/
def lastAt (w : World) (lo : Nat) (n : ByteArray) (s : Value) (b : Bool) : Prop :=
  w.heap[lo]? = some (.cells #[.string n, s] 25 (0, 0)) ∧ w.heap[lo + 1]? = some (.cells #[.bool b] 4 (0, 0))

set_option maxHeartbeats 400000 in
theorem unlikeLast (w : World) : Calls Try.prog 104 #[] w fun e w' =>
    e = .returned (.func (.func 126) #[] #[.pointer (some ⟨w.heap.size + 1, 0, none⟩), .pointer (some ⟨w.heap.size, 0, none⟩)]) ∧ Later w w' ∧ w'.heap.size = w.heap.size + 2 ∧ lastAt w' w.heap.size ByteArray.empty (.slice none 0 0) false := by
  go_enter Try.func104, Try.ntmps104
  go_wp2
  go_ret
  refine ⟨rfl, (by repeat (first | exact Later.refl _ | assumption | refine Later.drewN ?_ _ | refine Later.drew ?_ | refine Later.alloc ?_ _ | refine Later.grow ?_ _)), by simp, ?_, ?_⟩
  · rw [Below.heap_alloc _ _ _ (by simp), heap_alloc_new]; rfl
  · have := heap_alloc_new (w.alloc (.cells #[.string { data := #[] }, .slice none 0 0] 25)) (.cells #[.bool false] 4)
    simpa using this

theorem heap_setCell_at {w : World} {g j : Nat} {cs : Array Value} {t : TypeId} {fr : Nat × Nat} (h : w.heap[g]? = some (.cells cs t fr)) (u : Value) : (w.setCell ⟨g, j, none⟩ u).heap[g]? = some (.cells (cs.setIfInBounds j u) t fr) := by
  simp [World.setCell, Array.getElem?_modify, h]

theorem frozen_of_row {w : World} {g : Nat} (j : Nat) {cs : Array Value} {t : TypeId} (h : w.heap[g]? = some (.cells cs t (0, 0))) : w.frozen? ⟨g, j, none⟩ = false := by
  simp [World.frozen?, h]

/-- Behind the closure's stores. -/
theorem last_stored {w w2 : World} {lo : Nat} {n n' : ByteArray} {s s' : Value} {b : Bool} (hl : lastAt w lo n s b) (hL : Later w w2) :
    Only lo (lo + 2) w (((w2.setCell ⟨lo, 0, none⟩ (.string n')).setCell ⟨lo, 1, none⟩ s').setCell ⟨lo + 1, 0, none⟩ (.bool true)) ∧ lastAt (((w2.setCell ⟨lo, 0, none⟩ (.string n')).setCell ⟨lo, 1, none⟩ s').setCell ⟨lo + 1, 0, none⟩ (.bool true)) lo n' s' true := by
  have hb1 : lo < w.heap.size := (Array.getElem?_eq_some_iff.1 hl.1).1
  have hb2 : lo + 1 < w.heap.size := (Array.getElem?_eq_some_iff.1 hl.2).1
  have h1 : w2.heap[lo]? = some (.cells #[.string n, s] 25 (0, 0)) := by rw [hL.block hb1]; exact hl.1
  have h2 : w2.heap[lo + 1]? = some (.cells #[.bool b] 4 (0, 0)) := by rw [hL.block hb2]; exact hl.2
  refine ⟨⟨hL.below.os, hL.below.tape, hL.below.output, hL.drawn, by simpa [World.setCell] using hL.size, fun k hk ho => ?_⟩, ?_, ?_⟩
  · rw [Below.heap_setCell _ _ _ _ (by show k ≠ lo + 1; omega), Below.heap_setCell _ _ _ _ (by show k ≠ lo; omega), Below.heap_setCell _ _ _ _ (by show k ≠ lo; omega)]
    exact hL.block hk
  · rw [Below.heap_setCell _ _ _ _ (by show lo ≠ lo + 1; omega)]
    rw [heap_setCell_at (heap_setCell_at h1 _)]
    rfl
  · rw [heap_setCell_at (by rw [Below.heap_setCell _ _ _ _ (by show lo + 1 ≠ lo; omega), Below.heap_setCell _ _ _ _ (by show lo + 1 ≠ lo; omega)]; exact h2)]
    rfl

set_option maxHeartbeats 1000000 in
theorem unlikeLast1_yes (lo : Nat) (w : World) (n : ByteArray) (s : Value) (v : Value) (f g : FactD) (hl : lastAt w lo n s true) (hg : FactV w (.agg #[.string n, s]) g) (hf : FactV w v f) :
    Calls Try.prog 126 #[v, .pointer (some ⟨lo + 1, 0, none⟩), .pointer (some ⟨lo, 0, none⟩)] w fun e w' => e = .returned (.bool (!decide (cmpF g f = 0))) ∧
      ∃ w2, Later w w2 ∧ ∃ s', v = .agg #[.string f.1, s'] ∧ w' = ((w2.setCell ⟨lo, 0, none⟩ (.string f.1)).setCell ⟨lo, 1, none⟩ s').setCell ⟨lo + 1, 0, none⟩ (.bool true) := by
  have hC := fun w' (hw : Later w w') => compareF _ _ g f w' (hg.later hw) (hf.later hw)
  have HC := hide hC
  obtain ⟨s1, rfl, h0, a, cap, rfl, hc⟩ := hf
  obtain ⟨s2, e2, l0, a2, cap2, rfl, hc2⟩ := hg
  simp at e2
  obtain ⟨rfl, rfl⟩ := e2
  clear hc hc2 hC
  have hb1 : lo < w.heap.size := (Array.getElem?_eq_some_iff.1 hl.1).1
  have hb2 : lo + 1 < w.heap.size := (Array.getElem?_eq_some_iff.1 hl.2).1
  have c0 : w.cell? ⟨lo, 0, none⟩ = some (.string g.1) := by rw [cell_of_row _ _ _ _ _ _ hl.1]; rfl
  have c1 : w.cell? ⟨lo, 1, none⟩ = some (.slice a2 g.2.length cap2) := by rw [cell_of_row _ _ _ _ _ _ hl.1]; rfl
  have c2 : w.cell? ⟨lo + 1, 0, none⟩ = some (.bool true) := by rw [cell_of_row _ _ _ _ _ _ hl.2]; rfl
  obtain ⟨fn, fl⟩ := f
  obtain ⟨gn, gl⟩ := g
  dsimp only at *
  go_enter Try.func126, Try.ntmps126
  go_wp2_with fail
  refine (HC.out _ ((Later.refl _).alloc _)).mono ?_
  rintro e w2 ⟨rfl, hL⟩
  have hL0 : Later w w2 := ((Later.refl _).alloc _).trans hL
  have z0 : w2.cell? ⟨w.heap.size, 0, none⟩ = some (.string fn) := by rw [hL.cell (by simp)]; simp
  have z1 : w2.cell? ⟨w.heap.size, 1, none⟩ = some (.slice a fl.length cap) := by rw [hL.cell (by simp)]; simp
  have z2 : w2.cell? ⟨lo, 0, none⟩ = some (.string gn) := by rw [hL0.cell hb1]; exact c0
  have z3 : w2.cell? ⟨lo, 1, none⟩ = some (.slice a2 gl.length cap2) := by rw [hL0.cell hb1]; exact c1
  have z4 : w2.cell? ⟨lo + 1, 0, none⟩ = some (.bool true) := by rw [hL0.cell hb2]; exact c2
  have y0 : w2.frozen? ⟨lo, 0, none⟩ = false := by rw [hL0.frozen hb1]; exact frozen_of_row 0 hl.1
  have y1 : w2.frozen? ⟨lo, 1, none⟩ = false := by rw [hL0.frozen hb1]; exact frozen_of_row 1 hl.1
  have y2 : w2.frozen? ⟨lo + 1, 0, none⟩ = false := by rw [hL0.frozen hb2]; exact frozen_of_row 0 hl.2
  go_wp2
  go_ret
  refine ⟨ret_bool ?_, w2, hL0, _, rfl, rfl⟩
  rw [Bool.eq_iff_iff]; simp

set_option maxHeartbeats 1000000 in
theorem unlikeLast1_no (lo : Nat) (w : World) (n : ByteArray) (a2 : Option Addr) (m2 cap2 : Nat) (v : Value) (f : FactD) (hl : lastAt w lo n (.slice a2 m2 cap2) false) (hf : FactV w v f) :
    Calls Try.prog 126 #[v, .pointer (some ⟨lo + 1, 0, none⟩), .pointer (some ⟨lo, 0, none⟩)] w fun e w' => e = .returned (.bool true) ∧
      ∃ w2, Later w w2 ∧ ∃ s', v = .agg #[.string f.1, s'] ∧ w' = ((w2.setCell ⟨lo, 0, none⟩ (.string f.1)).setCell ⟨lo, 1, none⟩ s').setCell ⟨lo + 1, 0, none⟩ (.bool true) := by
  obtain ⟨s1, rfl, h0, a, cap, rfl, hc⟩ := hf
  clear hc
  have hb1 : lo < w.heap.size := (Array.getElem?_eq_some_iff.1 hl.1).1
  have hb2 : lo + 1 < w.heap.size := (Array.getElem?_eq_some_iff.1 hl.2).1
  have z2 : w.cell? ⟨lo, 0, none⟩ = some (.string n) := by rw [cell_of_row _ _ _ _ _ _ hl.1]; rfl
  have z3 : w.cell? ⟨lo, 1, none⟩ = some (.slice a2 m2 cap2) := by rw [cell_of_row _ _ _ _ _ _ hl.1]; rfl
  have z4 : w.cell? ⟨lo + 1, 0, none⟩ = some (.bool false) := by rw [cell_of_row _ _ _ _ _ _ hl.2]; rfl
  have y0 : w.frozen? ⟨lo, 0, none⟩ = false := frozen_of_row 0 hl.1
  have y1 : w.frozen? ⟨lo, 1, none⟩ = false := frozen_of_row 1 hl.1
  have y2 : w.frozen? ⟨lo + 1, 0, none⟩ = false := frozen_of_row 0 hl.2
  obtain ⟨fn, fl⟩ := f
  dsimp only at *
  go_enter Try.func126, Try.ntmps126
  go_wp2
  go_ret
  refine ⟨rfl, w.alloc (.cells #[.string fn, .slice a fl.length cap] 25), (Later.refl _).alloc _, _, rfl, ?_⟩
  rw [World.setCell_alloc_past _ _ _ _ (by exact hb1), World.setCell_alloc_past _ _ _ _ (by simpa using hb1), World.setCell_alloc_past _ _ _ _ (by simpa using hb2)]

/-- What fact.unlikeLast's closure keeps, ahead of round k. -/
def LastK (w0 : World) (lo : Nat) (l : List FactD) (k : Nat) (w : World) : Prop :=
  ∃ n a m c, lastAt w lo n (.slice a m c) (decide (0 < k)) ∧ (0 < k → FactV w0 (.agg #[.string n, .slice a m c]) (l.getD (k - 1) noFact))

theorem asked_ul (w0 : World) (l : List FactD) :
    Asked 126 #[.pointer (some ⟨w0.heap.size + 1, 0, none⟩), .pointer (some ⟨w0.heap.size, 0, none⟩)] w0.heap.size (w0.heap.size + 2) w0 l (newP l) (LastK w0 w0.heap.size l) where
  ask k w' v hk hL _ hS hf := by
    obtain ⟨n, a, m, c, hl, hlast⟩ := hS
    by_cases h0 : 0 < k
    · rw [decide_eq_true h0] at hl
      have e : newP l k = !decide (cmpF (l.getD (k - 1) noFact) (l.getD k noFact) = 0) := by simp [newP]; omega
      rw [e]
      refine (unlikeLast1_yes w0.heap.size w' n _ v (l.getD k noFact) (l.getD (k - 1) noFact) hl ((hlast h0).later hL) (hf.later hL)).mono ?_
      rintro e w'' ⟨rfl, w2, hL2, s', rfl, rfl⟩
      have hst := last_stored (n' := (l.getD k noFact).1) (s' := s') hl hL2
      obtain ⟨s1, e1, hs1⟩ := hf
      simp at e1
      subst e1
      obtain ⟨a1, c1, rfl⟩ := sliceStr hs1
      exact ⟨rfl, hst.1, _, a1, _, c1, by rw [decide_eq_true (Nat.succ_pos k)]; exact hst.2, fun _ => ⟨_, rfl, hs1⟩⟩
    · have hk0 : k = 0 := by omega
      subst hk0
      refine (unlikeLast1_no w0.heap.size w' n a m c v (l.getD 0 noFact) hl (hf.later hL)).mono ?_
      rintro e w'' ⟨rfl, w2, hL2, s', rfl, rfl⟩
      have hst := last_stored (n' := (l.getD 0 noFact).1) (s' := s') hl hL2
      obtain ⟨s1, e1, hs1⟩ := hf
      simp at e1
      subst e1
      obtain ⟨a1, c1, rfl⟩ := sliceStr hs1
      exact ⟨rfl, hst.1, _, a1, _, c1, hst.2, fun _ => ⟨_, rfl, hs1⟩⟩
  kept k w' w'' hS hb _ := by
    obtain ⟨n, a, m, c, hl, hlast⟩ := hS
    exact ⟨n, a, m, c, ⟨by rw [hb _ (by omega)]; exact hl.1, by rw [hb _ (by omega)]; exact hl.2⟩, hlast⟩

end Go.Proofs.Ythogickpeldhlaa
