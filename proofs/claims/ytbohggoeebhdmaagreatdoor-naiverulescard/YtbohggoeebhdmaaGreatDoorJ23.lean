import Derived.Test.YtbohggoeebhdmaaGreatDoorJ22
import Derived.Lib.SliceRun
import Derived.Shelf.SlSortCmp.WholeK
import Derived.Test.YtbohggoeebhdmaaGreatDoorProg
import Derived.Shelf.SlSortCmp.NoneTotal
import Derived.Deep.RegionHeld
import Derived.Shelf.Spec.SlicesGrow
import Derived.Shelf.SlSortCmp.Whole1
/- The walks of fact.Own, fact.unlikeLast and its closure. -/
namespace Go.Proofs.YtbohggoeebhdmaaGreatDoor
open Go.RowKit Go.Sort

theorem pick_all (l : List FactD) : ∀ k, k ≤ l.length → pick (fun _ => true) l k = l.take k
  | 0, _ => by simp [pick]
  | k + 1, h => by
    simp only [pick, if_true]
    rw [pick_all l k (by omega), List.take_succ_eq_append_getElem (by omega), List.getD_eq_getElem?_getD, List.getElem?_eq_getElem (by omega)]; rfl

set_option maxHeartbeats 400000 in
theorem own1 (v : Value) (f : FactD) (w : World) (h : FactV w v f) : Calls Tryz.prog 75 #[v] w fun e w' => e = .returned (.bool true) ∧ Later w w' := by
  obtain ⟨s, rfl, h0, a, cap, rfl, hc⟩ := h
  clear hc
  go_enter Tryz.func75, Tryz.ntmps75
  go_wp2
  go_ret
  exact ⟨rfl, (by repeat (first | exact Later.refl _ | assumption | refine Later.drewN ?_ _ | refine Later.drew ?_ | refine Later.alloc ?_ _ | refine Later.grow ?_ _))⟩

theorem enters_own1 : ∀ args w, (callFunc 75 args).run Tryz.prog w = .ok (.enter 75 args) w := enters_of Tryz.func75 (by kernel_rfl) rfl
theorem enters_ul1 : ∀ args w, (callFunc 132 args).run Tryz.prog w = .ok (.enter 132 args) w := enters_of Tryz.func132 (by kernel_rfl) rfl
theorem enters_less1 : ∀ args w, (callFunc 54 args).run Tryz.prog w = .ok (.enter 54 args) w := enters_of Tryz.func54 (by kernel_rfl) rfl

set_option maxHeartbeats 400000 in
/-- fact.Own: a copy, in memory of its own. -/
theorem ownC (v : Value) (l : List FactD) (w : World) (h : Facts w v l) : Calls Tryz.prog 40 #[v] w fun e w' => ∃ v', e = .returned v' ∧ OwnF w' w.heap.size v' l ∧ Later w w' := by
  have hk := keep 75 #[] enters_own1 w.heap.size w.heap.size w w v l (fun _ => true) (fun _ _ => True) h (Later.refl _) (Nat.le_refl _) (Nat.le_refl _)
    ⟨fun k w' v' _ hL _ _ hf => (own1 v' _ w' (hf.later hL)).mono fun e w'' ⟨he, hw⟩ => ⟨he, hw.only, trivial⟩, fun _ _ _ _ _ _ => trivial⟩ trivial
  rw [pick_all l l.length (Nat.le_refl _), List.take_length] at hk
  obtain ⟨a, cap, rfl⟩ := sliceFacts h
  have HK := hide hk
  clear hk h
  go_enter Tryz.func40, Tryz.ntmps40
  go_wp2_with (go_at_call 53; refine HK.out.mono ?_; rintro e w' ⟨v', rfl, ho, hO, _⟩)
  go_ret
  exact ⟨v', rfl, ho, hO.later (Later.refl _) (Nat.le_refl _)⟩

/-- The blocks that fact.unlikeLast's closure keeps. -/
def lastAt (w : World) (lo : Nat) (n : ByteArray) (s : Value) (b : Bool) : Prop :=
  w.heap[lo]? = some (.cells #[.string n, s] 54 (0, 0)) ∧ w.heap[lo + 1]? = some (.cells #[.bool b] 4 (0, 0))

set_option maxHeartbeats 400000 in
theorem unlikeLast (w : World) : Calls Tryz.prog 94 #[] w fun e w' =>
    e = .returned (.func (.func 132) #[] #[.pointer (some ⟨w.heap.size + 1, 0, none⟩), .pointer (some ⟨w.heap.size, 0, none⟩)]) ∧ Later w w' ∧ w'.heap.size = w.heap.size + 2 ∧ lastAt w' w.heap.size ByteArray.empty (.slice none 0 0) false := by
  go_enter Tryz.func94, Tryz.ntmps94
  go_wp2
  go_ret
  refine ⟨rfl, (by repeat (first | exact Later.refl _ | assumption | refine Later.drewN ?_ _ | refine Later.drew ?_ | refine Later.alloc ?_ _ | refine Later.grow ?_ _)), by simp, ?_, ?_⟩
  · rw [Below.heap_alloc _ _ _ (by simp), heap_alloc_new]; rfl
  · have := heap_alloc_new (w.alloc (.cells #[.string { data := #[] }, .slice none 0 0] 54)) (.cells #[.bool false] 4)
    simpa using this

theorem heap_setCell_at {w : World} {g j : Nat} {cs : Array Value} {t : TypeId} {fr : Nat × Nat} (h : w.heap[g]? = some (.cells cs t fr)) (u : Value) : (w.setCell ⟨g, j, none⟩ u).heap[g]? = some (.cells (cs.setIfInBounds j u) t fr) := by
  simp [World.setCell, Array.getElem?_modify, h]

theorem frozen_of_row {w : World} {g : Nat} (j : Nat) {cs : Array Value} {t : TypeId} (h : w.heap[g]? = some (.cells cs t (0, 0))) : w.frozen? ⟨g, j, none⟩ = false := by
  simp [World.frozen?, h]

/-- Behind the closure's stores. -/
theorem last_stored {w w2 : World} {lo : Nat} {n n' : ByteArray} {s s' : Value} {b : Bool} (hl : lastAt w lo n s b) (hL : Later w w2) :
    Only lo (lo + 2) w (((w2.setCell ⟨lo, 0, none⟩ (.string n')).setCell ⟨lo, 1, none⟩ s').setCell ⟨lo + 1, 0, none⟩ (.bool true)) ∧ lastAt (((w2.setCell ⟨lo, 0, none⟩ (.string n')).setCell ⟨lo, 1, none⟩ s').setCell ⟨lo + 1, 0, none⟩ (.bool true)) lo n' s' true := by
  have hb1 : lo < w.heap.size := (Array.getElem?_eq_some_iff.1 hl.1).1
  have hb2 : lo + 1 < w.heap.size := (Array.getElem?_eq_some_iff.1 hl.2).1
  have h1 : w2.heap[lo]? = some (.cells #[.string n, s] 54 (0, 0)) := by rw [hL.block hb1]; exact hl.1
  have h2 : w2.heap[lo + 1]? = some (.cells #[.bool b] 4 (0, 0)) := by rw [hL.block hb2]; exact hl.2
  refine ⟨⟨hL.below.os, hL.below.tape, hL.below.output, hL.drawn, by simpa [World.setCell] using hL.size, fun k hk ho => ?_⟩, ?_, ?_⟩
  · rw [Below.heap_setCell _ _ _ _ (by show k ≠ lo + 1; omega), Below.heap_setCell _ _ _ _ (by show k ≠ lo; omega), Below.heap_setCell _ _ _ _ (by show k ≠ lo; omega)]
    exact hL.block hk
  · rw [Below.heap_setCell _ _ _ _ (by show lo ≠ lo + 1; omega)]
    rw [heap_setCell_at (heap_setCell_at h1 _)]
    rfl
  · rw [heap_setCell_at (by rw [Below.heap_setCell _ _ _ _ (by show lo + 1 ≠ lo; omega), Below.heap_setCell _ _ _ _ (by show lo + 1 ≠ lo; omega)]; exact h2)]
    rfl

set_option maxHeartbeats 1000000 in
theorem unlikeLast1_yes (lo : Nat) (w : World) (n : ByteArray) (s : Value) (v : Value) (f g : FactD) (hl : lastAt w lo n s true) (hg : FactV w (.agg #[.string n, s]) g) (hf : FactV w v f) :
    Calls Tryz.prog 132 #[v, .pointer (some ⟨lo + 1, 0, none⟩), .pointer (some ⟨lo, 0, none⟩)] w fun e w' => e = .returned (.bool (!decide (cmpF g f = 0))) ∧
      ∃ w2, Later w w2 ∧ ∃ s', v = .agg #[.string f.1, s'] ∧ w' = ((w2.setCell ⟨lo, 0, none⟩ (.string f.1)).setCell ⟨lo, 1, none⟩ s').setCell ⟨lo + 1, 0, none⟩ (.bool true) := by
  have hC := fun w' (hw : Later w w') => compareF _ _ g f w' (hg.later hw) (hf.later hw)
  have HC := hide hC
  obtain ⟨s1, rfl, h0, a, cap, rfl, hc⟩ := hf
  obtain ⟨s2, e2, l0, a2, cap2, rfl, hc2⟩ := hg
  simp at e2
  obtain ⟨rfl, rfl⟩ := e2
  clear hc hc2 hC
  have hb1 : lo < w.heap.size := (Array.getElem?_eq_some_iff.1 hl.1).1
  have hb2 : lo + 1 < w.heap.size := (Array.getElem?_eq_some_iff.1 hl.2).1
  have c0 : w.cell? ⟨lo, 0, none⟩ = some (.string g.1) := by rw [cell_of_row _ _ _ _ _ _ hl.1]; rfl
  have c1 : w.cell? ⟨lo, 1, none⟩ = some (.slice a2 g.2.length cap2) := by rw [cell_of_row _ _ _ _ _ _ hl.1]; rfl
  have c2 : w.cell? ⟨lo + 1, 0, none⟩ = some (.bool true) := by rw [cell_of_row _ _ _ _ _ _ hl.2]; rfl
  obtain ⟨fn, fl⟩ := f
  obtain ⟨gn, gl⟩ := g
  dsimp only at *
  go_enter Tryz.func132, Tryz.ntmps132
  go_wp2_with fail
  refine (HC.out _ ((Later.refl _).alloc _)).mono ?_
  rintro e w2 ⟨rfl, hL⟩
  have hL0 : Later w w2 := ((Later.refl _).alloc _).trans hL
  have z0 : w2.cell? ⟨w.heap.size, 0, none⟩ = some (.string fn) := by rw [hL.cell (by simp)]; simp
  have z1 : w2.cell? ⟨w.heap.size, 1, none⟩ = some (.slice a fl.length cap) := by rw [hL.cell (by simp)]; simp
  have z2 : w2.cell? ⟨lo, 0, none⟩ = some (.string gn) := by rw [hL0.cell hb1]; exact c0
  have z3 : w2.cell? ⟨lo, 1, none⟩ = some (.slice a2 gl.length cap2) := by rw [hL0.cell hb1]; exact c1
  have z4 : w2.cell? ⟨lo + 1, 0, none⟩ = some (.bool true) := by rw [hL0.cell hb2]; exact c2
  have y0 : w2.frozen? ⟨lo, 0, none⟩ = false := by rw [hL0.frozen hb1]; exact frozen_of_row 0 hl.1
  have y1 : w2.frozen? ⟨lo, 1, none⟩ = false := by rw [hL0.frozen hb1]; exact frozen_of_row 1 hl.1
  have y2 : w2.frozen? ⟨lo + 1, 0, none⟩ = false := by rw [hL0.frozen hb2]; exact frozen_of_row 0 hl.2
  go_wp2
  go_ret
  refine ⟨ret_bool ?_, w2, hL0, _, rfl, rfl⟩
  rw [Bool.eq_iff_iff]; simp

set_option maxHeartbeats 1000000 in
theorem unlikeLast1_no (lo : Nat) (w : World) (n : ByteArray) (a2 : Option Addr) (m2 cap2 : Nat) (v : Value) (f : FactD) (hl : lastAt w lo n (.slice a2 m2 cap2) false) (hf : FactV w v f) :
    Calls Tryz.prog 132 #[v, .pointer (some ⟨lo + 1, 0, none⟩), .pointer (some ⟨lo, 0, none⟩)] w fun e w' => e = .returned (.bool true) ∧
      ∃ w2, Later w w2 ∧ ∃ s', v = .agg #[.string f.1, s'] ∧ w' = ((w2.setCell ⟨lo, 0, none⟩ (.string f.1)).setCell ⟨lo, 1, none⟩ s').setCell ⟨lo + 1, 0, none⟩ (.bool true) := by
  obtain ⟨s1, rfl, h0, a, cap, rfl, hc⟩ := hf
  clear hc
  have hb1 : lo < w.heap.size := (Array.getElem?_eq_some_iff.1 hl.1).1
  have hb2 : lo + 1 < w.heap.size := (Array.getElem?_eq_some_iff.1 hl.2).1
  have z2 : w.cell? ⟨lo, 0, none⟩ = some (.string n) := by rw [cell_of_row _ _ _ _ _ _ hl.1]; rfl
  have z3 : w.cell? ⟨lo, 1, none⟩ = some (.slice a2 m2 cap2) := by rw [cell_of_row _ _ _ _ _ _ hl.1]; rfl
  have z4 : w.cell? ⟨lo + 1, 0, none⟩ = some (.bool false) := by rw [cell_of_row _ _ _ _ _ _ hl.2]; rfl
  have y0 : w.frozen? ⟨lo, 0, none⟩ = false := frozen_of_row 0 hl.1
  have y1 : w.frozen? ⟨lo, 1, none⟩ = false := frozen_of_row 1 hl.1
  have y2 : w.frozen? ⟨lo + 1, 0, none⟩ = false := frozen_of_row 0 hl.2
  obtain ⟨fn, fl⟩ := f
  dsimp only at *
  go_enter Tryz.func132, Tryz.ntmps132
  go_wp2
  go_ret
  refine ⟨rfl, w.alloc (.cells #[.string fn, .slice a fl.length cap] 54), (Later.refl _).alloc _, _, rfl, ?_⟩
  rw [World.setCell_alloc_past _ _ _ _ (by exact hb1), World.setCell_alloc_past _ _ _ _ (by simpa using hb1), World.setCell_alloc_past _ _ _ _ (by simpa using hb2)]

/-- What fact.unlikeLast's closure keeps, ahead of round k. -/
def LastK (w0 : World) (lo : Nat) (l : List FactD) (k : Nat) (w : World) : Prop :=
  ∃ n a m c, lastAt w lo n (.slice a m c) (decide (0 < k)) ∧ (0 < k → FactV w0 (.agg #[.string n, .slice a m c]) (l.getD (k - 1) noFact))

theorem asked_ul (w0 : World) (l : List FactD) :
    Asked 132 #[.pointer (some ⟨w0.heap.size + 1, 0, none⟩), .pointer (some ⟨w0.heap.size, 0, none⟩)] w0.heap.size (w0.heap.size + 2) w0 l (newP l) (LastK w0 w0.heap.size l) where
  ask k w' v hk hL _ hS hf := by
    obtain ⟨n, a, m, c, hl, hlast⟩ := hS
    by_cases h0 : 0 < k
    · rw [decide_eq_true h0] at hl
      have e : newP l k = !decide (cmpF (l.getD (k - 1) noFact) (l.getD k noFact) = 0) := by simp [newP]; omega
      rw [e]
      refine (unlikeLast1_yes w0.heap.size w' n _ v (l.getD k noFact) (l.getD (k - 1) noFact) hl ((hlast h0).later hL) (hf.later hL)).mono ?_
      rintro e w'' ⟨rfl, w2, hL2, s', rfl, rfl⟩
      have hst := last_stored (n' := (l.getD k noFact).1) (s' := s') hl hL2
      obtain ⟨s1, e1, hs1⟩ := hf
      simp at e1
      subst e1
      obtain ⟨a1, c1, rfl⟩ := sliceStr hs1
      exact ⟨rfl, hst.1, _, a1, _, c1, by rw [decide_eq_true (Nat.succ_pos k)]; exact hst.2, fun _ => ⟨_, rfl, hs1⟩⟩
    · have hk0 : k = 0 := by omega
      subst hk0
      refine (unlikeLast1_no w0.heap.size w' n a m c v (l.getD 0 noFact) hl (hf.later hL)).mono ?_
      rintro e w'' ⟨rfl, w2, hL2, s', rfl, rfl⟩
      have hst := last_stored (n' := (l.getD 0 noFact).1) (s' := s') hl hL2
      obtain ⟨s1, e1, hs1⟩ := hf
      simp at e1
      subst e1
      obtain ⟨a1, c1, rfl⟩ := sliceStr hs1
      exact ⟨rfl, hst.1, _, a1, _, c1, hst.2, fun _ => ⟨_, rfl, hs1⟩⟩
  kept k w' w'' hS hb _ := by
    obtain ⟨n, a, m, c, hl, hlast⟩ := hS
    exact ⟨n, a, m, c, ⟨by rw [hb _ (by omega)]; exact hl.1, by rw [hb _ (by omega)]; exact hl.2⟩, hlast⟩

end Go.Proofs.YtbohggoeebhdmaaGreatDoor

/- The walks of slices.Clone at facts, fact.rise, fact.Of. -/
namespace Go.Proofs.YtbohggoeebhdmaaGreatDoor
open Go.RowKit Go.Sort

set_option maxHeartbeats 400000 in
theorem clone_some (b : Addr) (cap : Nat) (l : List FactD) (w : World) (h : Facts w (.slice (some b) l.length cap) l) :
    Calls Tryz.prog 57 #[.slice (some b) l.length cap] w fun e w' => ∃ v', e = .returned v' ∧ RowF w' w.heap.size v' l ∧ Later w w' := by
  have hnil := fun w => Lib.run_eql_slice_nil (P := Tryz.prog) w 24 54 (some b) l.length cap 0 0 Tryz.underlying24
  have h0 : RowF (w.alloc (.cells #[] 54)) w.heap.size (.slice (some ⟨w.heap.size, 0, none⟩) 0 0) [] :=
    ⟨[], World.ownsRow_made w #[] 0 (Nat.le_refl _) (by simp) (by simp), fun i hi => by simp at hi⟩
  obtain ⟨v', w', hrun, hR, hL, _⟩ := h0.append ((Later.refl w).alloc _) h (by have := h.1; simpa using this)
  have HR := hide hrun
  have HF := hide hR
  clear hrun hR h0 h
  go_enter Tryz.func57, Tryz.ntmps57
  go_wp2_with (at_builtin; refine wpList_append_run rfl (.tmp 5) (.tmp 6) 24 rfl _ _ _ _ rfl rfl HR.out ?_)
  go_ret
  exact ⟨v', rfl, HF.out, hL⟩

set_option maxHeartbeats 400000 in
theorem clone_none (n cap : Nat) (w : World) :
    Calls Tryz.prog 57 #[.slice none n cap] w fun e w' => e = .returned (.slice none 0 0) ∧ w' = w := by
  have hnil := fun w => Lib.run_eql_slice_nil (P := Tryz.prog) w 24 54 none n cap 0 0 Tryz.underlying24
  go_enter Tryz.func57, Tryz.ntmps57
  go_wp2
  go_ret
  exact ⟨rfl, rfl⟩

theorem clone (v : Value) (l : List FactD) (w : World) (h : Facts w v l) :
    Calls Tryz.prog 57 #[v] w fun e w' => ∃ v', e = .returned v' ∧ RowF w' w.heap.size v' l ∧ Later w w' := by
  obtain ⟨a, cap, rfl, hn, hz⟩ := h.addr
  cases a with
  | some b => exact clone_some b cap l w h
  | none =>
    rcases hz with rfl | ⟨b, off, e⟩
    · exact (clone_none _ cap w).mono fun e w' ⟨he, hw⟩ => ⟨_, he, by rw [hw]; exact ⟨[], World.ownsRow_nil w _ _ _, fun i hi => by simp at hi⟩, by rw [hw]; exact Later.refl _⟩
    · cases e

end Go.Proofs.YtbohggoeebhdmaaGreatDoor

/-
  DERIVED: THE SHELF's CONTRACTS AT THIS DUMP, IN PLAIN WORDS (tools/lay-plain.mjs out of 'TryzSortLay.lean', which tools/lay-shelf.mjs wrote): THE SAME DECLARATIONS UNDER THE SAME NAMES: 'import', 'namespace', 'open', 'def', 'theorem' AND NOTHING ELSE: no command of the shelf's: FOR A HAND-IN. Each laying: the table of numbers ('.._ren') and one theorem, a field a fact of the dump's own or the kernel's comparison; each contract: ONE APPLICATION.
-/
namespace Go.Proofs
open Go.Shelf
def Tryz.sortFacts_ren : Go.Shelf.Ren := ⟨fun | 6 => 93 | 15 => 131 | 14 => 130 | 28 => 162 | 29 => 163 | 20 => 154 | 21 => 155 | 22 => 156 | 23 => 157 | 24 => 158 | 25 => 159 | 26 => 160 | 27 => 161 | 46 => 179 | 47 => 180 | 48 => 181 | 49 => 182 | 50 => 183 | 57 => 211 | n => n, fun | 22 => 24 | 24 => 54 | 25 => 61 | 3 => 3 | 39 => 174 | 0 => 0 | 53 => 202 | 55 => 204 | 4 => 4 | 46 => 196 | 45 => 195 | 50 => 69 | 5 => 5 | 9 => 9 | 66 => 221 | 70 => 225 | 76 => 244 | 77 => 245 | n => n, fun | n => n⟩
theorem Tryz.sortFacts : Go.Proofs.SlLaysF0.n6 Tryz.prog Tryz.sortFacts_ren := {
  mixed := by kernel_rfl
  f6 := ⟨Tryz.f93.name, by decide, Tryz.func93.trans (congrArg some (by kernel_rfl))⟩
  f14 := ⟨Tryz.f130.name, by decide, Tryz.func130.trans (congrArg some (by kernel_rfl))⟩
  f15 := Tryz.func131.trans (congrArg some (by kernel_rfl))
  f20 := ⟨Tryz.f154.name, by decide, Tryz.func154.trans (congrArg some (by kernel_rfl))⟩
  f21 := ⟨Tryz.f155.name, by decide, Tryz.func155.trans (congrArg some (by kernel_rfl))⟩
  f22 := ⟨Tryz.f156.name, by decide, Tryz.func156.trans (congrArg some (by kernel_rfl))⟩
  f23 := ⟨Tryz.f157.name, by decide, Tryz.func157.trans (congrArg some (by kernel_rfl))⟩
  f24 := ⟨Tryz.f158.name, by decide, Tryz.func158.trans (congrArg some (by kernel_rfl))⟩
  f25 := ⟨Tryz.f159.name, by decide, Tryz.func159.trans (congrArg some (by kernel_rfl))⟩
  f26 := ⟨Tryz.f160.name, by decide, Tryz.func160.trans (congrArg some (by kernel_rfl))⟩
  f27 := ⟨Tryz.f161.name, by decide, Tryz.func161.trans (congrArg some (by kernel_rfl))⟩
  f28 := Tryz.func162.trans (congrArg some (by kernel_rfl))
  f29 := Tryz.func163.trans (congrArg some (by kernel_rfl))
  f46 := ⟨Tryz.f179.name, by decide, Tryz.func179.trans (congrArg some (by kernel_rfl))⟩
  f47 := Tryz.func180.trans (congrArg some (by kernel_rfl))
  f48 := Tryz.func181.trans (congrArg some (by kernel_rfl))
  f49 := ⟨Tryz.f182.name, by decide, Tryz.func182.trans (congrArg some (by kernel_rfl))⟩
  f50 := ⟨Tryz.f183.name, by decide, Tryz.func183.trans (congrArg some (by kernel_rfl))⟩
  f57 := ⟨Tryz.f211.name, by decide, Tryz.func211.trans (congrArg some (by kernel_rfl))⟩
  t0 := Tryz.underlying0
  a0 := Tryz.isAgg0
  z0 := Tryz.sizeOf0
  v0 := Tryz.zeroValue0
  t3 := Tryz.underlying3
  a3 := Tryz.isAgg3
  z3 := Tryz.sizeOf3
  v3 := Tryz.zeroValue3
  t4 := Tryz.underlying4
  a4 := Tryz.isAgg4
  z4 := Tryz.sizeOf4
  v4 := Tryz.zeroValue4
  t5 := Tryz.underlying5
  a5 := Tryz.isAgg5
  z5 := Tryz.sizeOf5
  v5 := Tryz.zeroValue5
  t9 := Tryz.underlying9
  a9 := Tryz.isAgg9
  z9 := Tryz.sizeOf9
  v9 := Tryz.zeroValue9
  t22 := Tryz.underlying24
  a22 := Tryz.isAgg24
  z22 := Tryz.sizeOf24
  v22 := Tryz.zeroValue24
  t25 := Tryz.underlying61
  a25 := Tryz.isAgg61
  z25 := Tryz.sizeOf61
  v25 := Tryz.zeroValue61
  t39 := Tryz.underlying174
  a39 := Tryz.isAgg174
  z39 := Tryz.sizeOf174
  v39 := Tryz.zeroValue174
  t45 := Tryz.underlying195
  a45 := Tryz.isAgg195
  z45 := Tryz.sizeOf195
  v45 := Tryz.zeroValue195
  t46 := Tryz.underlying196
  a46 := Tryz.isAgg196
  z46 := Tryz.sizeOf196
  v46 := Tryz.zeroValue196
  t50 := Tryz.underlying69
  a50 := Tryz.isAgg69
  z50 := Tryz.sizeOf69
  v50 := Tryz.zeroValue69
  t53 := Tryz.underlying202
  a53 := Tryz.isAgg202
  z53 := Tryz.sizeOf202
  v53 := Tryz.zeroValue202
  t55 := Tryz.underlying204
  a55 := Tryz.isAgg204
  z55 := Tryz.sizeOf204
  v55 := Tryz.zeroValue204
  t66 := Tryz.underlying221
  a66 := Tryz.isAgg221
  z66 := Tryz.sizeOf221
  v66 := Tryz.zeroValue221
  t70 := Tryz.underlying225
  a70 := Tryz.isAgg225
  z70 := Tryz.sizeOf225
  v70 := Tryz.zeroValue225
  t76 := Tryz.underlying244
  a76 := Tryz.isAgg244
  z76 := Tryz.sizeOf244
  v76 := Tryz.zeroValue244
  t77 := Tryz.underlying245
  a77 := Tryz.isAgg245
  z77 := Tryz.sizeOf245
  v77 := Tryz.zeroValue245 }
end Go.Proofs

/- slices.SortFunc at facts, by fact.Compare: what the row holds is sorted. -/
namespace Go.Proofs.YtbohggoeebhdmaaGreatDoor
open Go.RowKit Go.Sort Go.Shelf

/-- A fact of a row, in the sort's own words. -/
structure Elem (w : World) (blk : Nat) : Type where
  n : ByteArray
  s : Value
  args : List ByteArray
  hs : Strs w s args
  hb : ∀ k, s.ownBlock = some k → args ≠ [] → k ≠ blk

def Elem.fact {w : World} {blk : Nat} (x : Elem w blk) : FactD := (x.n, x.args)
def Elem.enc {w : World} {blk : Nat} (x : Elem w blk) : List Value := [.string x.n, x.s]
def Elem.no (w : World) (blk : Nat) : Elem w blk := ⟨ByteArray.empty, .slice none 0 0, [], ⟨by simp, none, 0, rfl, fun h => absurd rfl h⟩, fun _ _ h => absurd rfl h⟩
def Elem.cmp {w : World} {blk : Nat} (x y : Elem w blk) : Int := cmpF x.fact y.fact

theorem Elem.swo (w : World) (blk : Nat) : SWO (ltOf (Elem.cmp (w := w) (blk := blk))) where
  irrefl x := by unfold ltOf Elem.cmp; rw [three_cmpF.refl]; rfl
  trans x y z h1 h2 := by
    unfold ltOf at *
    rw [decide_eq_true_eq] at *
    exact three_cmpF.trans _ _ _ h1 h2
  ntrans x y z h1 h2 := by
    unfold ltOf at *
    rw [decide_eq_false_iff_not] at *
    have := cmpF_trans0 (a := x.fact) (b := y.fact) (c := z.fact) (Int.not_lt.1 h1) (Int.not_lt.1 h2)
    exact Int.not_lt.2 this

theorem isAggF : ∀ w, (isAgg 54).run Tryz.prog w = .ok true w := Tryz.isAgg54
theorem sizeOfF : ∀ w, (Go.sizeOf 54).run Tryz.prog w = .ok 2 w := Tryz.sizeOf54
theorem enters_cmp : ∀ args w, (callFunc 30 args).run Tryz.prog w = .ok (.enter 30 args) w := enters_of Tryz.func30 (by kernel_rfl) rfl

theorem heap_sortWorld {α : Type} (inst : Inhabited α) (enc : α → List Value) (w : World) (blk off m : Nat) (d : Array α) (os : Array Obj) (k : Nat) (hk : k < w.heap.size) (hne : k ≠ blk) :
    (@sortWorldK α inst enc 2 w blk off m d os).heap[k]? = w.heap[k]? := by
  unfold sortWorldK
  rw [heap_grow_old _ _ (by rw [size_putRowK]; exact hk)]
  simp only [putRowK, putRow, mapBlock]
  rw [Array.getElem?_modify, if_neg (fun e => hne e.symm)]
  rfl

theorem size_sortWorld {α : Type} (inst : Inhabited α) (enc : α → List Value) (w : World) (blk off m : Nat) (d : Array α) (os : Array Obj) : w.heap.size ≤ (@sortWorldK α inst enc 2 w blk off m d os).heap.size := by
  unfold sortWorldK
  rw [size_grow, size_putRowK]
  exact Nat.le_add_right _ _

theorem Elem.factV {w W : World} {blk : Nat} (x : Elem w blk) (hs : w.heap.size ≤ W.heap.size) (hk : ∀ k, k < w.heap.size → k ≠ blk → W.heap[k]? = w.heap[k]?) : FactV W (.agg #[.string x.n, x.s]) x.fact := by
  refine ⟨x.s, rfl, ?_⟩
  by_cases hl : x.args = []
  · have := x.hs
    show Strs W x.s x.args
    rw [hl] at this ⊢
    exact this.nil
  · exact x.hs.kept hs fun k e => hk k (x.hs.block_lt hl k e) (x.hb k e hl)

theorem cmpLays (w : World) (blk off size : Nat) : @CmpLays (Elem w blk) ⟨Elem.no w blk⟩ Tryz.prog 30 #[] Elem.enc 2 Elem.cmp blk off size w := by
  intro m os dk hd x y
  have hs := size_sortWorld ⟨Elem.no w blk⟩ Elem.enc w blk off m dk os
  have hk := heap_sortWorld ⟨Elem.no w blk⟩ Elem.enc w blk off m dk os
  exact (compareF _ _ x.fact y.fact _ (x.factV hs hk) (y.factV hs hk)).mono fun e w' ⟨he, hw⟩ => ⟨he, hw⟩

/-- The row's elements. -/
theorem RowF.elems {w : World} {base g n cap : Nat} {l : List FactD} (h : RowF w base (.slice (some ⟨g, 0, none⟩) n cap) l) :
    g < w.heap.size ∧ base ≤ g ∧ n = l.length ∧ ∃ d : Array (Elem w g), d.toList.map Elem.fact = l ∧ @HoldsK (Elem w g) ⟨Elem.no w g⟩ Elem.enc 2 w g 0 d := by
  obtain ⟨xs, ho, hx⟩ := h
  have ho2 := ho.2
  rcases ho2 with ⟨e, _⟩ | ⟨g', cap', cur, e, hb, hg, hnc, hcm, hcs, htake⟩
  · cases e
  · simp only [Value.slice.injEq, Option.some.injEq, Addr.mk.injEq] at e
    obtain ⟨⟨rfl, _⟩, rfl, rfl⟩ := e
    have hgl : g < w.heap.size := (Array.getElem?_eq_some_iff.1 hg).1
    refine ⟨hgl, hb, rfl, ?_⟩
    have hsv : ∀ i : Fin l.length, ∃ x : Elem w g, x.fact = l.getD i noFact ∧ xs[i.1 * 2]? = some (.string x.n) ∧ xs[i.1 * 2 + 1]? = some x.s := fun i => by
      obtain ⟨c1, s, c2, c3, c4⟩ := hx i.1 i.2
      exact ⟨⟨(l.getD i noFact).1, s, (l.getD i noFact).2, c3, fun k hk ha e => by have := c4 k hk ha; omega⟩, rfl, c1, c2⟩
    refine ⟨Array.ofFn fun i => Classical.choose (hsv i), ?_, ?_⟩
    · apply List.ext_getElem
      · simp
      · intro i h1 h2
        have := (Classical.choose_spec (hsv ⟨i, h2⟩)).1
        simp only [List.getElem_map, Array.getElem_toList, Array.getElem_ofFn]
        rw [this, List.getD_eq_getElem?_getD, List.getElem?_eq_getElem h2]; rfl
    · letI : Inhabited (Elem w g) := ⟨Elem.no w g⟩
      intro j hj
      rw [size_flatK, Array.size_ofFn] at hj
      have hj2 : j / 2 < l.length := by omega
      rw [get_flatK _ _ _ _ (by rw [Array.size_ofFn]; exact hj)]
      have e1 : (Array.ofFn fun i => Classical.choose (hsv i))[j / 2]! = Classical.choose (hsv ⟨j / 2, hj2⟩) := by
        rw [getElem!_pos _ _ (by rw [Array.size_ofFn]; exact hj2), Array.getElem_ofFn]
      rw [e1]
      have sp := (Classical.choose_spec (hsv ⟨j / 2, hj2⟩)).2
      generalize Classical.choose (hsv ⟨j / 2, hj2⟩) = x at sp
      have cellOf : ∀ u, xs[j]? = some u → w.cell? ⟨g, 0 + j, none⟩ = some u := fun u hu => by
        have := ho.cells (g := g) rfl j u hu
        rwa [Addr.add_lit] at this
      refine ⟨?_, frozen_of_row _ hg⟩
      rcases Nat.mod_two_eq_zero_or_one j with hm | hm
      · rw [hm]
        refine cellOf _ ?_
        have : j / 2 * 2 = j := by omega
        rw [← this]; exact sp.1
      · rw [hm]
        refine cellOf _ ?_
        have : j / 2 * 2 + 1 = j := by omega
        rw [← this]; exact sp.2

theorem perm_of {α : Type} (inst : Inhabited α) {d d' : Array α} (h : PermIn 0 d.size d d') : d'.toList.Perm d.toList := by
  obtain ⟨h1, _, h3⟩ := h
  have e : d'.extract 0 d.size = d' := by rw [← h1]; simp
  rw [e] at h3
  simpa using h3

theorem holds_facts {w W : World} {g cap : Nat} (d : Array (Elem w g)) (hs : w.heap.size ≤ W.heap.size) (hk : ∀ k, k < w.heap.size → k ≠ g → W.heap[k]? = w.heap[k]?) (hg : g < W.heap.size) (hd : d.size ≤ 3518437208883)
    (h : @HoldsK (Elem w g) ⟨Elem.no w g⟩ Elem.enc 2 W g 0 d) : Facts W (.slice (some ⟨g, 0, none⟩) d.size cap) (d.toList.map Elem.fact) := by
  letI : Inhabited (Elem w g) := ⟨Elem.no w g⟩
  refine ⟨by simpa using hd, some ⟨g, 0, none⟩, cap, by simp, fun _ => ⟨g, 0, rfl, hg, fun i hi => ?_⟩⟩
  have hi' : i < d.size := by simpa using hi
  have c0 := (h.cell (i := i) (c := 0) hi' (by omega)).1
  have c1 := (h.cell (i := i) (c := 1) hi' (by omega)).1
  have e : d[i]! = d[i] := getElem!_pos d i hi'
  have e2 : (d.toList.map Elem.fact).getD i noFact = d[i].fact := by
    rw [List.getD_eq_getElem?_getD, List.getElem?_map]
    simp [hi']
  rw [e2]
  rw [e] at c0 c1
  obtain ⟨s, es, hs'⟩ := d[i].factV hs hk
  simp only [Value.agg.injEq] at es
  refine ⟨c0, d[i].s, c1, ?_⟩
  have e3 : d[i].fact.fst = d[i].n ∧ s = d[i].s := by simpa using es.symm
  rw [e3.2] at hs'
  exact hs'

/-- slices.SortFunc of a row of facts, by fact.Compare. -/
theorem sortF (w : World) (base : Nat) (v : Value) (l : List FactD) (h : RowF w base v l) (hl : l.length ≤ 3518437208883) :
    Calls Tryz.prog 93 #[v, .func (.func 30) #[] #[]] w fun e w' => e = .returned (.tuple #[]) ∧ ∃ l', l'.Perm l ∧ l'.Pairwise (fun a b => cmpF a b ≤ 0) ∧ Facts w' v l' ∧ Only base w.heap.size w w' := by
  rcases h.choose_spec.1.2 with ⟨rfl, e⟩ | ⟨g, cap, cur, rfl, _⟩
  · have : l = [] := List.eq_nil_of_length_eq_zero e
    subst this
    exact (AnyF.slices_SortFunc_none Tryz.sortFacts none 0 _ w).mono fun e w' ⟨he, hw⟩ => ⟨he, [], List.Perm.refl _, List.Pairwise.nil, by rw [hw]; exact ⟨by simp, none, 0, rfl, fun h => absurd rfl h⟩, by rw [hw]; exact Only.refl _ _ _⟩
  · obtain ⟨hgl, hb, _, d, hd, hH⟩ := h.elems
    letI : Inhabited (Elem w g) := ⟨Elem.no w g⟩
    have hsz : d.size = l.length := by rw [← hd]; simp
    have hc := AnyQ.slices_SortFunc Tryz.sortFacts 2 isAggF sizeOfF Elem.enc (fun _ => rfl) (fun x v hv => by
      simp [Elem.enc] at hv
      rcases hv with rfl | rfl
      · rfl
      · obtain ⟨a, c, e⟩ := sliceStr x.hs
        rw [e]; rfl) Elem.cmp (Elem.swo w g) 30 #[] g 0 cap d w enters_cmp (cmpLays w g 0 d.size) hH hgl (by omega)
    rw [hsz] at hc
    refine hc.mono ?_
    rintro e w' ⟨he, d', n, os, hp, hs, rfl⟩
    have hp' : PermIn 0 d.size d d' := by rw [hsz]; exact hp
    have hd' : d'.size = d.size := hp'.1
    have hkk := heap_sortWorld ⟨Elem.no w g⟩ Elem.enc w g 0 n d' os
    have hss := size_sortWorld ⟨Elem.no w g⟩ Elem.enc w g 0 n d' os
    refine ⟨he, d'.toList.map Elem.fact, ?_, ?_, ?_, ?_⟩
    · rw [← hd]; exact (perm_of _ hp').map _
    · rw [List.pairwise_map]
      rw [List.pairwise_iff_getElem]
      intro i j hi hj hij
      have := hs i j (Nat.zero_le _) hij (by simp at hj; omega)
      have e1 : d'[i]! = d'.toList[i] := by rw [getElem!_pos d' i (by simpa using hi)]; simp
      have e2 : d'[j]! = d'.toList[j] := by rw [getElem!_pos d' j (by simpa using hj)]; simp
      rw [e1, e2] at this
      unfold ltOf Elem.cmp at this
      rw [decide_eq_false_iff_not] at this
      have := three_cmpF.swap d'.toList[i].fact d'.toList[j].fact
      omega
    · have := holds_facts (cap := cap) d' hss hkk (Nat.lt_of_lt_of_le hgl hss) (by omega) (holdsK_sortWorldK_c Elem.enc 2 w g 0 d d' n os hH hgl hd')
      rw [hd', hsz] at this
      exact this
    · refine ⟨rfl, rfl, rfl, Nat.le_add_right _ _, hss, fun k hk ho => hkk k hk (by omega)⟩

end Go.Proofs.YtbohggoeebhdmaaGreatDoor

/- The walks of fact.rise and fact.Of. -/
namespace Go.Proofs.YtbohggoeebhdmaaGreatDoor
open Go.RowKit Go.Sort

theorem ownsSlice {w : World} {base n : Nat} {v : Value} {xs : List Value} {e : TypeId} {sz : Nat} (h : w.ownsRow base e sz v n xs) : ∃ a cap, v = .slice a n cap := by
  rcases h.2 with ⟨rfl, rfl⟩ | ⟨g, cap, cur, rfl, _⟩
  · exact ⟨none, 0, rfl⟩
  · exact ⟨_, cap, rfl⟩

set_option maxHeartbeats 400000 in
/-- fact.rise: the set of a row's facts, in memory of its own; the row is sorted where it lies. -/
theorem rise (w : World) (base : Nat) (v : Value) (l : List FactD) (h : RowF w base v l) (hl : l.length ≤ 3518437208883) :
    Calls Tryz.prog 56 #[v] w fun e w' => ∃ v' s, e = .returned v' ∧ SetOf s l ∧ OwnF w' w.heap.size v' s ∧ Only base w.heap.size w w' := by
  have hS := hide (sortF w base v l h hl)
  obtain ⟨a, cap, rfl⟩ := ownsSlice h.choose_spec.1
  clear h
  go_enter Tryz.func56, Tryz.ntmps56
  go_wp2_with fail
  refine hS.out.mono ?_
  rintro e w1 ⟨rfl, l', hp, hs, hF, hO⟩
  have hle : l'.length = l.length := hp.length_eq
  go_wp2_with fail
  refine (unlikeLast w1).mono ?_
  rintro e w2 ⟨rfl, hL2, hz2, hlast⟩
  have hK := hide (keep 132 #[.pointer (some ⟨w1.heap.size + 1, 0, none⟩), .pointer (some ⟨w1.heap.size, 0, none⟩)] enters_ul1 w1.heap.size (w1.heap.size + 2) w1 w2 (.slice a l.length cap) l' (newP l') (LastK w1 w1.heap.size l') hF hL2 (Nat.le_refl _) (by omega) (asked_ul w1 l')
    ⟨ByteArray.empty, none, 0, 0, hlast, fun h => absurd h (Nat.lt_irrefl _)⟩)
  have HL := hide hlast
  clear hlast
  go_wp2_with fail
  refine hK.out.mono ?_
  rintro e w3 ⟨v', rfl, hOw, hO3, _⟩
  have hset := pick_new hs l'.length (Nat.le_refl _)
  rw [List.take_length] at hset
  have HS := hide hset
  have HW := hide hOw
  clear hset hOw
  go_wp2
  go_ret
  have hL13 : Later w1 w3 := hO3.later hL2 (Nat.le_refl _)
  refine ⟨v', _, rfl, ⟨HS.out.1, fun f => (HS.out.2.1 f).trans hp.mem_iff, by rw [← hle]; exact HS.out.2.2⟩, ?_, hO.trans hL13.only⟩
  have hsz : w.heap.size ≤ w2.heap.size := Nat.le_trans hO.size hL2.size
  obtain ⟨xs, ho, hx⟩ := HW.out
  refine ⟨xs, ⟨ho.1, ?_⟩, fun i hi => ?_⟩
  · rcases ho.2 with e | ⟨g, cp, cur, e, hg, r⟩
    · exact Or.inl e
    · exact Or.inr ⟨g, cp, cur, e, Nat.le_trans hsz hg, r⟩
  · obtain ⟨c1, s, c2, c3, c4⟩ := hx i hi
    exact ⟨c1, s, c2, c3, fun k hk => ⟨Nat.le_trans hsz (c4 k hk).1, (c4 k hk).2⟩⟩

set_option maxHeartbeats 400000 in
/-- fact.Of: the set of a list's facts, in memory of its own. -/
theorem ofC (v : Value) (l : List FactD) (w : World) (h : Facts w v l) :
    Calls Tryz.prog 25 #[v] w fun e w' => ∃ v' s, e = .returned v' ∧ SetOf s l ∧ OwnF w' w.heap.size v' s ∧ Later w w' := by
  have hC := hide (clone v l w h)
  have hl := h.1
  obtain ⟨a, cap, rfl⟩ := sliceFacts h
  clear h
  go_enter Tryz.func25, Tryz.ntmps25
  go_wp2_with fail
  refine hC.out.mono ?_
  rintro e w1 ⟨v1, rfl, hR, hL⟩
  have hr := hide (rise w1 w.heap.size v1 l hR hl)
  obtain ⟨a1, cap1, rfl⟩ := ownsSlice hR.choose_spec.1
  clear hR
  go_wp2_with fail
  refine hr.out.mono ?_
  rintro e w2 ⟨v2, s, rfl, hs, hO, hW⟩
  have HS := hide hs
  have HO := hide hO
  clear hs hO
  go_wp2
  go_ret
  exact ⟨v2, s, rfl, HS.out, HO.out.base hL.size, hW.later hL (Nat.le_refl _)⟩

end Go.Proofs.YtbohggoeebhdmaaGreatDoor

/- A region that draws its order, step by step: an operation that yields its value in every world that meets the condition is taken first. -/
namespace Go.Proofs.YtbohggoeebhdmaaGreatDoor

theorem take_at {P : Program} {md : Region.Mode} {ops : Array Oper} {Q : Exit → Act → World → Prop} {S : World → Prop} {i : Nat} {oi : Oper} {d : Option Nat} {v : Value} {fuel : Nat} {listed : Array Bool} {a : Act} {w : World} (hi : ops[i]? = some oi) (hd : oi.dst = d)
    (hs : Region.noSelect ops = true) (hf : Region.free md ops listed i = true) (hr : (Region.ready md ops listed).contains i = true)
    (hQ : ∀ c a w, Q (.panic c) (a.put oi.dst v) w → Q (.panic c) a w) (hy : YieldsIf P ops S oi v a) (hS : S w)
    (h : wpAnyH P md ops Q S fuel (listed.setIfInBounds i true) (a.put d v) w) : wpAnyH P md ops Q S (fuel + 1) listed a w :=
  wpAnyH_take hi hs hf hr hQ hy hS (by rw [hd]; exact h)

/-- append as one of those that may come up, its run being known. -/
theorem held_append {P : Program} {md : Region.Mode} {ops : Array Oper} {Q : Exit → Act → World → Prop} {S : World → Prop} {i : Nat} {o : Oper} {d : Option Nat} {fuel : Nat} {listed : Array Bool} {a : Act} {w : World} {rs : List Nat} (ho : ops[i]? = some o) (hd : o.dst = d)
    (hg : o.guard = none) (s x : Operand) (t ty : TypeId) (hop : o.op = Op.call { callee := Callee.builtin Builtin.append, args := #[s, x], argTypes := #[t, t] }) (hty : o.type = ty)
    (v1 v2 v' : Value) (w' : World) (hs : a.eval s = v1) (hx : a.eval x = v2) (hrun : (Builtin.append_ #[t, t] ty #[v1, v2]).run P w = .ok v' w') (hS : S w')
    (h : S w' → wpAnyH P md ops Q S fuel (listed.setIfInBounds i true) (a.put d v') w') (rest : AllReadyH P md ops Q S fuel listed a w rs) : AllReadyH P md ops Q S fuel listed a w (i :: rs) :=
  AllReadyH.cons ho (fun _ hK => step_append_run hg s x t hop v1 v2 v' w' hs hx (by rw [hty]; exact hrun) (by rw [hd]; exact hK.out _ _ hS h)) rest

theorem SrcF.later {w0 w w' : World} {a : Addr} {m : List FactD} (h : SrcF w0 w a m) (k : Later w w') : SrcF w0 w' a m := by
  obtain ⟨ys, y1, y2, y3, y4⟩ := h
  exact ⟨ys, y1, fun j u hu => by
    have hc := y2 j u hu
    rw [k.cell (World.block_lt_of_cell? w _ hc)]; exact hc, y3, y4⟩

theorem SrcF.grown {w0 w w' : World} {g off : Nat} {m : List FactD} {row : Option Nat} (h : SrcF w0 w ⟨g, off, none⟩ m) (k : w.grownBy w' row) (hne : some g ≠ row) : SrcF w0 w' ⟨g, off, none⟩ m := by
  obtain ⟨ys, y1, y2, y3, y4⟩ := h
  exact ⟨ys, y1, fun j u hu => by
    have hc := y2 j u hu
    rw [Addr.add_lit] at hc ⊢
    exact k.cell hc hne, y3, y4⟩

end Go.Proofs.YtbohggoeebhdmaaGreatDoor

/- How binds lie in cells, lists of such, and rows of lists that a call owns, each in a block of its own. Nothing of the program but two types' numbers. -/
namespace Go.Proofs.YtbohggoeebhdmaaGreatDoor
open Go.RowKit Go.Sort

/-- A bind lies in two cells. -/
def bindK : Kind BindD where
  size := 2
  is := fun _ _ c b => c = [.string b.1, .string b.2]
  len := fun h => by subst h; rfl
  one := fun h u hu => by subst h; simp at hu; rcases hu with rfl | rfl <;> rfl
  kept := fun h _ _ => h
  mono := fun h _ => h

/-- A slice of such elements lies in one cell. -/
def slK {α : Type} (K : Kind α) : Kind (List α) where
  size := 1
  is := fun B w c l => ∃ v, c = [v] ∧ K.sl B w v l
  len := fun ⟨v, h, _⟩ => by subst h; rfl
  one := fun ⟨v, h, hs⟩ u hu => by
    subst h
    obtain ⟨a, cap, rfl⟩ := Kind.slice hs
    simp at hu; subst hu; rfl
  kept := fun ⟨v, h, hs⟩ h1 h2 => ⟨v, h, Kind.sl_kept hs h1 h2⟩
  mono := fun ⟨v, h, hs⟩ h1 => ⟨v, h, Kind.sl_mono hs h1⟩

/-- Lists of binds. -/
abbrev listK : Kind (List BindD) := slK bindK

/-- Rows of a call's own in worlds that turn only other blocks. -/
theorem Kind.own_kept {α : Type} {K : Kind α} {ty : TypeId} {lo : Nat} {w w' : World} {v : Value} {l : List α} (h : K.own ty lo w v l) (hs : w.heap.size ≤ w'.heap.size) (hk : ∀ k, k < w.heap.size → lo ≤ k → w'.heap[k]? = w.heap[k]?) : K.own ty lo w' v l := by
  obtain ⟨xs, ho, hx⟩ := h
  refine ⟨xs, ⟨ho.1, ?_⟩, fun i x hi => ?_⟩
  · rcases ho.2 with e | ⟨g, cap, cur, rfl, hbg, hg, r⟩
    · exact Or.inl e
    · exact Or.inr ⟨g, cap, cur, rfl, hbg, by rw [hk g (Array.getElem?_eq_some_iff.1 hg).1 hbg]; exact hg, r⟩
  · obtain ⟨c, c1, c2⟩ := hx i x hi
    exact ⟨c, K.kept c1 hs fun j hj hB => hk j hj hB.1, c2⟩

/-- A row of binds hangs on its one block alone. -/
theorem own_block {ty : TypeId} {lo : Nat} {w w' : World} {v : Value} {l : List BindD} (h : bindK.own ty lo w v l) (hk : ∀ k, v.ownBlock = some k → w'.heap[k]? = w.heap[k]?) : bindK.own ty lo w' v l := by
  obtain ⟨xs, ho, hx⟩ := h
  refine ⟨xs, ⟨ho.1, ?_⟩, hx⟩
  rcases ho.2 with e | ⟨g, cap, cur, rfl, hbg, hg, r⟩
  · exact Or.inl e
  · exact Or.inr ⟨g, cap, cur, rfl, hbg, by rw [hk g rfl]; exact hg, r⟩

theorem own_base {ty : TypeId} {lo lo' : Nat} {w : World} {v : Value} {l : List BindD} (h : bindK.own ty lo w v l) (hl : lo' ≤ lo) : bindK.own ty lo' w v l := by
  obtain ⟨xs, ho, hx⟩ := h
  refine ⟨xs, ⟨ho.1, ?_⟩, hx⟩
  rcases ho.2 with e | ⟨g, cap, cur, rfl, hbg, r⟩
  · exact Or.inl e
  · exact Or.inr ⟨g, cap, cur, rfl, by omega, r⟩

/-- A list's block, if there is one. -/
abbrev ofBlock (v : Value) : Nat → Prop := fun k => v.ownBlock = some k

theorem own_in {ty : TypeId} {lo : Nat} {w : World} {v : Value} {l : List BindD} (h : bindK.own ty lo w v l) (hl : l.length ≤ 8796093022208) : bindK.sl (ofBlock v) w v l := by
  obtain ⟨xs, ho, hx⟩ := h
  rcases ho.2 with ⟨rfl, e⟩ | ⟨g, cap, cur, rfl, hbg, hg, hnc, _⟩
  · have : l = [] := List.eq_nil_of_length_eq_zero e
    subst this
    exact bindK.sl_nil _ _ _ _
  · refine ⟨⟨hl, hnc⟩, _, cap, rfl, fun _ => ⟨g, 0, rfl, rfl, (Array.getElem?_eq_some_iff.1 hg).1, fun i x hi => ?_⟩⟩
    obtain ⟨c, c1, c2⟩ := hx i x hi
    refine ⟨c, c1, fun j u hu => ?_⟩
    have := ho.cells (g := g) rfl _ u (c2 j u hu)
    rw [Addr.add_lit] at this
    rw [Nat.add_assoc]; exact this

/-- Two lists lie apart. -/
def apart (u u' : Value) : Prop := ∀ k, u.ownBlock = some k → u'.ownBlock ≠ some k

theorem apart.symm {u u' : Value} (h : apart u u') : apart u' u := fun k h1 h2 => h k h2 h1

/-- A row of lists that a call owns, each in a block of its own; what each is, and where it lies. -/
def Lists (tyS ty : TypeId) (lo : Nat) (w : World) (v : Value) (ps : List (Value × List BindD)) : Prop :=
  w.ownsRow lo tyS 1 v ps.length (ps.map (·.1)) ∧ (∀ p ∈ ps, bindK.own ty lo w p.1 p.2 ∧ apart p.1 v) ∧ ps.Pairwise fun p q => apart p.1 q.1

theorem Lists.nil (tyS ty : TypeId) (lo : Nat) (w : World) : Lists tyS ty lo w (.slice none 0 0) [] := ⟨World.ownsRow_nil w lo tyS 1, fun p hp => by simp at hp, List.Pairwise.nil⟩

theorem Lists.kept {tyS ty : TypeId} {lo : Nat} {w w' : World} {v : Value} {ps : List (Value × List BindD)} (h : Lists tyS ty lo w v ps) (hk : ∀ k, k < w.heap.size → lo ≤ k → w'.heap[k]? = w.heap[k]?) : Lists tyS ty lo w' v ps := by
  obtain ⟨ho, hp, ha⟩ := h
  refine ⟨⟨ho.1, ?_⟩, fun p h1 => ⟨own_block (hp p h1).1 fun k e => ?_, (hp p h1).2⟩, ha⟩
  · rcases ho.2 with e | ⟨g, cap, cur, rfl, hbg, hg, r⟩
    · exact Or.inl e
    · exact Or.inr ⟨g, cap, cur, rfl, hbg, by rw [hk g (Array.getElem?_eq_some_iff.1 hg).1 hbg]; exact hg, r⟩
  · have := Kind.own_lt (hp p h1).1 e
    exact hk k this.2 this.1

theorem Lists.later {tyS ty : TypeId} {lo : Nat} {w w' : World} {v : Value} {ps : List (Value × List BindD)} (h : Lists tyS ty lo w v ps) (k : Later w w') : Lists tyS ty lo w' v ps := h.kept fun _ hi _ => k.block hi

theorem Lists.slice {tyS ty : TypeId} {lo : Nat} {w : World} {v : Value} {ps : List (Value × List BindD)} (h : Lists tyS ty lo w v ps) : ∃ a cap, v = .slice a ps.length cap := by
  rcases h.1.2 with ⟨rfl, e⟩ | ⟨g, cap, cur, rfl, _⟩
  · exact ⟨none, 0, by rw [e]⟩
  · exact ⟨_, cap, rfl⟩

/-- Read. -/
theorem Lists.sl {tyS ty : TypeId} {lo : Nat} {w : World} {v : Value} {ps : List (Value × List BindD)} (h : Lists tyS ty lo w v ps) (hl : ps.length ≤ 8796093022208) (hs : ∀ p ∈ ps, p.2.length ≤ 8796093022208) : listK.sl (From lo) w v (ps.map (·.2)) := by
  obtain ⟨ho, hp, _⟩ := h
  rcases ho.2 with ⟨rfl, e⟩ | ⟨g, cap, cur, rfl, hbg, hg, hnc, _⟩
  · have : ps = [] := List.eq_nil_of_length_eq_zero e
    subst this
    exact listK.sl_nil _ _ _ _
  · refine ⟨⟨by simpa using hl, hnc⟩, _, cap, by simp, fun _ => ⟨g, 0, rfl, hbg, (Array.getElem?_eq_some_iff.1 hg).1, fun i x hi => ?_⟩⟩
    rw [List.getElem?_map] at hi
    cases e : ps[i]? with
    | none => rw [e] at hi; cases hi
    | some p =>
      rw [e] at hi
      cases hi
      have hpm := List.mem_of_getElem? e
      refine ⟨[p.1], ⟨p.1, rfl, Kind.own_sl (hp p hpm).1 (hs p hpm)⟩, fun j u hu => ?_⟩
      cases j with
      | succ j => simp at hu
      | zero =>
        simp at hu
        subst hu
        have := ho.cells (g := g) rfl i p.1 (by rw [List.getElem?_map, e]; rfl)
        rw [Addr.add_lit] at this
        show w.cell? ⟨g, 0 + i * 1 + 0, none⟩ = _
        rw [Nat.mul_one, Nat.add_zero]; exact this

end Go.Proofs.YtbohggoeebhdmaaGreatDoor

/- The walks of match.Get, match.worth and what they call. -/
namespace Go.Proofs.YtbohggoeebhdmaaGreatDoor
open Go.RowKit Go.Sort

theorem eq_list {a b : ByteArray} : (a.toList == b.toList) = decide (a = b) := by
  rw [Bool.eq_iff_iff]
  simp only [beq_iff_eq, decide_eq_true_eq]
  exact ⟨toList_inj, fun h => by rw [h]⟩

set_option maxHeartbeats 400000 in
theorem get1 (b1 b2 v : ByteArray) (c : Nat) (w : World) (hc : w.cell? ⟨c, 0, none⟩ = some (.string v)) (hb : c < w.heap.size) :
    Calls Tryz.prog 110 #[.agg #[.string b1, .string b2], .pointer (some ⟨c, 0, none⟩)] w fun e w' => e = .returned (.bool (decide (b1 = v))) ∧ Later w w' := by
  have E := hide (eq_list (a := b1) (b := v))
  go_enter Tryz.func110, Tryz.ntmps110
  go_wp2
  go_ret
  exact ⟨ret_bool E.out, (by repeat (first | exact Later.refl _ | assumption | refine Later.drewN ?_ _ | refine Later.drew ?_ | refine Later.alloc ?_ _ | refine Later.grow ?_ _))⟩

theorem getB_drop {l : List BindD} {k : Nat} {b : BindD} (h : l[k]? = some b) (v : ByteArray) : getB (l.drop k) v = if b.1 = v then some b.2 else getB (l.drop (k + 1)) v := by
  obtain ⟨h1, e1⟩ := List.getElem?_eq_some_iff.1 h
  rw [List.drop_eq_getElem_cons h1, e1]; rfl

set_option maxHeartbeats 1000000 in
/-- slices.IndexFunc at binds, asked for a variable. -/
theorem indexBind (u : Value) (l : List BindD) (v : ByteArray) (c : Nat) (w : World) (hu : bindK.sl Anyw w u l) (hc : w.cell? ⟨c, 0, none⟩ = some (.string v)) (hb : c < w.heap.size) :
    Calls Tryz.prog 109 #[u, .func (.func 110) #[] #[.pointer (some ⟨c, 0, none⟩)]] w fun e w' => ∃ n : Int, e = .returned (.int .i64 n) ∧ ((n = -1 ∧ getB l v = none) ∨ ∃ k b, n = (k : Nat) ∧ l[k]? = some b ∧ getB l v = some b.2) ∧ Later w w' := by
  obtain ⟨a, cap, rfl⟩ := Kind.slice hu
  have hl := hu.1.1
  have HU := hide hu
  have HC : Hid (∀ w' b1 b2, Later w w' → Calls Tryz.prog 110 #[.agg #[.string b1, .string b2], .pointer (some ⟨c, 0, none⟩)] w' fun e w'' => e = .returned (.bool (decide (b1 = v))) ∧ Hid (Later w w'')) := fun w' b1 b2 hL =>
    (get1 b1 b2 v c w' (by rw [hL.cell hb]; exact hc) (Nat.lt_of_lt_of_le hb hL.size)).mono fun e w'' ⟨he, hL2⟩ => ⟨he, hL.trans hL2⟩
  clear hu hc hb
  go_enter Tryz.func109, Tryz.ntmps109
  go_wp2
  go_loopg [8] l.length (fun g i wr => ∃ k : Nat, k + g = l.length ∧ i = .int .i64 k ∧ Hid (getB l v = getB (l.drop k) v) ∧ Hid (Later w wr))
  case atStart => exact ⟨0, by omega, rfl, (rfl : _ = _), Later.refl _⟩
  case round =>
    obtain ⟨k, hk, rfl, HE, HL⟩ := hrel
    by_cases hlt : k < l.length
    · obtain ⟨b, hx⟩ : ∃ x, l[k]? = some x := ⟨_, List.getElem?_eq_getElem hlt⟩
      obtain ⟨b1, o1, _, rfl, hb1, rfl, hcl⟩ := Kind.sl_at HU.out hx
      have d0 : wr.cell? ⟨b1, o1 + k * 2, none⟩ = some (.string b.1) := by rw [HL.out.cell hb1]; exact hcl 0 _ rfl
      have d1 : wr.cell? ⟨b1, o1 + k * 2 + 1, none⟩ = some (.string b.2) := by rw [HL.out.cell hb1]; exact hcl 1 _ rfl
      have hbr : b1 < wr.heap.size := Nat.lt_of_lt_of_le hb1 HL.out.size
      have HD := hide (getB_drop hx v)
      have HX := hide hx
      have HCk := hide (HC.out wr b.1 b.2 HL.out)
      clear hcl hx
      obtain ⟨bv, bn⟩ := b
      dsimp only at *
      by_cases hq : bv = v
      · have hq' : decide (bv = v) = true := by simpa using hq
        have F : Hid (getB l v = some bn) := by show _ = _; rw [HE.out, HD.out, if_pos hq]
        rw [hq'] at HCk
        clear hq hq' HD HE
        go_wp2_with (go_at_call 110; refine HCk.out.mono ?_; rintro e w2 ⟨rfl, hL2⟩)
        go_ret
        exact ⟨_, rfl, Or.inr ⟨k, (bv, bn), rfl, HX.out, F.out⟩, hL2.out⟩
      · have hq' : decide (bv = v) = false := by simpa using hq
        have F : Hid (getB l v = getB (l.drop (k + 1)) v) := by show _ = _; rw [HE.out, HD.out, if_neg hq]
        rw [hq'] at HCk
        clear hq hq' HD HE
        go_wp2_with (go_at_call 110; refine HCk.out.mono ?_; rintro e w2 ⟨rfl, hL2⟩)
        go_roundg (l.length - (k + 1))
        case measure => omega
        case rel => exact ⟨k + 1, by omega, by go_num, F, hL2⟩
    · have F : Hid (getB l v = none) := by show _ = _; rw [HE.out, List.drop_eq_nil_of_le (by omega)]; rfl
      go_wp2
      go_ret
      exact ⟨_, rfl, Or.inl ⟨rfl, F.out⟩, HL.out⟩

/-- What a look-up tells. -/
def toldV (x : Option ByteArray) : Value := .tuple #[.string (x.getD ByteArray.empty), .bool x.isSome]

set_option maxHeartbeats 1000000 in
theorem getC (u : Value) (l : List BindD) (v : ByteArray) (w : World) (hu : bindK.sl Anyw w u l) : Calls Tryz.prog 62 #[u, .string v] w fun e w' => e = .returned (toldV (getB l v)) ∧ Later w w' := by
  have HI := hide (indexBind u l v w.heap.size (w.alloc (.cells #[.string v] 9)) (Kind.sl_later hu ((Later.refl _).alloc _)) (by simp) (by simp))
  have HU := hide hu
  obtain ⟨a, cap, rfl⟩ := Kind.slice hu
  clear hu
  go_enter Tryz.func62, Tryz.ntmps62
  go_wp2_with fail
  refine HI.out.mono ?_
  rintro e w2 ⟨n, rfl, h, hL⟩
  have HL := hide (((Later.refl w).alloc (.cells #[.string v] 9)).trans hL)
  clear hL HI
  rcases h with ⟨rfl, h⟩ | ⟨k, b, rfl, hk, h⟩
  · have H := hide h
    clear h
    go_wp2
    go_ret2
    exact ⟨by rw [H.out]; rfl, HL.out⟩
  · obtain ⟨b1, o1, _, rfl, hb1, rfl, hcl⟩ := Kind.sl_at HU.out hk
    have d1 : w2.cell? ⟨b1, o1 + k * 2 + 1, none⟩ = some (.string b.2) := by rw [HL.out.cell hb1]; exact hcl 1 _ rfl
    have hbr : b1 < w2.heap.size := Nat.lt_of_lt_of_le hb1 HL.out.size
    have hkl : k < l.length := (List.getElem?_eq_some_iff.1 hk).1
    have hkz : (k : Int) < (l.length : Int) := by omega
    have hk0 : ¬ (k : Int) < 0 := by omega
    have H := hide h
    clear h hcl hk
    go_wp2
    go_ret2
    exact ⟨by rw [H.out]; rfl, HL.out⟩

/-- What is asked of a closure that tells what variables stand for. -/
def Tells (g : Nat) (cb : Array Value) (l : List BindD) (w0 : World) : Prop := ∀ w v, Later w0 w → Calls Tryz.prog g (#[.string v] ++ cb) w fun e w' => e = .returned (toldV (getB l v)) ∧ Later w w'

set_option maxHeartbeats 1000000 in
theorem worthC (g : Nat) (cb : Array Value) (eg : ∀ args w, (callFunc g args).run Tryz.prog w = .ok (.enter g args) w) (t : TermD) (l : List BindD) (w0 w : World) (h : Tells g cb l w0) (hL : Later w0 w) :
    Calls Tryz.prog 63 #[.agg #[.bool t.1, .string (bs t.2)], .func (.func g) #[] cb] w fun e w' => e = .returned (toldV (worthB l t)) ∧ Later w w' := by
  obtain ⟨t1, t2⟩ := t
  cases t1
  · show Calls _ _ _ _ fun e w' => e = .returned (toldV (some (bs t2))) ∧ _
    dsimp only
    generalize bs t2 = k
    clear h
    go_enter Tryz.func63, Tryz.ntmps63
    go_wp2
    go_ret2
    exact ⟨rfl, (by repeat (first | exact Later.refl _ | assumption | refine Later.drewN ?_ _ | refine Later.drew ?_ | refine Later.alloc ?_ _ | refine Later.grow ?_ _))⟩
  · show Calls _ _ _ _ fun e w' => e = .returned (toldV (getB l (bs t2))) ∧ _
    dsimp only
    generalize bs t2 = k
    have HT := hide (h (w.alloc (.cells #[.bool true, .string k] 101)) k (hL.alloc _))
    clear h
    unfold toldV at HT ⊢
    generalize (getB l k).getD ByteArray.empty = s at *
    generalize (getB l k).isSome = b at *
    go_enter Tryz.func63, Tryz.ntmps63
    go_wp2_with fail
    refine HT.out.mono ?_
    rintro e w2 ⟨rfl, hL2⟩
    have HL2 := hide (((Later.refl w).alloc (.cells #[.bool true, .string k] 101)).trans hL2)
    clear hL2 HT
    go_wp2
    go_ret2
    exact ⟨rfl, HL2.out⟩

end Go.Proofs.YtbohggoeebhdmaaGreatDoor

/- The walk of match.Fill. -/
namespace Go.Proofs.YtbohggoeebhdmaaGreatDoor
open Go.RowKit Go.Sort

/-- A text, as it is, lies in one cell. -/
def bsK : Kind ByteArray where
  size := 1
  is := fun _ _ c t => c = [.string t]
  len := fun h => by subst h; rfl
  one := fun h u hu => by subst h; simp at hu; subst hu; rfl
  kept := fun h _ _ => h
  mono := fun h _ => h

/-- append of one element more, in a block of its own: with draws, and where the row lies then. -/
theorem Kind.own_more {α : Type} {P : Program} {K : Kind α} {t ty : TypeId} {lo bytes : Nat} {w : World} {v : Value} {l : List α} (h : K.own ty lo w v l) {i : TypeInfo} {z : Value}
    (ht : P.underlying t = some (.slice ty)) (hi : P.info? ty = some i) (hz : i.zero = some z) (hsize : i.size = K.size) (hby : i.bytes = bytes) (hzs : z.cells.size = K.size) (hsz : 0 < K.size)
    {c : List Value} {x : α} (hc : K.is (fun k => lo ≤ k ∧ v.ownBlock ≠ some k) w c x) (hl : (l.length + 1) * bytes ≤ 140737488355328) (hl2 : l.length + 1 ≤ maxLen) (hlo : lo ≤ w.heap.size) :
    ∃ v' w', (Builtin.append_ #[t, t] t #[v, .slice (some ⟨w.heap.size, 0, none⟩) 1 1]).run P (w.alloc (.cells c.toArray ty)) = .ok v' w' ∧ K.own ty lo w' v' (l ++ [x]) ∧ (w.alloc (.cells c.toArray ty)).grownBy w' v.ownBlock ∧ w.drawn ≤ w'.drawn ∧
      ∀ k, v'.ownBlock = some k → v.ownBlock = some k ∨ w.heap.size < k := by
  obtain ⟨xs, ho, hx⟩ := h
  have hcl := K.len hc
  have hnews : ∀ j u, c[j]? = some u → (w.alloc (.cells c.toArray ty)).cell? ((⟨w.heap.size, 0, none⟩ : Addr).add j) = some u := by
    intro j u hu
    rw [Addr.add_lit, Nat.zero_add, cell_of_row _ w.heap.size j c.toArray ty (0, 0) (heap_alloc_new w _)]
    simpa using hu
  obtain ⟨v', w', hrun, r1, r2, r3, r4⟩ := append_own (P := P) (w.alloc (.cells c.toArray ty)) lo t t ty i z K.size bytes ht hi hz hsize hby hzs hsz v l.length xs (ho.alloc _) ⟨w.heap.size, 0, none⟩ 1 1 c (by rw [hcl]; simp) hnews
    (K.one hc) hl2 hl (by simp; omega)
  have hxl : xs.length = l.length * K.size := ho.1
  have own' : ∀ k, v'.ownBlock = some k → v.ownBlock = some k ∨ w.heap.size < k := fun k e => by
    rcases r4 k e with e | e
    · exact Or.inl e
    · simp at e; exact Or.inr (by omega)
  have keep : ∀ k, k < w.heap.size → (lo ≤ k ∧ v.ownBlock ≠ some k) → w'.heap[k]? = w.heap[k]? := fun k hk hB =>
    (r2.block k (by simp; omega) (fun e => hB.2 e.symm)).trans (Below.heap_alloc w _ k hk)
  have hsz' : w.heap.size ≤ w'.heap.size := Nat.le_trans (by simp) r2.size
  have move : ∀ {c : List Value} {y : α}, K.is (fun k => lo ≤ k ∧ v.ownBlock ≠ some k) w c y → K.is (fun k => lo ≤ k ∧ v'.ownBlock ≠ some k) w' c y := fun {c y} hy =>
    K.kept (K.mono hy fun k hk hB => (⟨⟨hB.1, fun e => by rcases own' k e with e | e; exact hB.2 e; omega⟩, hB⟩ : (lo ≤ k ∧ v'.ownBlock ≠ some k) ∧ (lo ≤ k ∧ v.ownBlock ≠ some k))) hsz' (fun k hk hB => keep k hk hB.2) |> fun h => K.mono h fun _ _ hB => hB.1
  refine ⟨v', w', hrun, ⟨xs ++ c, by simpa using r1, fun j y hj => ?_⟩, r2, r3, own'⟩
  by_cases hjl : j < l.length
  · rw [List.getElem?_append_left hjl] at hj
    obtain ⟨d, d1, d2⟩ := hx j y hj
    refine ⟨d, move d1, fun q u hu => ?_⟩
    have := d2 q u hu
    rw [List.getElem?_append_left (List.getElem?_eq_some_iff.1 this).1]; exact this
  · rw [List.getElem?_append_right (by omega)] at hj
    have hj' : j = l.length := by
      have := (List.getElem?_eq_some_iff.1 hj).1
      simp at this; omega
    subst hj'
    simp at hj
    subst hj
    refine ⟨c, move hc, fun q u hu => ?_⟩
    rw [List.getElem?_append_right (by omega), hxl, Nat.add_sub_cancel_left]; exact hu

/-- A world behind such an append. -/
theorem Later.more {w0 w w' : World} {v : Value} {o : Obj} (h : Later w0 w) (hg : (w.alloc o).grownBy w' v.ownBlock) (hd : w.drawn ≤ w'.drawn) (hv : ∀ k, v.ownBlock = some k → w0.heap.size ≤ k) : Later w0 w' :=
  Later.of_below ((h.alloc o).below.grown hg (h.alloc o).size hv) (Nat.le_trans h.drawn hd)

theorem bsK_strs {lo : Nat} {w : World} {v : Value} {l : List ByteArray} (h : bsK.own 9 lo w v l) (hl : l.length ≤ 8796093022208) : Strs w v l := by
  obtain ⟨⟨h0, _⟩, a, cap, rfl, h1⟩ := Kind.own_sl h hl
  refine ⟨h0, a, cap, rfl, fun hne => ?_⟩
  obtain ⟨b, off, rfl, _, hb, hc⟩ := h1 hne
  refine ⟨b, off, rfl, hb, fun i hi => ?_⟩
  obtain ⟨c, rfl, c2⟩ := hc i _ (List.getElem?_eq_getElem hi)
  have := c2 0 _ rfl
  rw [List.getD_eq_getElem?_getD, List.getElem?_eq_getElem hi]
  simpa [bsK] using this

theorem appendArg {lo : Nat} {w : World} {v : Value} {l : List ByteArray} (h : bsK.own 9 lo w v l) (x : ByteArray) (hl : l.length + 1 ≤ 8796093022208) (hlo : lo ≤ w.heap.size) :
    ∃ v' w', (Builtin.append_ #[52, 52] 52 #[v, .slice (some ⟨w.heap.size, 0, none⟩) 1 1]).run Tryz.prog (w.alloc (.cells #[.string x] 9)) = .ok v' w' ∧ bsK.own 9 lo w' v' (l ++ [x]) ∧ (w.alloc (.cells #[.string x] 9)).grownBy w' v.ownBlock ∧ w.drawn ≤ w'.drawn ∧
      ∀ k, v'.ownBlock = some k → v.ownBlock = some k ∨ w.heap.size < k := by
  obtain ⟨i, i1, i2, i3, i4⟩ := infoStr
  exact Kind.own_more h Tryz.underlying52 i1 i2 i3 i4 rfl (by decide) (c := [.string x]) rfl (by omega) (by simp [maxLen]; omega) hlo

theorem enters_fill1 : ∀ args w, (callFunc 61 args).run Tryz.prog w = .ok (.enter 61 args) w := enters_of Tryz.func61 (by kernel_rfl) rfl

set_option maxHeartbeats 400000 in
theorem tellsFill (c : Nat) (u : Value) (l : List BindD) (w0 : World) (hc : w0.cell? ⟨c, 0, none⟩ = some u) (hb : c < w0.heap.size) (hu : bindK.sl Anyw w0 u l) : Tells 61 #[.pointer (some ⟨c, 0, none⟩)] l w0 := by
  intro w v hL
  have HG := hide (getC u l v w (Kind.sl_later hu hL))
  have hc' : w.cell? ⟨c, 0, none⟩ = some u := by rw [hL.cell hb]; exact hc
  have hb' : c < w.heap.size := Nat.lt_of_lt_of_le hb hL.size
  obtain ⟨a, cap, rfl⟩ := Kind.slice hu
  clear hu hc hb hL
  unfold toldV at HG ⊢
  generalize (getB l v).getD ByteArray.empty = s at *
  generalize (getB l v).isSome = b at *
  show Calls _ _ #[.string v, .pointer (some ⟨c, 0, none⟩)] _ _
  go_enter Tryz.func61, Tryz.ntmps61
  go_wp2_with (go_at_call 62; refine HG.out.mono ?_; rintro e w2 ⟨rfl, hL2⟩; replace hL2 := hide hL2)
  go_ret2
  exact ⟨rfl, unhide hL2⟩

theorem fillArgs_step {l : List BindD} {ts : List TermD} {j : Nat} {t : TermD} {r : List ByteArray} (h : ts[j]? = some t) (hr : fillArgs l (ts.take j) = some r) :
    fillArgs l (ts.take (j + 1)) = (worthB l t).map fun s => r ++ [s] := by
  have gen : ∀ (q : List TermD) (r : List ByteArray), fillArgs l q = some r → fillArgs l (q ++ [t]) = (worthB l t).map fun s => r ++ [s] := by
    intro q
    induction q with
    | nil =>
      intro r hr
      cases hr
      simp only [List.nil_append, fillArgs]
      cases worthB l t <;> rfl
    | cons x q ih =>
      intro r hr
      simp only [List.cons_append, fillArgs] at hr ⊢
      cases e : worthB l x with
      | none => rw [e] at hr; cases hr
      | some s =>
        rw [e] at hr
        dsimp only at hr ⊢
        cases e2 : fillArgs l q with
        | none => rw [e2] at hr; cases hr
        | some r' =>
          rw [e2] at hr
          cases hr
          rw [ih r' e2]
          cases worthB l t <;> rfl
  rw [List.take_add_one, h]
  exact gen _ r hr

theorem fillArgs_none {l : List BindD} : ∀ {ts q : List TermD}, fillArgs l ts = none → fillArgs l (ts ++ q) = none
  | [], _, h => by cases h
  | t :: ts, q, h => by
    simp only [List.cons_append, fillArgs] at h ⊢
    cases e : worthB l t with
    | none => rfl
    | some s =>
      rw [e] at h
      dsimp only at h ⊢
      cases e2 : fillArgs l ts with
      | none => rw [fillArgs_none e2]
      | some r => rw [e2] at h; cases h

theorem fillArgs_stop {l : List BindD} {ts : List TermD} {j : Nat} (h : fillArgs l (ts.take j) = none) : fillArgs l ts = none := by
  have := fillArgs_none (q := ts.drop j) h
  rwa [List.take_append_drop] at this

/-- What Fill tells. -/
def filled (a : AtomD) (l : List BindD) : FactD := (fillB a l).getD noFact

theorem heap_at (w : World) (o : Obj) (k : Nat) : (w.alloc o).heap[k]? = if k = w.heap.size then some o else w.heap[k]? := by
  split
  · rename_i h; subst h; exact heap_alloc_new w o
  · rename_i h
    by_cases hk : k < w.heap.size
    · exact Below.heap_alloc w o k hk
    · rw [Array.getElem?_eq_none (by simp; omega), Array.getElem?_eq_none (by omega)]

/-- A block of one cell, of two. -/
theorem row1 {w : World} {R : Nat} {u0 : Value} {t : TypeId} (h : w.heap[R]? = some (.cells #[u0] t (0, 0))) : w.cell? ⟨R, 0, none⟩ = some u0 ∧ w.frozen? ⟨R, 0, none⟩ = false ∧ R < w.heap.size :=
  ⟨by rw [cell_of_row _ _ _ _ _ _ h]; rfl, by simp [World.frozen?, h], (Array.getElem?_eq_some_iff.1 h).1⟩
theorem row2 {w : World} {R : Nat} {u0 u1 : Value} {t : TypeId} (h : w.heap[R]? = some (.cells #[u0, u1] t (0, 0))) : w.cell? ⟨R, 0, none⟩ = some u0 ∧ w.cell? ⟨R, 1, none⟩ = some u1 ∧ w.frozen? ⟨R, 0, none⟩ = false ∧ w.frozen? ⟨R, 1, none⟩ = false ∧ R < w.heap.size :=
  ⟨by rw [cell_of_row _ _ _ _ _ _ h]; rfl, by rw [cell_of_row _ _ _ _ _ _ h]; rfl, by simp [World.frozen?, h], by simp [World.frozen?, h], (Array.getElem?_eq_some_iff.1 h).1⟩
theorem set_at {w : World} {g j : Nat} {cs : Array Value} {t : TypeId} {fr : Nat × Nat} (h : w.heap[g]? = some (.cells cs t fr)) (u : Value) : (w.setCell ⟨g, j, none⟩ u).heap[g]? = some (.cells (cs.setIfInBounds j u) t fr) := by
  simp [World.setCell, Array.getElem?_modify, h]
theorem set_two {w : World} {R : Nat} {u0 u1 : Value} {t : TypeId} {fr : Nat × Nat} (h : w.heap[R]? = some (.cells #[u0, u1] t fr)) (x y : Value) :
    ((w.setCell ⟨R, 0, none⟩ x).setCell ⟨R, 1, none⟩ y).cell? ⟨R, 0, none⟩ = some x ∧ ((w.setCell ⟨R, 0, none⟩ x).setCell ⟨R, 1, none⟩ y).cell? ⟨R, 1, none⟩ = some y := by
  have h2 := set_at (j := 1) (set_at (j := 0) h x) y
  exact ⟨by rw [cell_of_row _ _ _ _ _ _ h2]; rfl, by rw [cell_of_row _ _ _ _ _ _ h2]; rfl⟩

theorem factV_kept {w w' : World} {n : ByteArray} {s : Value} {r : List ByteArray} {lo : Nat} (h : bsK.own 9 lo w s r) (hl : r.length ≤ 8796093022208) (hk : ∀ k, lo ≤ k → w'.heap[k]? = w.heap[k]?) (hs : w.heap.size ≤ w'.heap.size) : FactV w' (.agg #[.string n, s]) (n, r) :=
  ⟨s, rfl, bsK_strs (Kind.own_kept h hs fun k _ hlo => hk k hlo) hl⟩

set_option maxRecDepth 100000 in
set_option maxHeartbeats 2000000 in
theorem fillC (a : AtomD) (tv u : Value) (l : List BindD) (w : World) (ht : termK.sl Anyw w tv a.terms) (hu : bindK.sl Anyw w u l) :
    Calls Tryz.prog 29 #[.agg #[.bool a.no, .string (bs a.name), tv], u] w fun e w' => ∃ v, e = .returned (.tuple #[v, .bool (fillB a l).isSome]) ∧ FactV w' v (filled a l) ∧ Later w w' := by
  obtain ⟨sa, cap, rfl⟩ := Kind.slice ht
  obtain ⟨sb, capb, rfl⟩ := Kind.slice hu
  have HT := hide ht
  have HU := hide hu
  have hn := ht.1.1
  clear ht hu
  obtain ⟨no, name, ts⟩ := a
  dsimp only at *
  have F : Hid (∀ r, fillArgs l ts = r → fillB ⟨no, name, ts⟩ l = r.map fun x => (bs name, x)) := fun r h => by unfold fillB; rw [h]; cases r <;> rfl
  unfold filled
  generalize hfb : fillB ⟨no, name, ts⟩ l = fb at *
  clear hfb
  generalize bs name = nm at *
  go_enter Tryz.func29, Tryz.ntmps29
  go_wp2
  go_loopg [19] ts.length (fun g i wr => ∃ j : Nat, j + g = ts.length ∧ i = .int .i64 j ∧ ∃ r o, Hid (fillArgs l (ts.take j) = some r) ∧ Hid (bsK.own 9 (w.heap.size + 4) wr o r) ∧ Hid (r.length = j) ∧ Hid (Later w wr) ∧ w.heap.size + 4 ≤ wr.heap.size ∧
    Hid (wr.heap[w.heap.size + 1]? = some (.cells #[.slice sb l.length capb] 58 (0, 0))) ∧ Hid (wr.heap[w.heap.size + 2]? = some (.cells #[.string { data := #[] }, .slice none 0 0] 54 (0, 0))) ∧ Hid (wr.heap[w.heap.size + 3]? = some (.cells #[.string nm, o] 54 (0, 0))))
  case atStart =>
    refine ⟨0, by omega, rfl, [], .slice none 0 0, (rfl : _ = _), bsK.own_nil _ _ _, (rfl : _ = _), ((by repeat (first | exact Later.refl _ | assumption | refine Later.drewN ?_ _ | refine Later.drew ?_ | refine Later.alloc ?_ _ | refine Later.grow ?_ _)) : Later _ _), by simp, ?_, ?_, ?_⟩
    all_goals
      show _ = _
      simp only [heap_at, World.size_alloc]
      repeat (first | rw [if_pos trivial] | rw [if_pos (by omega)] | rw [if_neg (by omega)])
  case round =>
    obtain ⟨j, hj, rfl, r, o, HR, HO, hrl, HL, hsz, H1, H2, H3⟩ := hrel
    obtain ⟨ao, co, rfl⟩ := Kind.own_slice HO.out
    by_cases hlt : j < ts.length
    · obtain ⟨x, hx⟩ : ∃ x, ts[j]? = some x := ⟨_, List.getElem?_eq_getElem hlt⟩
      obtain ⟨b1, o1, _, rfl, hb1, rfl, hc⟩ := Kind.sl_at HT.out hx
      have d0 : wr.cell? ⟨b1, o1 + j * 2, none⟩ = some (.bool x.1) := by rw [HL.out.cell hb1]; exact hc 0 _ rfl
      have d1 : wr.cell? ⟨b1, o1 + j * 2 + 1, none⟩ = some (.string (bs x.2)) := by rw [HL.out.cell hb1]; exact hc 1 _ rfl
      have hbr : b1 < wr.heap.size := by omega
      have HS := hide (fillArgs_step hx HR.out)
      obtain ⟨wt, hwt⟩ : ∃ wt, wt = wr.alloc (.cells #[.bool x.1, .string (bs x.2)] 101) := ⟨_, rfl⟩
      have hLt : Later w wt := by rw [hwt]; exact HL.out.alloc _
      have hst : wt.heap.size = wr.heap.size + 1 := by rw [hwt]; simp
      have hbl : ∀ k, k < wr.heap.size → wt.heap[k]? = wr.heap[k]? := fun k hk => by rw [hwt]; exact Below.heap_alloc _ _ _ hk
      have K1 := row1 ((hbl _ (by omega)).trans H1.out)
      have HW : Hid (Calls Tryz.prog 63 #[.agg #[.bool x.1, .string (bs x.2)], .func (.func 61) #[] #[.pointer (some ⟨w.heap.size + 1, 0, none⟩)]] wt fun e w2 => e = .returned (toldV (worthB l x)) ∧ Later wt w2) :=
        worthC _ _ enters_fill1 x l wt wt (tellsFill (w.heap.size + 1) _ l wt K1.1 K1.2.2 (Kind.sl_later HU.out hLt)) (Later.refl _)
      rw [hwt] at HW
      have HWT := hide hwt
      clear hc hx K1 hwt
      obtain ⟨x1, x2⟩ := x
      dsimp only at *
      cases hw : worthB l (x1, x2) with
      | none =>
        rw [hw] at HW HS
        have HF : Hid (fb = none) := F.out none (fillArgs_stop HS.out)
        have hw0 : toldV none = .tuple #[.string ByteArray.empty, .bool false] := rfl
        rw [hw0] at HW
        clear hw hw0 HS
        generalize bs x2 = kx at *
        go_wp2_with fail
        refine HW.out.mono ?_
        rintro e w2 ⟨rfl, hL2⟩
        rw [← HWT.out] at hL2
        have hb2 : ∀ k, k < wr.heap.size → w2.heap[k]? = wr.heap[k]? := fun k hk => (hL2.block (by omega)).trans (hbl k hk)
        have Z2 := hide ((hb2 _ (by omega)).trans H2.out)
        obtain ⟨q0, q1, p0, p1, q2⟩ := row2 Z2.out
        have HL2 := hide (hLt.trans hL2)
        clear hL2 hb2 HW
        go_wp2
        obtain ⟨r0, r1⟩ := set_two Z2.out (.string { data := #[] }) (.slice none 0 0)
        refine bodyPost_ret (v := .tuple #[.agg #[.string { data := #[] }, .slice none 0 0], .bool false]) (by simp [results, Tryz.results29, go_sem, r0, r1]) rfl ⟨_, by rw [HF.out]; rfl, ?_, ?_⟩
        · rw [HF.out]
          exact ⟨_, rfl, by simp [noFact], none, 0, rfl, fun h => absurd rfl h⟩
        · exact (HL2.out.setCell (by show w.heap.size ≤ w.heap.size + 2; omega) _).setCell (by show w.heap.size ≤ w.heap.size + 2; omega) _
      | some s =>
        rw [hw] at HW HS
        have HS1 : Hid (fillArgs l (ts.take (j + 1)) = some (r ++ [s])) := HS.out
        have hw0 : toldV (some s) = .tuple #[.string s, .bool true] := rfl
        rw [hw0] at HW
        clear hw hw0 HS
        generalize bs x2 = kx at *
        go_wp2_with fail
        refine HW.out.mono ?_
        rintro e w2 ⟨rfl, hL2⟩
        rw [← HWT.out] at hL2
        have hb2 : ∀ k, k < wr.heap.size → w2.heap[k]? = wr.heap[k]? := fun k hk => (hL2.block (by omega)).trans (hbl k hk)
        have hs2 : wr.heap.size < w2.heap.size := by have := hL2.size; omega
        obtain ⟨q0, q1, p0, p1, q2⟩ := row2 ((hb2 _ (by omega)).trans H3.out)
        obtain ⟨v', w4, hrun, hO4, hg4, hd4, hv4⟩ := appendArg (Kind.own_kept HO.out (Nat.le_of_lt hs2) fun k hk _ => hb2 k hk) s (by have := hrl.out; omega) (by omega)
        have hlo : ∀ k, (Value.slice ao r.length co).ownBlock = some k → w.heap.size + 4 ≤ k := fun k e => (Kind.own_lt HO.out e).1
        have hb4 : ∀ k, k < w.heap.size + 4 → w4.heap[k]? = wr.heap[k]? := fun k hk => by
          rw [hg4.block k (by simp; omega) (fun e => by have := hlo k e.symm; omega), Below.heap_alloc _ _ _ (by omega)]
          exact hb2 k (by omega)
        have hs4 : w2.heap.size < w4.heap.size := by have := hg4.size; simp at this; omega
        have HL4 := hide ((hLt.trans hL2).more hg4 hd4 fun k e => by have := hlo k e; omega)
        have Z3 := hide ((hb4 _ (by omega)).trans H3.out)
        obtain ⟨_, y1, _, t1, y2⟩ := row2 Z3.out
        have Z1 := hide ((hb4 _ (by omega)).trans H1.out)
        have Z2 := hide ((hb4 _ (by omega)).trans H2.out)
        obtain ⟨a4, n4, c4, rfl⟩ : ∃ a n c, v' = .slice a n c := by obtain ⟨a, c, e⟩ := Kind.own_slice hO4; exact ⟨a, _, c, e⟩
        have HR4 := hide hrun
        have HO4 := hide hO4
        clear hL2 hb2 HW hrun hO4 hg4 hd4 hv4 hb4
        go_wp2_with (at_builtin; refine wpList_append_run rfl (.tmp 33) (.tmp 35) 52 rfl _ _ _ _ rfl rfl HR4.out ?_)
        go_roundg (ts.length - (j + 1))
        case measure => omega
        case rel =>
          refine ⟨j + 1, by omega, by go_num, r ++ [s], .slice a4 n4 c4, HS1, ?_, (by simp [hrl.out] : (r ++ [s]).length = j + 1), ?_, ?_, ?_, ?_, ?_⟩
          · exact Kind.own_kept HO4.out (by simp [World.setCell]) fun k _ hk => Below.heap_setCell _ _ _ _ (by show k ≠ w.heap.size + 3; omega)
          · exact (Later.setCell HL4.out (p := ⟨w.heap.size + 1 + 1 + 1, 1, none⟩) (by show w.heap.size ≤ w.heap.size + 3; omega) _ : Later _ _)
          · simp [World.setCell]; omega
          · show _ = _
            rw [Below.heap_setCell _ _ _ _ (by show w.heap.size + 1 ≠ w.heap.size + 3; omega)]; exact Z1.out
          · show _ = _
            rw [Below.heap_setCell _ _ _ _ (by show w.heap.size + 2 ≠ w.heap.size + 3; omega)]; exact Z2.out
          · show _ = _
            rw [set_at Z3.out]; rfl
    · have e : j = ts.length := by omega
      subst e
      have HR1 : Hid (fb = some (nm, r)) := by
        have := HR.out
        rw [List.take_length] at this
        exact F.out _ this
      obtain ⟨q0, q1, p0, p1, q2⟩ := row2 H2.out
      obtain ⟨y0, y1, t0, t1, y2⟩ := row2 H3.out
      go_wp2
      obtain ⟨r0, r1⟩ := set_two (R := w.heap.size + 1 + 1) H2.out (.string nm) (.slice ao r.length co)
      refine bodyPost_ret (v := .tuple #[.agg #[.string nm, .slice ao r.length co], .bool true]) (by simp [results, Tryz.results29, go_sem, r0, r1]) rfl ⟨_, by rw [HR1.out]; rfl, ?_, ?_⟩
      · rw [HR1.out]
        refine factV_kept HO.out (by have := hrl.out; omega) (fun k hk => ?_) (by simp [World.setCell])
        rw [Below.heap_setCell _ _ _ _ (by show k ≠ w.heap.size + 2; omega), Below.heap_setCell _ _ _ _ (by show k ≠ w.heap.size + 2; omega)]
      · exact (HL.out.setCell (by show w.heap.size ≤ w.heap.size + 2; omega) _).setCell (by show w.heap.size ≤ w.heap.size + 2; omega) _

end Go.Proofs.YtbohggoeebhdmaaGreatDoor

/-
  DERIVED: THE SHELF's CONTRACTS AT THIS DUMP, IN PLAIN WORDS (tools/lay-plain.mjs out of 'TryzGrowBLay.lean', which tools/lay-shelf.mjs wrote): THE SAME DECLARATIONS UNDER THE SAME NAMES: 'import', 'namespace', 'open', 'def', 'theorem' AND NOTHING ELSE: no command of the shelf's: FOR A HAND-IN. Each laying: the table of numbers ('.._ren') and one theorem, a field a fact of the dump's own or the kernel's comparison; each contract: ONE APPLICATION.
-/
namespace Go.Proofs
open Go.Shelf
def Tryz.growBinds_ren : Go.Shelf.Ren := ⟨fun | 4 => 212 | n => n, fun | 22 => 58 | 25 => 147 | 3 => 3 | 4 => 4 | 9 => 9 | 20 => 20 | 0 => 0 | n => n, fun | n => n⟩
theorem Tryz.growBinds : Go.Proofs.Lays8.n4 Tryz.prog Tryz.growBinds_ren := {
  mixed := by kernel_rfl
  f4 := ⟨Tryz.f212.name, by decide, Tryz.func212.trans (congrArg some (by kernel_rfl))⟩
  t0 := Tryz.underlying0
  a0 := Tryz.isAgg0
  z0 := Tryz.sizeOf0
  v0 := Tryz.zeroValue0
  t3 := Tryz.underlying3
  a3 := Tryz.isAgg3
  z3 := Tryz.sizeOf3
  v3 := Tryz.zeroValue3
  t4 := Tryz.underlying4
  a4 := Tryz.isAgg4
  z4 := Tryz.sizeOf4
  v4 := Tryz.zeroValue4
  t9 := Tryz.underlying9
  a9 := Tryz.isAgg9
  z9 := Tryz.sizeOf9
  v9 := Tryz.zeroValue9
  t20 := Tryz.underlying20
  a20 := Tryz.isAgg20
  z20 := Tryz.sizeOf20
  v20 := Tryz.zeroValue20
  t22 := Tryz.underlying58
  a22 := Tryz.isAgg58
  z22 := Tryz.sizeOf58
  v22 := Tryz.zeroValue58 }
end Go.Proofs

/- Rows of binds as cells; the walks of slices.Grow and slices.Concat at binds, and of match.Meet's closure. -/
namespace Go.Proofs.YtbohggoeebhdmaaGreatDoor
open Go.RowKit Go.Sort Go.Shelf

theorem infoBind : ∃ i, Tryz.prog.info? 147 = some i ∧ i.zero = some (.agg #[.string ByteArray.empty, .string ByteArray.empty]) ∧ i.size = 2 ∧ i.bytes = 32 := ⟨Tryz.t147, by kernel_rfl, by kernel_rfl, by kernel_rfl, by kernel_rfl⟩

/-- The cells of binds. -/
def encB (b : BindD) : List Value := [.string b.1, .string b.2]
def cellsB (l : List BindD) : List Value := l.flatMap encB

theorem cellsB_append (l m : List BindD) : cellsB (l ++ m) = cellsB l ++ cellsB m := by simp [cellsB]
theorem cellsB_len : ∀ l : List BindD, (cellsB l).length = l.length * 2
  | [] => rfl
  | b :: l => by
    have := cellsB_len l
    simp only [cellsB, List.flatMap_cons, List.length_append, encB, List.length_cons] at this ⊢
    rw [this]; simp; omega
theorem cellsB_at : ∀ (l : List BindD) (i j : Nat), j < 2 → (cellsB l)[i * 2 + j]? = (l[i]?).bind fun b => (encB b)[j]?
  | [], i, j, _ => by simp [cellsB]
  | b :: l, 0, j, hj => by
    have : j = 0 ∨ j = 1 := by omega
    rcases this with rfl | rfl <;> simp [cellsB, encB]
  | b :: l, i + 1, j, hj => by
    have e : (i + 1) * 2 + j = (i * 2 + j) + 2 := by omega
    rw [e]
    simp only [List.getElem?_cons_succ]
    rw [← cellsB_at l i j hj]
    show ([.string b.1, .string b.2] ++ cellsB l)[i * 2 + j + 2]? = _
    rw [List.getElem?_append_right (by simp)]
    simp
theorem cellsB_one {l : List BindD} : ∀ u ∈ cellsB l, u.oneCell' = true := fun u hu => by
  obtain ⟨b, _, hb⟩ := List.mem_flatMap.1 hu
  simp [encB] at hb
  rcases hb with rfl | rfl <;> rfl

theorem own_cells {ty : TypeId} {lo : Nat} {w : World} {v : Value} {l : List BindD} (h : bindK.own ty lo w v l) : w.ownsRow lo ty 2 v l.length (cellsB l) := by
  obtain ⟨xs, ho, hx⟩ := h
  have e : xs = cellsB l := by
    apply List.ext_getElem?
    intro n
    by_cases hn : n < l.length * 2
    · have hi : n / 2 < l.length := by omega
      obtain ⟨c, rfl, hc⟩ := hx (n / 2) _ (List.getElem?_eq_getElem hi)
      have hm : n % 2 < 2 := Nat.mod_lt _ (by omega)
      have e1 : n = n / 2 * 2 + n % 2 := by omega
      have e2 := cellsB_at l (n / 2) (n % 2) hm
      rw [List.getElem?_eq_getElem hi] at e2
      rw [← e1] at e2
      rw [e2]
      rcases (by omega : n % 2 = 0 ∨ n % 2 = 1) with h0 | h0
      · have := hc 0 _ rfl
        rw [show n / 2 * bindK.size + 0 = n by show n / 2 * 2 + 0 = n; omega] at this
        rw [this, h0]; rfl
      · have := hc 1 _ rfl
        rw [show n / 2 * bindK.size + 1 = n by show n / 2 * 2 + 1 = n; omega] at this
        rw [this, h0]; rfl
    · have h1 : xs.length = l.length * 2 := ho.1
      rw [List.getElem?_eq_none (by omega), List.getElem?_eq_none (by rw [cellsB_len]; omega)]
  rw [← e]; exact ho

theorem own_of {ty : TypeId} {lo : Nat} {w : World} {v : Value} {l : List BindD} (h : w.ownsRow lo ty 2 v l.length (cellsB l)) : bindK.own ty lo w v l := by
  refine ⟨cellsB l, h, fun i x hi => ⟨_, rfl, fun j u hu => ?_⟩⟩
  have hj : j < 2 := (List.getElem?_eq_some_iff.1 hu).1
  show (cellsB l)[i * 2 + j]? = _
  rw [cellsB_at l i j hj, hi]
  exact hu

theorem sl_cells {B : Nat → Prop} {w : World} {a : Addr} {n cap : Nat} {l : List BindD} (h : bindK.sl B w (.slice (some a) n cap) l) : ∀ j u, (cellsB l)[j]? = some u → w.cell? (a.add j) = some u := fun j u hu => by
  have hj : j < l.length * 2 := by rw [← cellsB_len]; exact (List.getElem?_eq_some_iff.1 hu).1
  have hi : j / 2 < l.length := by omega
  obtain ⟨b, off, c, e, hb, rfl, hc⟩ := Kind.sl_at h (List.getElem?_eq_getElem hi)
  cases e
  have e1 : j = j / 2 * 2 + j % 2 := by omega
  have e2 := cellsB_at l (j / 2) (j % 2) (Nat.mod_lt _ (by omega))
  rw [List.getElem?_eq_getElem hi] at e2
  rw [← e1, hu] at e2
  have := hc (j % 2) u e2.symm
  rw [Addr.add_lit]
  rw [show off + j / 2 * bindK.size + j % 2 = off + j by show off + j / 2 * 2 + j % 2 = off + j; omega] at this
  exact this

/-- append of a slice of binds, wherever it lies, onto a row of the call's own. -/
theorem appendBinds {lo : Nat} {w : World} {v : Value} {l m : List BindD} {a : Option Addr} {cap : Nat} (h : bindK.own 147 lo w v l) (hm : bindK.sl Anyw w (.slice a m.length cap) m) (hl : l.length + m.length ≤ 4398046511104) (hlo : lo ≤ w.heap.size) :
    ∃ v' w', (Builtin.append_ #[58, 58] 58 #[v, .slice a m.length cap]).run Tryz.prog w = .ok v' w' ∧ bindK.own 147 lo w' v' (l ++ m) ∧ w.grownBy w' v.ownBlock ∧ w.drawn ≤ w'.drawn ∧ ∀ k, v'.ownBlock = some k → v.ownBlock = some k ∨ w.heap.size ≤ k := by
  obtain ⟨i, i1, i2, i3, i4⟩ := infoBind
  have ho := own_cells h
  cases a with
  | none =>
    have hm0 : m = [] := by
      refine Classical.byContradiction fun hne => ?_
      obtain ⟨_, a', _, e, h1⟩ := hm
      simp only [Value.slice.injEq] at e
      obtain ⟨b, off, e', _⟩ := h1 hne
      rw [e'] at e; cases e.1
    subst hm0
    refine ⟨v, w, ?_, by rw [List.append_nil]; exact h, ⟨rfl, rfl, rfl, Nat.le_refl _, fun _ _ _ => rfl⟩, Nat.le_refl _, fun k hk => Or.inl hk⟩
    rcases ho.2 with ⟨rfl, e0⟩ | ⟨g, c, cur, rfl, _, _, hnc, _⟩
    · simp [Builtin.append_, run_underlying Tryz.underlying58, sizeOf, typeInfo, i1, Builtin.lenOf, Builtin.firstCells]
    · simp [Builtin.append_, run_underlying Tryz.underlying58, sizeOf, typeInfo, i1, Builtin.lenOf, Builtin.firstCells, hnc, storeCells]
  | some a =>
    obtain ⟨v', w', hrun, r1, r2, r3, r4⟩ := append_own (P := Tryz.prog) w lo 58 58 147 i _ 2 32 Tryz.underlying58 i1 i2 i3 i4 rfl (by omega) v l.length (cellsB l) ho a m.length cap (cellsB m) (cellsB_len m) (sl_cells hm) cellsB_one (by simp only [maxLen]; omega) (by omega) hlo
    exact ⟨v', w', hrun, own_of (by rw [List.length_append, cellsB_append]; exact r1), r2, r3, r4⟩

/-- append of one bind more. -/
theorem appendBind {lo : Nat} {w : World} {v : Value} {l : List BindD} (h : bindK.own 147 lo w v l) (x y : ByteArray) (hl : l.length + 1 ≤ 4398046511104) (hlo : lo ≤ w.heap.size) :
    ∃ v' w', (Builtin.append_ #[58, 58] 58 #[v, .slice (some ⟨w.heap.size, 0, none⟩) 1 1]).run Tryz.prog (w.alloc (.cells #[.string x, .string y] 147)) = .ok v' w' ∧ bindK.own 147 lo w' v' (l ++ [(x, y)]) ∧ (w.alloc (.cells #[.string x, .string y] 147)).grownBy w' v.ownBlock ∧ w.drawn ≤ w'.drawn ∧
      ∀ k, v'.ownBlock = some k → v.ownBlock = some k ∨ w.heap.size < k := by
  obtain ⟨i, i1, i2, i3, i4⟩ := infoBind
  exact Kind.own_more h Tryz.underlying58 i1 i2 i3 i4 rfl (by decide) (c := [.string x, .string y]) (x := (x, y)) rfl (by omega) (by simp [maxLen]; omega) hlo

theorem growB (w : World) (n : Nat) (hn : n ≤ 4398046511104) : Calls Tryz.prog 212 #[.slice none 0 0, .int .i64 n] w fun e w' =>
    ∃ v', e = .returned v' ∧ bindK.own 147 w.heap.size w' v' [] ∧ Later w w' := by
  by_cases h0 : n = 0
  · subst h0
    exact (Any8.slices_Grow_room Tryz.growBinds none 0 0 0 w (Nat.le_refl _) (by omega) (by omega) (Nat.le_refl _)).mono fun e w' ⟨he, hw⟩ =>
      ⟨_, he, bindK.own_nil _ _ _, by rw [hw]; exact Later.refl _⟩
  · obtain ⟨i, i1, i2, i3, i4⟩ := infoBind
    refine (Any8.slices_Grow_grow Tryz.growBinds i _ i1 i2 (by omega) none 0 0 n [] w (Nat.le_refl _) (by omega) (by rw [i4]; omega) (by omega) (by simp) (fun _ => rfl) (fun a h => by cases h)).mono fun e w' ⟨he, hw⟩ => ⟨_, he, ?_, ?_⟩
    · rw [hw]
      have hcm := grownCap_le_maxLen w (0 + n) 0 (Tryz.growBinds_ren.t 25) (by simp only [maxLen]; omega)
      have hge := grownCap_ge w (0 + n) 0 (Tryz.growBinds_ren.t 25)
      refine own_of (World.ownsRow_made (base := w.heap.size) (e := 147) (size := 2) w.drew _ _ (Nat.le_refl _) hcm ?_)
      simp only [Array.size_append, List.size_toArray, size_zeroCells]
      show 0 + (0 + n - 0) * 2 + (grownCap w (0 + n) 0 (Tryz.growBinds_ren.t 25) - (0 + n)) * 2 = _
      omega
    · rw [hw]; exact (Later.refl w).drew.alloc _

theorem own_kept' {ty : TypeId} {lo : Nat} {w w' : World} {v : Value} {l : List BindD} (h : bindK.own ty lo w v l) (k : Later w w') : bindK.own ty lo w' v l := own_block h fun _ e => k.block (Kind.own_lt h e).2

set_option maxHeartbeats 1000000 in
theorem concatB (w : World) (c cp : Nat) (va vb : Value) (la lb : List BindD) (ha : bindK.sl Anyw w va la) (hb : bindK.sl Anyw w vb lb) (hn : la.length + lb.length ≤ 4398046511104) (hc0 : w.cell? ⟨c, 0, none⟩ = some va) (hc1 : w.cell? ⟨c, 1, none⟩ = some vb) (hcb : c < w.heap.size) :
    Calls Tryz.prog 185 #[.slice (some ⟨c, 0, none⟩) 2 cp] w fun e w' => ∃ v', e = .returned v' ∧ bindK.own 147 w.heap.size w' v' (la ++ lb) ∧ Later w w' := by
  have HA := hide ha
  have HB := hide hb
  obtain ⟨a1, c1, rfl⟩ := Kind.slice ha
  obtain ⟨a2, c2, rfl⟩ := Kind.slice hb
  clear ha hb
  have s1 : ¬ ((la.length : Int) < 0) := by omega
  have s2 : ¬ ((la.length : Int) + (lb.length : Int) < 0) := by omega
  go_enter Tryz.func185, Tryz.ntmps185
  go_wp2
  refine wp_loop_rounds 3 ?_
  rw [rounds_succ]
  go_wp2
  rw [rounds_succ]
  go_wp2
  rw [rounds_succ]
  go_wp2_with fail
  rw [show ((la.length : Int) + (lb.length : Int)) = ((la.length + lb.length : Nat) : Int) by omega]
  refine (growB w (la.length + lb.length) hn).mono ?_
  rintro e w1 ⟨v1, rfl, hR1, hL1⟩
  obtain ⟨v2, w2, run2, hR2, hg2, hd2, hk2⟩ := appendBinds hR1 (Kind.sl_later HA.out hL1) (by simp; omega) hL1.size
  have hL2 : Later w w2 := Later.of_below (hL1.below.grown hg2 hL1.size fun k hk => (Kind.own_lt hR1 hk).1) (Nat.le_trans hL1.drawn hd2)
  obtain ⟨v3, w3, run3, hR3, hg3, hd3, hk3⟩ := appendBinds hR2 (Kind.sl_later HB.out hL2) (by simp; omega) hL2.size
  have hL3 : Later w w3 := Later.of_below (hL2.below.grown hg3 hL2.size fun k hk => (Kind.own_lt hR2 hk).1) (Nat.le_trans hL2.drawn hd3)
  rw [List.nil_append] at hR3
  have y0 : w1.cell? ⟨c, 0, none⟩ = some (.slice a1 la.length c1) := by rw [hL1.cell (p := ⟨c, 0, none⟩) hcb]; exact hc0
  have y1 : w1.cell? ⟨c, 1, none⟩ = some (.slice a2 lb.length c2) := by rw [hL1.cell (p := ⟨c, 1, none⟩) hcb]; exact hc1
  have y2 : w2.cell? ⟨c, 1, none⟩ = some (.slice a2 lb.length c2) := by rw [hL2.cell (p := ⟨c, 1, none⟩) hcb]; exact hc1
  have R2 := hide run2
  have R3 := hide run3
  have HR := hide hR3
  clear run2 run3 hR1 hR2 hR3 hg2 hg3
  go_wp2
  refine wp_loop_rounds 3 ?_
  rw [rounds_succ]
  go_wp2_with (at_builtin; refine wpList_append_run rfl (.tmp 31) (.tmp 32) 58 rfl _ _ _ _ rfl rfl R2.out ?_)
  rw [rounds_succ]
  go_wp2_with (at_builtin; refine wpList_append_run rfl (.tmp 31) (.tmp 32) 58 rfl _ _ _ _ rfl rfl R3.out ?_)
  rw [rounds_succ]
  go_wp2
  go_ret
  exact ⟨v3, rfl, HR.out, hL3⟩

theorem enters_meet1 : ∀ args w, (callFunc 184 args).run Tryz.prog w = .ok (.enter 184 args) w := enters_of Tryz.func184 (by kernel_rfl) rfl

set_option maxHeartbeats 1000000 in
theorem tellsMeet (cl cm : Nat) (u um : Value) (l m : List BindD) (w0 : World) (hc : w0.cell? ⟨cl, 0, none⟩ = some u) (hb : cl < w0.heap.size) (hd : w0.cell? ⟨cm, 0, none⟩ = some um) (he : cm < w0.heap.size) (hu : bindK.sl Anyw w0 u l) (hm : bindK.sl Anyw w0 um m) :
    Tells 184 #[.pointer (some ⟨cl, 0, none⟩), .pointer (some ⟨cm, 0, none⟩)] (l ++ m) w0 := by
  intro w v hL
  have HG := hide (getC u l v w (Kind.sl_later hu hL))
  have HM : Hid (∀ w2, Later w w2 → w2.cell? ⟨cm, 0, none⟩ = some um ∧ cm < w2.heap.size ∧ Calls Tryz.prog 62 #[um, .string v] w2 fun e w' => e = .returned (toldV (getB m v)) ∧ Hid (Later w w')) := fun w2 h2 =>
    ⟨by rw [(hL.trans h2).cell he]; exact hd, Nat.lt_of_lt_of_le he (hL.trans h2).size, (getC um m v w2 (Kind.sl_later hm (hL.trans h2))).mono fun e w' ⟨h3, h4⟩ => ⟨h3, h2.trans h4⟩⟩
  have hc' : w.cell? ⟨cl, 0, none⟩ = some u := by rw [hL.cell hb]; exact hc
  have hb' : cl < w.heap.size := Nat.lt_of_lt_of_le hb hL.size
  obtain ⟨a, cap, rfl⟩ := Kind.slice hu
  obtain ⟨am, capm, rfl⟩ := Kind.slice hm
  have E := hide (getB_append l m v)
  clear hu hm hc hb hd he hL
  show Calls _ _ #[.string v, .pointer (some ⟨cl, 0, none⟩), .pointer (some ⟨cm, 0, none⟩)] _ _
  cases hg : getB l v with
  | some s =>
    have E1 : Hid (getB (l ++ m) v = some s) := by show _ = _; rw [E.out, hg]
    rw [hg] at HG
    unfold toldV at HG
    simp only [Option.getD_some, Option.isSome_some] at HG
    clear HM hg E
    go_enter Tryz.func184, Tryz.ntmps184
    go_wp2_with (go_at_call 62; refine HG.out.mono ?_; rintro e w2 ⟨rfl, hL2⟩; replace hL2 := hide hL2)
    go_ret2
    exact ⟨by rw [E1.out]; rfl, unhide hL2⟩
  | none =>
    have E1 : Hid (getB (l ++ m) v = getB m v) := by show _ = _; rw [E.out, hg]
    rw [hg] at HG
    unfold toldV at HG HM
    simp only [Option.getD_none, Option.isSome_none] at HG
    clear hg E
    generalize hgm : (getB m v).getD ByteArray.empty = s at *
    generalize hbm : (getB m v).isSome = b at *
    have E2 : Hid (toldV (getB (l ++ m) v) = .tuple #[.string s, .bool b]) := by show _ = _; rw [E1.out]; unfold toldV; rw [hgm, hbm]
    clear hgm hbm E1
    go_enter Tryz.func184, Tryz.ntmps184
    go_wp2_with fail
    refine HG.out.mono ?_
    rintro e w2 ⟨rfl, hL2⟩
    obtain ⟨y0, y1, hcall⟩ := HM.out w2 hL2
    have HC := hide hcall
    clear hcall hL2 HM HG
    go_wp2_with fail
    refine HC.out.mono ?_
    rintro e w3 ⟨rfl, hL3⟩
    go_wp2
    go_ret2
    exact ⟨by rw [E2.out]; rfl, hL3.out⟩

end Go.Proofs.YtbohggoeebhdmaaGreatDoor

/- The walk of match.Meet. -/
namespace Go.Proofs.YtbohggoeebhdmaaGreatDoor
open Go.RowKit Go.Sort

theorem meetGo_step {l : List BindD} {ts : List TermD} {xs : List ByteArray} {j : Nat} {t : TermD} {x : ByteArray} (ht : ts[j]? = some t) (hx : xs[j]? = some x) :
    meetGo l (ts.drop j) (xs.drop j) = match worthB l t with | none => meetGo (l ++ [(bs t.2, x)]) (ts.drop (j + 1)) (xs.drop (j + 1)) | some s => if s = x then meetGo l (ts.drop (j + 1)) (xs.drop (j + 1)) else none := by
  obtain ⟨h1, e1⟩ := List.getElem?_eq_some_iff.1 ht
  obtain ⟨h2, e2⟩ := List.getElem?_eq_some_iff.1 hx
  rw [List.drop_eq_getElem_cons h1, List.drop_eq_getElem_cons h2, e1, e2]; rfl

/-- What Meet tells. -/
def MetV (w0 w : World) (v : Value) (r : Option (List BindD)) : Prop := match r with
  | none => v = .slice none 0 0
  | some m => bindK.own 147 w0.heap.size w v m

set_option maxRecDepth 100000 in
set_option maxHeartbeats 1000000 in
theorem meet_no (a : AtomD) (sa : Option Addr) (cap : Nat) (fn : ByteArray) (fa : Option Addr) (nf capf : Nat) (sb : Option Addr) (nb capb : Nat) (w : World) (h : (decide (bs a.name = fn) && decide ((a.terms.length : Int) = nf)) = false) :
    Calls Tryz.prog 166 #[.agg #[.bool a.no, .string (bs a.name), .slice sa a.terms.length cap], .agg #[.string fn, .slice fa nf capf], .slice sb nb capb] w fun e w' => e = .returned (.tuple #[.slice none 0 0, .bool false]) ∧ Later w w' := by
  obtain ⟨no, name, ts⟩ := a
  dsimp only at *
  generalize bs name = nm at *
  have E := eq_list (a := nm) (b := fn)
  cases hq : (nm.toList == fn.toList) with
  | false =>
    clear h E
    go_enter Tryz.func166, Tryz.ntmps166
    go_wp2
    go_ret2
    exact ⟨rfl, (by repeat (first | exact Later.refl _ | assumption | refine Later.drewN ?_ _ | refine Later.drew ?_ | refine Later.alloc ?_ _ | refine Later.grow ?_ _))⟩
  | true =>
    rw [← E, hq] at h
    have hne : ¬ ((ts.length : Int) = (nf : Int)) := by simpa using h
    have hne2 : ((ts.length : Int) != (nf : Int)) = true := by simpa using hne
    clear h E hne
    go_enter Tryz.func166, Tryz.ntmps166
    go_wp2
    go_ret2
    exact ⟨rfl, (by repeat (first | exact Later.refl _ | assumption | refine Later.drewN ?_ _ | refine Later.drew ?_ | refine Later.alloc ?_ _ | refine Later.grow ?_ _))⟩

set_option maxRecDepth 100000 in
set_option maxHeartbeats 4000000 in
theorem meet_yes (a : AtomD) (sa : Option Addr) (cap : Nat) (xs : List ByteArray) (fa : Option Addr) (capf : Nat) (u : Value) (l : List BindD) (w : World) (ht : termK.sl Anyw w (.slice sa a.terms.length cap) a.terms) (hf : Strs w (.slice fa a.terms.length capf) xs) (hu : bindK.sl Anyw w u l)
    (hlen : xs.length = a.terms.length) (hn : l.length + a.terms.length ≤ 4398046511104) :
    Calls Tryz.prog 166 #[.agg #[.bool a.no, .string (bs a.name), .slice sa a.terms.length cap], .agg #[.string (bs a.name), .slice fa a.terms.length capf], u] w fun e w' => ∃ v, e = .returned (.tuple #[v, .bool (meetGo l a.terms xs).isSome]) ∧ MetV w w' v (meetGo l a.terms xs) ∧ Later w w' := by
  obtain ⟨sb, capb, rfl⟩ := Kind.slice hu
  have HT := hide ht
  have HU := hide hu
  have HFS := hide hf
  have HLen := hide hlen
  clear ht hu hf hlen
  obtain ⟨no, name, ts⟩ := a
  dsimp only at *
  generalize bs name = nm at *
  have hq : (nm.toList == nm.toList) = true := by simp
  have hq2 : ((ts.length : Int) != (ts.length : Int)) = false := by simp
  go_enter Tryz.func166, Tryz.ntmps166
  go_wp2
  go_loopg [32] ts.length (fun g i wr => ∃ j : Nat, j + g = ts.length ∧ i = .int .i64 j ∧ ∃ mm o, Hid (meetGo l ts xs = meetGo (l ++ mm) (ts.drop j) (xs.drop j)) ∧ Hid (bindK.own 147 (w.heap.size + 4) wr o mm) ∧ Hid (mm.length ≤ j) ∧ Hid (Later w wr) ∧ w.heap.size + 4 ≤ wr.heap.size ∧
    Hid (wr.heap[w.heap.size + 1]? = some (.cells #[.string nm, .slice fa ts.length capf] 54 (0, 0))) ∧ Hid (wr.heap[w.heap.size + 2]? = some (.cells #[.slice sb l.length capb] 58 (0, 0))) ∧ Hid (wr.heap[w.heap.size + 3]? = some (.cells #[o] 58 (0, 0))))
  case atStart =>
    refine ⟨0, by omega, rfl, [], .slice none 0 0, (by simp : _ = _), bindK.own_nil _ _ _, (Nat.le_refl _ : _ ≤ _), ((by repeat (first | exact Later.refl _ | assumption | refine Later.drewN ?_ _ | refine Later.drew ?_ | refine Later.alloc ?_ _ | refine Later.grow ?_ _)) : Later _ _), by simp, ?_, ?_, ?_⟩
    all_goals
      show _ = _
      simp only [heap_at, World.size_alloc]
      repeat (first | rw [if_pos trivial] | rw [if_pos (by omega)] | rw [if_neg (by omega)])
  case round =>
    obtain ⟨j, hj, rfl, mm, o, HE, HO, HML, HL, hsz, H1, H2, H3⟩ := hrel
    obtain ⟨ao, no', co, rfl⟩ : ∃ a n c, o = .slice a n c := by obtain ⟨a, c, e⟩ := Kind.own_slice HO.out; exact ⟨a, _, c, e⟩
    by_cases hlt : j < ts.length
    · obtain ⟨x, hx⟩ : ∃ x, ts[j]? = some x := ⟨_, List.getElem?_eq_getElem hlt⟩
      have hltx : j < xs.length := by rw [HLen.out]; exact hlt
      obtain ⟨y, hy⟩ : ∃ y, xs[j]? = some y := ⟨_, List.getElem?_eq_getElem hltx⟩
      obtain ⟨b1, o1, _, rfl, hb1, rfl, hc⟩ := Kind.sl_at HT.out hx
      have d0 : wr.cell? ⟨b1, o1 + j * 2, none⟩ = some (.bool x.1) := by rw [HL.out.cell hb1]; exact hc 0 _ rfl
      have d1 : wr.cell? ⟨b1, o1 + j * 2 + 1, none⟩ = some (.string (bs x.2)) := by rw [HL.out.cell hb1]; exact hc 1 _ rfl
      have hbr : b1 < wr.heap.size := by omega
      obtain ⟨b2, o2, rfl, hb2, hyc⟩ : ∃ b2 o2, fa = some ⟨b2, o2, none⟩ ∧ b2 < w.heap.size ∧ w.cell? ⟨b2, o2 + j, none⟩ = some (.string y) := by
        obtain ⟨_, a', cap', e, h1⟩ := HFS.out
        simp only [Value.slice.injEq] at e
        obtain ⟨rfl, _, _⟩ := e
        obtain ⟨b, off, rfl, hb, hcc⟩ := h1 (by intro e; rw [e] at hltx; simp at hltx)
        have := hcc j hltx
        rw [List.getD_eq_getElem?_getD, hy] at this
        exact ⟨b, off, rfl, hb, this⟩
      have HS := hide (meetGo_step (l := l ++ mm) hx hy)
      obtain ⟨wt, hwt⟩ : ∃ wt, wt = wr.alloc (.cells #[.bool x.1, .string (bs x.2)] 101) := ⟨_, rfl⟩
      have hLt : Later w wt := by rw [hwt]; exact HL.out.alloc _
      have hLr : Later wr wt := by rw [hwt]; exact (Later.refl _).alloc _
      have hst : wt.heap.size = wr.heap.size + 1 := by rw [hwt]; simp
      have hbl : ∀ k, k < wr.heap.size → wt.heap[k]? = wr.heap[k]? := fun k hk => by rw [hwt]; exact Below.heap_alloc _ _ _ hk
      have htm : wt.heap[wr.heap.size]? = some (.cells #[.bool x.1, .string (bs x.2)] 101 (0, 0)) := by rw [hwt]; exact heap_alloc_new _ _
      have K2 := row1 ((hbl _ (by omega)).trans H2.out)
      have K3 := row1 ((hbl _ (by omega)).trans H3.out)
      have hml := HML.out
      have HW : Hid (Calls Tryz.prog 63 #[.agg #[.bool x.1, .string (bs x.2)], .func (.func 184) #[] #[.pointer (some ⟨w.heap.size + 2, 0, none⟩), .pointer (some ⟨w.heap.size + 3, 0, none⟩)]] wt fun e w2 => e = .returned (toldV (worthB (l ++ mm) x)) ∧ Later wt w2) :=
        worthC _ _ enters_meet1 x (l ++ mm) wt wt (tellsMeet (w.heap.size + 2) (w.heap.size + 3) _ _ l mm wt K2.1 K2.2.2 K3.1 K3.2.2 (Kind.sl_later HU.out hLt) (Kind.sl_any (Kind.own_sl (own_kept' HO.out hLr) (by omega)))) (Later.refl _)
      rw [hwt] at HW
      have HWT := hide hwt
      have HTM := hide htm
      clear hc hx hy K2 K3 hwt htm
      obtain ⟨x1, x2⟩ := x
      dsimp only at *
      cases hw : worthB (l ++ mm) (x1, x2) with
      | some s =>
        rw [hw] at HW HS
        have hw0 : toldV (some s) = .tuple #[.string s, .bool true] := rfl
        rw [hw0] at HW
        clear hw hw0
        generalize bs x2 = kx at *
        by_cases hsy : s = y
        · have HE1 : Hid (meetGo l ts xs = meetGo (l ++ mm) (ts.drop (j + 1)) (xs.drop (j + 1))) := by
            show _ = _
            have h1 := HS.out
            dsimp only at h1
            rw [if_pos hsy] at h1
            rw [HE.out, h1]
          have hqs : (s.toList == y.toList) = true := by rw [hsy]; simp
          clear HS HE hsy
          go_wp2_with fail
          refine HW.out.mono ?_
          rintro e w2 ⟨rfl, hL2⟩
          rw [← HWT.out] at hL2
          have hb2' : ∀ k, k < wr.heap.size → w2.heap[k]? = wr.heap[k]? := fun k hk => (hL2.block (by omega)).trans (hbl k hk)
          have hs2 : wr.heap.size < w2.heap.size := by have := hL2.size; omega
          obtain ⟨q0, q1, p0, p1, q2⟩ := row2 ((hb2' _ (by omega)).trans H1.out)
          have d2 : w2.cell? ⟨b2, o2 + j, none⟩ = some (.string y) := by rw [(hLt.trans hL2).cell hb2]; exact hyc
          have hbb2 : b2 < w2.heap.size := by have := (hLt.trans hL2).size; omega
          have Z1 := hide ((hb2' _ (by omega)).trans H1.out)
          have Z2 := hide ((hb2' _ (by omega)).trans H2.out)
          have Z3 := hide ((hb2' _ (by omega)).trans H3.out)
          have HL2 := hide (hLt.trans hL2)
          have HO2 := hide (own_kept' HO.out (hLr.trans hL2))
          clear hL2 hb2' HW hbl
          go_wp2
          go_roundg (ts.length - (j + 1))
          case measure => omega
          case rel => exact ⟨j + 1, by omega, by go_num, mm, _, HE1, HO2, (by omega : mm.length ≤ j + 1), HL2, by omega, Z1, Z2, Z3⟩
        · have HE1 : Hid (meetGo l ts xs = none) := by
            show _ = _
            have h1 := HS.out
            dsimp only at h1
            rw [if_neg hsy] at h1
            rw [HE.out, h1]
          have hqs : (s.toList == y.toList) = false := by rw [eq_list]; simpa using hsy
          clear HS HE hsy
          go_wp2_with fail
          refine HW.out.mono ?_
          rintro e w2 ⟨rfl, hL2⟩
          rw [← HWT.out] at hL2
          have hb2' : ∀ k, k < wr.heap.size → w2.heap[k]? = wr.heap[k]? := fun k hk => (hL2.block (by omega)).trans (hbl k hk)
          have hs2 : wr.heap.size < w2.heap.size := by have := hL2.size; omega
          obtain ⟨q0, q1, p0, p1, q2⟩ := row2 ((hb2' _ (by omega)).trans H1.out)
          have d2 : w2.cell? ⟨b2, o2 + j, none⟩ = some (.string y) := by rw [(hLt.trans hL2).cell hb2]; exact hyc
          have hbb2 : b2 < w2.heap.size := by have := (hLt.trans hL2).size; omega
          have HL2 := hide (hLt.trans hL2)
          clear hL2 hb2' HW hbl
          go_wp2
          go_ret2
          exact ⟨_, by rw [HE1.out]; rfl, by rw [HE1.out]; exact rfl, HL2.out⟩
      | none =>
        rw [hw] at HW HS
        have hw0 : toldV none = .tuple #[.string ByteArray.empty, .bool false] := rfl
        rw [hw0] at HW
        have HE1 : Hid (meetGo l ts xs = meetGo (l ++ (mm ++ [(bs x2, y)])) (ts.drop (j + 1)) (xs.drop (j + 1))) := by
          show _ = _
          have h1 := HS.out
          dsimp only at h1
          rw [HE.out, h1, List.append_assoc]
        clear hw hw0 HS HE
        generalize bs x2 = kx at *
        go_wp2_with fail
        refine HW.out.mono ?_
        rintro e w2 ⟨rfl, hL2⟩
        rw [← HWT.out] at hL2
        have hb2' : ∀ k, k < wr.heap.size → w2.heap[k]? = wr.heap[k]? := fun k hk => (hL2.block (by omega)).trans (hbl k hk)
        have hs2 : wr.heap.size < w2.heap.size := by have := hL2.size; omega
        obtain ⟨q0, q1, p0, p1, q2⟩ := row2 ((hb2' _ (by omega)).trans H1.out)
        have d2 : w2.cell? ⟨b2, o2 + j, none⟩ = some (.string y) := by rw [(hLt.trans hL2).cell hb2]; exact hyc
        have hbb2 : b2 < w2.heap.size := by have := (hLt.trans hL2).size; omega
        obtain ⟨t0, t1, _, _, t2⟩ := row2 ((hL2.block (by omega)).trans HTM.out)
        obtain ⟨m0, m1, m2⟩ := row1 ((hb2' _ (by omega)).trans H3.out)
        obtain ⟨v', w4, hrun, hO4, hg4, hd4, hv4⟩ := appendBind (w := w2.drew) (own_kept' HO.out ((hLr.trans hL2).drew)) kx y (by omega) (by show w.heap.size + 4 ≤ w2.heap.size; omega)
        have hlo : ∀ k, (Value.slice ao no' co).ownBlock = some k → w.heap.size + 4 ≤ k := fun k e => (Kind.own_lt HO.out e).1
        have hb4 : ∀ k, k < w.heap.size + 4 → w4.heap[k]? = wr.heap[k]? := fun k hk => by
          rw [hg4.block k (by simp; omega) (fun e => by have := hlo k e.symm; omega), Below.heap_alloc _ _ _ (by show k < w2.heap.size; omega)]
          exact hb2' k (by omega)
        have hs4 : w2.heap.size < w4.heap.size := by have := hg4.size; simp at this; omega
        have HL4 := hide ((hLt.trans hL2).drew.more hg4 hd4 fun k e => by have := hlo k e; omega)
        have Z3 := hide ((hb4 _ (by omega)).trans H3.out)
        have Z1 := hide ((hb4 _ (by omega)).trans H1.out)
        have Z2 := hide ((hb4 _ (by omega)).trans H2.out)
        obtain ⟨n0, n1, n2⟩ := row1 Z3.out
        obtain ⟨a4, n4, c4, rfl⟩ : ∃ a n c, v' = .slice a n c := by obtain ⟨a, c, e⟩ := Kind.own_slice hO4; exact ⟨a, _, c, e⟩
        have HR4 := hide hrun
        have HO4 := hide hO4
        clear hL2 hb2' HW hrun hO4 hg4 hd4 hv4 hb4 hbl
        go_wp2
        go_region_law (refine step_append_run rfl (.tmp 45) (.tmp 54) 58 rfl _ _ _ _ (by simp [Act.eval]) (by simp [Act.eval]) HR4.out ?_)
        all_goals
          go_wp2
          go_roundg (ts.length - (j + 1))
          case measure => omega
          case rel =>
            refine ⟨j + 1, by omega, by go_num, mm ++ [(kx, y)], .slice a4 n4 c4, HE1, ?_, (by simp; omega : (mm ++ [(kx, y)]).length ≤ j + 1), ?_, ?_, ?_, ?_, ?_⟩
            · exact Kind.own_kept HO4.out (by simp [World.setCell]) fun k _ hk => Below.heap_setCell _ _ _ _ (by show k ≠ w.heap.size + 3; omega)
            · exact (Later.setCell HL4.out (p := ⟨w.heap.size + 1 + 1 + 1, 0, none⟩) (by show w.heap.size ≤ w.heap.size + 3; omega) _ : Later _ _)
            · simp [World.setCell]; omega
            · show _ = _
              rw [Below.heap_setCell _ _ _ _ (by show w.heap.size + 1 ≠ w.heap.size + 3; omega)]; exact Z1.out
            · show _ = _
              rw [Below.heap_setCell _ _ _ _ (by show w.heap.size + 2 ≠ w.heap.size + 3; omega)]; exact Z2.out
            · show _ = _
              rw [set_at Z3.out]; rfl
    · have e : j = ts.length := by omega
      subst e
      have HE1 : Hid (meetGo l ts xs = some (l ++ mm)) := by
        show _ = _
        rw [HE.out, List.drop_length]; rfl
      have hml := HML.out
      have hLc : Later wr (wr.alloc (.cells #[.slice sb l.length capb, .slice ao no' co] 58)) := (Later.refl _).alloc _
      have HCc := hide (concatB (wr.alloc (.cells #[.slice sb l.length capb, .slice ao no' co] 58)) wr.heap.size 2 (.slice sb l.length capb) (.slice ao no' co) l mm (Kind.sl_later HU.out (HL.out.trans hLc)) (Kind.sl_any (Kind.own_sl (own_kept' HO.out hLc) (by omega))) (by omega) (by simp) (by simp) (by simp))
      obtain ⟨q0, p0, q2⟩ := row1 H2.out
      obtain ⟨y0, t0, y2⟩ := row1 H3.out
      clear hLc
      go_wp2_with fail
      refine HCc.out.mono ?_
      rintro e w2 ⟨v, rfl, hO2, hL2⟩
      have HL2 := hide ((HL.out.alloc (.cells #[.slice sb l.length capb, .slice ao no' co] 58)).trans hL2)
      have HO2 := hide (own_base hO2 (lo' := w.heap.size) (by simp; omega))
      clear hO2 hL2 HCc
      go_wp2
      go_ret2
      exact ⟨v, by rw [HE1.out]; rfl, by rw [HE1.out]; exact HO2.out, HL2.out⟩

/-- match.Meet: l with what was put behind it, in memory of its own; or nothing. -/
theorem meetC (a : AtomD) (tv fv u : Value) (f : FactD) (l : List BindD) (w : World) (ht : termK.sl Anyw w tv a.terms) (hf : FactV w fv f) (hu : bindK.sl Anyw w u l) (hn : l.length + a.terms.length ≤ 4398046511104) :
    Calls Tryz.prog 166 #[.agg #[.bool a.no, .string (bs a.name), tv], fv, u] w fun e w' => ∃ v, e = .returned (.tuple #[v, .bool (meetB a f l).isSome]) ∧ MetV w w' v (meetB a f l) ∧ Later w w' := by
  obtain ⟨sa, cap, rfl⟩ := Kind.slice ht
  obtain ⟨s, rfl, hs⟩ := hf
  obtain ⟨fa, capf, rfl⟩ := sliceStr hs
  unfold meetB
  split
  · rename_i h
    obtain ⟨h1, h2⟩ := h
    rw [← h1, ← h2]
    rw [← h2] at hs
    exact meet_yes a sa cap f.2 fa capf u l w ht hs hu h2.symm hn
  · rename_i h
    obtain ⟨sb, capb, rfl⟩ := Kind.slice hu
    refine (meet_no a sa cap f.1 fa f.2.length capf sb l.length capb w ?_).mono fun e w' ⟨he, hL⟩ => ⟨_, he, rfl, hL⟩
    rw [Bool.and_eq_false_iff]
    by_cases h1 : bs a.name = f.1
    · right
      simp only [decide_eq_false_iff_not]
      intro h2
      exact h ⟨h1, by omega⟩
    · left; simpa using h1

end Go.Proofs.YtbohggoeebhdmaaGreatDoor

/-
  DERIVED: THE SHELF's CONTRACTS AT THIS DUMP, IN PLAIN WORDS (tools/lay-plain.mjs out of 'TryzSortBLay.lean', which tools/lay-shelf.mjs wrote): THE SAME DECLARATIONS UNDER THE SAME NAMES: 'import', 'namespace', 'open', 'def', 'theorem' AND NOTHING ELSE: no command of the shelf's: FOR A HAND-IN. Each laying: the table of numbers ('.._ren') and one theorem, a field a fact of the dump's own or the kernel's comparison; each contract: ONE APPLICATION.
-/
namespace Go.Proofs
open Go.Shelf
def Tryz.sortBinds_ren : Go.Shelf.Ren := ⟨fun | 6 => 140 | 15 => 131 | 14 => 167 | 28 => 162 | 29 => 163 | 20 => 186 | 21 => 187 | 22 => 188 | 23 => 189 | 24 => 190 | 25 => 191 | 26 => 192 | 27 => 193 | 46 => 213 | 47 => 180 | 48 => 181 | 49 => 214 | 50 => 215 | 57 => 225 | n => n, fun | 22 => 58 | 24 => 147 | 25 => 185 | 3 => 3 | 39 => 174 | 0 => 0 | 53 => 202 | 55 => 204 | 4 => 4 | 46 => 196 | 45 => 195 | 50 => 69 | 5 => 5 | 9 => 9 | 66 => 221 | 70 => 225 | 76 => 244 | 77 => 245 | n => n, fun | n => n⟩
theorem Tryz.sortBinds : Go.Proofs.SlLaysF0.n6 Tryz.prog Tryz.sortBinds_ren := {
  mixed := by kernel_rfl
  f6 := ⟨Tryz.f140.name, by decide, Tryz.func140.trans (congrArg some (by kernel_rfl))⟩
  f14 := ⟨Tryz.f167.name, by decide, Tryz.func167.trans (congrArg some (by kernel_rfl))⟩
  f15 := Tryz.func131.trans (congrArg some (by kernel_rfl))
  f20 := ⟨Tryz.f186.name, by decide, Tryz.func186.trans (congrArg some (by kernel_rfl))⟩
  f21 := ⟨Tryz.f187.name, by decide, Tryz.func187.trans (congrArg some (by kernel_rfl))⟩
  f22 := ⟨Tryz.f188.name, by decide, Tryz.func188.trans (congrArg some (by kernel_rfl))⟩
  f23 := ⟨Tryz.f189.name, by decide, Tryz.func189.trans (congrArg some (by kernel_rfl))⟩
  f24 := ⟨Tryz.f190.name, by decide, Tryz.func190.trans (congrArg some (by kernel_rfl))⟩
  f25 := ⟨Tryz.f191.name, by decide, Tryz.func191.trans (congrArg some (by kernel_rfl))⟩
  f26 := ⟨Tryz.f192.name, by decide, Tryz.func192.trans (congrArg some (by kernel_rfl))⟩
  f27 := ⟨Tryz.f193.name, by decide, Tryz.func193.trans (congrArg some (by kernel_rfl))⟩
  f28 := Tryz.func162.trans (congrArg some (by kernel_rfl))
  f29 := Tryz.func163.trans (congrArg some (by kernel_rfl))
  f46 := ⟨Tryz.f213.name, by decide, Tryz.func213.trans (congrArg some (by kernel_rfl))⟩
  f47 := Tryz.func180.trans (congrArg some (by kernel_rfl))
  f48 := Tryz.func181.trans (congrArg some (by kernel_rfl))
  f49 := ⟨Tryz.f214.name, by decide, Tryz.func214.trans (congrArg some (by kernel_rfl))⟩
  f50 := ⟨Tryz.f215.name, by decide, Tryz.func215.trans (congrArg some (by kernel_rfl))⟩
  f57 := ⟨Tryz.f225.name, by decide, Tryz.func225.trans (congrArg some (by kernel_rfl))⟩
  t0 := Tryz.underlying0
  a0 := Tryz.isAgg0
  z0 := Tryz.sizeOf0
  v0 := Tryz.zeroValue0
  t3 := Tryz.underlying3
  a3 := Tryz.isAgg3
  z3 := Tryz.sizeOf3
  v3 := Tryz.zeroValue3
  t4 := Tryz.underlying4
  a4 := Tryz.isAgg4
  z4 := Tryz.sizeOf4
  v4 := Tryz.zeroValue4
  t5 := Tryz.underlying5
  a5 := Tryz.isAgg5
  z5 := Tryz.sizeOf5
  v5 := Tryz.zeroValue5
  t9 := Tryz.underlying9
  a9 := Tryz.isAgg9
  z9 := Tryz.sizeOf9
  v9 := Tryz.zeroValue9
  t22 := Tryz.underlying58
  a22 := Tryz.isAgg58
  z22 := Tryz.sizeOf58
  v22 := Tryz.zeroValue58
  t25 := Tryz.underlying185
  a25 := Tryz.isAgg185
  z25 := Tryz.sizeOf185
  v25 := Tryz.zeroValue185
  t39 := Tryz.underlying174
  a39 := Tryz.isAgg174
  z39 := Tryz.sizeOf174
  v39 := Tryz.zeroValue174
  t45 := Tryz.underlying195
  a45 := Tryz.isAgg195
  z45 := Tryz.sizeOf195
  v45 := Tryz.zeroValue195
  t46 := Tryz.underlying196
  a46 := Tryz.isAgg196
  z46 := Tryz.sizeOf196
  v46 := Tryz.zeroValue196
  t50 := Tryz.underlying69
  a50 := Tryz.isAgg69
  z50 := Tryz.sizeOf69
  v50 := Tryz.zeroValue69
  t53 := Tryz.underlying202
  a53 := Tryz.isAgg202
  z53 := Tryz.sizeOf202
  v53 := Tryz.zeroValue202
  t55 := Tryz.underlying204
  a55 := Tryz.isAgg204
  z55 := Tryz.sizeOf204
  v55 := Tryz.zeroValue204
  t66 := Tryz.underlying221
  a66 := Tryz.isAgg221
  z66 := Tryz.sizeOf221
  v66 := Tryz.zeroValue221
  t70 := Tryz.underlying225
  a70 := Tryz.isAgg225
  z70 := Tryz.sizeOf225
  v70 := Tryz.zeroValue225
  t76 := Tryz.underlying244
  a76 := Tryz.isAgg244
  z76 := Tryz.sizeOf244
  v76 := Tryz.zeroValue244
  t77 := Tryz.underlying245
  a77 := Tryz.isAgg245
  z77 := Tryz.sizeOf245
  v77 := Tryz.zeroValue245 }
end Go.Proofs

/-
  DERIVED: THE SHELF's CONTRACTS AT THIS DUMP, IN PLAIN WORDS (tools/lay-plain.mjs out of 'TryzSortLLay.lean', which tools/lay-shelf.mjs wrote): THE SAME DECLARATIONS UNDER THE SAME NAMES: 'import', 'namespace', 'open', 'def', 'theorem' AND NOTHING ELSE: no command of the shelf's: FOR A HAND-IN. Each laying: the table of numbers ('.._ren') and one theorem, a field a fact of the dump's own or the kernel's comparison; each contract: ONE APPLICATION.
-/
namespace Go.Proofs
open Go.Shelf
def Tryz.sortLists_ren : Go.Shelf.Ren := ⟨fun | 6 => 142 | 15 => 131 | 14 => 169 | 28 => 162 | 29 => 163 | 20 => 194 | 21 => 195 | 22 => 196 | 23 => 197 | 24 => 198 | 25 => 199 | 26 => 200 | 27 => 201 | 46 => 216 | 47 => 180 | 48 => 181 | 49 => 217 | 50 => 218 | 57 => 226 | n => n, fun | 22 => 55 | 24 => 58 | 25 => 188 | 3 => 3 | 39 => 174 | 0 => 0 | 53 => 202 | 55 => 204 | 4 => 4 | 46 => 196 | 45 => 195 | 50 => 69 | 5 => 5 | 9 => 9 | 66 => 221 | 70 => 225 | 76 => 244 | 77 => 245 | n => n, fun | n => n⟩
theorem Tryz.sortLists : Go.Proofs.SlLaysF.n6 Tryz.prog Tryz.sortLists_ren := {
  mixed := by kernel_rfl
  f6 := ⟨Tryz.f142.name, by decide, Tryz.func142.trans (congrArg some (by kernel_rfl))⟩
  f14 := ⟨Tryz.f169.name, by decide, Tryz.func169.trans (congrArg some (by kernel_rfl))⟩
  f15 := Tryz.func131.trans (congrArg some (by kernel_rfl))
  f20 := ⟨Tryz.f194.name, by decide, Tryz.func194.trans (congrArg some (by kernel_rfl))⟩
  f21 := ⟨Tryz.f195.name, by decide, Tryz.func195.trans (congrArg some (by kernel_rfl))⟩
  f22 := ⟨Tryz.f196.name, by decide, Tryz.func196.trans (congrArg some (by kernel_rfl))⟩
  f23 := ⟨Tryz.f197.name, by decide, Tryz.func197.trans (congrArg some (by kernel_rfl))⟩
  f24 := ⟨Tryz.f198.name, by decide, Tryz.func198.trans (congrArg some (by kernel_rfl))⟩
  f25 := ⟨Tryz.f199.name, by decide, Tryz.func199.trans (congrArg some (by kernel_rfl))⟩
  f26 := ⟨Tryz.f200.name, by decide, Tryz.func200.trans (congrArg some (by kernel_rfl))⟩
  f27 := ⟨Tryz.f201.name, by decide, Tryz.func201.trans (congrArg some (by kernel_rfl))⟩
  f28 := Tryz.func162.trans (congrArg some (by kernel_rfl))
  f29 := Tryz.func163.trans (congrArg some (by kernel_rfl))
  f46 := ⟨Tryz.f216.name, by decide, Tryz.func216.trans (congrArg some (by kernel_rfl))⟩
  f47 := Tryz.func180.trans (congrArg some (by kernel_rfl))
  f48 := Tryz.func181.trans (congrArg some (by kernel_rfl))
  f49 := ⟨Tryz.f217.name, by decide, Tryz.func217.trans (congrArg some (by kernel_rfl))⟩
  f50 := ⟨Tryz.f218.name, by decide, Tryz.func218.trans (congrArg some (by kernel_rfl))⟩
  f57 := ⟨Tryz.f226.name, by decide, Tryz.func226.trans (congrArg some (by kernel_rfl))⟩
  t0 := Tryz.underlying0
  a0 := Tryz.isAgg0
  z0 := Tryz.sizeOf0
  v0 := Tryz.zeroValue0
  t3 := Tryz.underlying3
  a3 := Tryz.isAgg3
  z3 := Tryz.sizeOf3
  v3 := Tryz.zeroValue3
  t4 := Tryz.underlying4
  a4 := Tryz.isAgg4
  z4 := Tryz.sizeOf4
  v4 := Tryz.zeroValue4
  t5 := Tryz.underlying5
  a5 := Tryz.isAgg5
  z5 := Tryz.sizeOf5
  v5 := Tryz.zeroValue5
  t9 := Tryz.underlying9
  a9 := Tryz.isAgg9
  z9 := Tryz.sizeOf9
  v9 := Tryz.zeroValue9
  t22 := Tryz.underlying55
  a22 := Tryz.isAgg55
  z22 := Tryz.sizeOf55
  v22 := Tryz.zeroValue55
  a24 := Tryz.isAgg58
  z24 := Tryz.sizeOf58
  t25 := Tryz.underlying188
  a25 := Tryz.isAgg188
  z25 := Tryz.sizeOf188
  v25 := Tryz.zeroValue188
  t39 := Tryz.underlying174
  a39 := Tryz.isAgg174
  z39 := Tryz.sizeOf174
  v39 := Tryz.zeroValue174
  t45 := Tryz.underlying195
  a45 := Tryz.isAgg195
  z45 := Tryz.sizeOf195
  v45 := Tryz.zeroValue195
  t46 := Tryz.underlying196
  a46 := Tryz.isAgg196
  z46 := Tryz.sizeOf196
  v46 := Tryz.zeroValue196
  t50 := Tryz.underlying69
  a50 := Tryz.isAgg69
  z50 := Tryz.sizeOf69
  v50 := Tryz.zeroValue69
  t53 := Tryz.underlying202
  a53 := Tryz.isAgg202
  z53 := Tryz.sizeOf202
  v53 := Tryz.zeroValue202
  t55 := Tryz.underlying204
  a55 := Tryz.isAgg204
  z55 := Tryz.sizeOf204
  v55 := Tryz.zeroValue204
  t66 := Tryz.underlying221
  a66 := Tryz.isAgg221
  z66 := Tryz.sizeOf221
  v66 := Tryz.zeroValue221
  t70 := Tryz.underlying225
  a70 := Tryz.isAgg225
  z70 := Tryz.sizeOf225
  v70 := Tryz.zeroValue225
  t76 := Tryz.underlying244
  a76 := Tryz.isAgg244
  z76 := Tryz.sizeOf244
  v76 := Tryz.zeroValue244
  t77 := Tryz.underlying245
  a77 := Tryz.isAgg245
  z77 := Tryz.sizeOf245
  v77 := Tryz.zeroValue245 }
end Go.Proofs

/- The walks of cmp.Or at ints, match.compare, slices.CompareFunc at binds, match.risen's closure; slices.SortFunc at binds and at lists of them. -/
namespace Go.Proofs.YtbohggoeebhdmaaGreatDoor
open Go.RowKit Go.Sort Go.Shelf

set_option maxHeartbeats 1000000 in
theorem orC (c cp : Nat) (x y : Int) (w : World) (h0 : w.cell? ⟨c, 0, none⟩ = some (.int .i64 x)) (h1 : w.cell? ⟨c, 1, none⟩ = some (.int .i64 y)) :
    Calls Tryz.prog 168 #[.slice (some ⟨c, 0, none⟩) 2 cp] w fun e w' => e = .returned (.int .i64 (if x ≠ 0 then x else y)) ∧ w' = w := by
  by_cases hx : x = 0
  · subst hx
    by_cases hy : y = 0
    · subst hy
      go_enter Tryz.func168, Tryz.ntmps168
      go_wp2
      refine wp_loop_rounds 3 ?_
      rw [rounds_succ]
      go_wp2
      rw [rounds_succ]
      go_wp2
      rw [rounds_succ]
      go_wp2
      go_ret
      exact ⟨rfl, rfl⟩
    · have hq : (y != 0) = true := by simpa using hy
      go_enter Tryz.func168, Tryz.ntmps168
      go_wp2
      refine wp_loop_rounds 3 ?_
      rw [rounds_succ]
      go_wp2
      rw [rounds_succ]
      go_wp2
      go_ret
      exact ⟨rfl, rfl⟩
  · have hq : (x != 0) = true := by simpa using hx
    rw [if_pos hx]
    clear hx
    go_enter Tryz.func168, Tryz.ntmps168
    go_wp2
    refine wp_loop_rounds 3 ?_
    rw [rounds_succ]
    go_wp2
    go_ret
    exact ⟨rfl, rfl⟩

set_option maxRecDepth 100000 in
set_option maxHeartbeats 2000000 in
theorem compareB (a b : BindD) (w : World) : Calls Tryz.prog 141 #[.agg (encB a).toArray, .agg (encB b).toArray] w fun e w' => e = .returned (.int .i64 (cmpB a b)) ∧ Later w w' := by
  obtain ⟨a1, a2⟩ := a
  obtain ⟨b1, b2⟩ := b
  show Calls _ _ #[.agg #[.string a1, .string a2], .agg #[.string b1, .string b2]] _ fun e w' => e = .returned (.int .i64 (if cmpS a1 b1 ≠ 0 then cmpS a1 b1 else cmpS a2 b2)) ∧ _
  generalize hwb : (w.alloc (.cells #[.string a1, .string a2] 147)).alloc (.cells #[.string b1, .string b2] 147) = wb
  have HWB := hide hwb
  have hLb : Later w wb := by rw [← hwb]; exact (by repeat (first | exact Later.refl _ | assumption | refine Later.drewN ?_ _ | refine Later.drew ?_ | refine Later.alloc ?_ _ | refine Later.grow ?_ _))
  have z0 : wb.cell? ⟨w.heap.size, 0, none⟩ = some (.string a1) := by rw [← hwb]; simp
  have z1 : wb.cell? ⟨w.heap.size, 1, none⟩ = some (.string a2) := by rw [← hwb]; simp
  have z2 : wb.cell? ⟨w.heap.size + 1, 0, none⟩ = some (.string b1) := by rw [← hwb]; simp
  have z3 : wb.cell? ⟨w.heap.size + 1, 1, none⟩ = some (.string b2) := by rw [← hwb]; simp
  have hsb : wb.heap.size = w.heap.size + 2 := by rw [← hwb]; simp
  clear hwb
  obtain ⟨r, hr⟩ : ∃ r, r = if cmpS a1 b1 ≠ 0 then cmpS a1 b1 else cmpS a2 b2 := ⟨_, rfl⟩
  have HOr : Hid (∀ (c : Nat) (w : World), w.cell? ⟨c, 0, none⟩ = some (.int .i64 (cmpS a1 b1)) → w.cell? ⟨c, 1, none⟩ = some (.int .i64 (cmpS a2 b2)) → Calls Tryz.prog 168 #[.slice (some ⟨c, 0, none⟩) 2 2] w fun e w' => e = .returned (.int .i64 r) ∧ w' = w) := fun c w h0 h1 => by
    rw [hr]; exact orC c 2 _ _ w h0 h1
  rw [← hr]
  clear hr
  go_enter Tryz.func141, Tryz.ntmps141
  go_wp2
  rw [HWB.out]
  have cell : ∀ w', Later wb w' → w'.cell? ⟨w.heap.size, 0, none⟩ = some (.string a1) ∧ w'.cell? ⟨w.heap.size, 1, none⟩ = some (.string a2) ∧ w'.cell? ⟨w.heap.size + 1, 0, none⟩ = some (.string b1) ∧ w'.cell? ⟨w.heap.size + 1, 1, none⟩ = some (.string b2) := fun w' hL =>
    ⟨by rw [hL.cell (by show w.heap.size < _; omega)]; exact z0, by rw [hL.cell (by show w.heap.size < _; omega)]; exact z1, by rw [hL.cell (by show w.heap.size + 1 < _; omega)]; exact z2, by rw [hL.cell (by show w.heap.size + 1 < _; omega)]; exact z3⟩
  have CELL := hide cell
  clear cell z0 z1 z2 z3 hsb
  refine wp_region_held_drew (S := fun w' => Later wb w') (by kernel_rfl) (Later.refl _).drew (fun hHeld => ?_)
  refine take_at (i := 0) (d := some 5) (v := ?_) rfl rfl (by kernel_rfl) (by kernel_rfl) (by kernel_rfl) (fun _ _ _ h => h) (Or.inl ⟨by rfl, ?_⟩) hHeld ?_
  rotate_left
  · intro w hSw; (try dsimp only at hSw);  go_simp; try with_reducible rfl
  simp only [Act.put, List.setIfInBounds_toArray, List.set_cons_zero, List.set_cons_succ]
  refine take_at (i := 1) (d := some 6) (v := ?_) rfl rfl (by kernel_rfl) (by kernel_rfl) (by kernel_rfl) (fun _ _ _ h => h) (Or.inl ⟨by rfl, ?_⟩) hHeld ?_
  rotate_left
  · intro w hSw; (try dsimp only at hSw); obtain ⟨q0, q1, q2, q3⟩ := CELL.out w hSw; go_simp; try with_reducible rfl
  simp only [Act.put, List.setIfInBounds_toArray, List.set_cons_zero, List.set_cons_succ]
  refine take_at (i := 2) (d := some 7) (v := ?_) rfl rfl (by kernel_rfl) (by kernel_rfl) (by kernel_rfl) (fun _ _ _ h => h) (Or.inl ⟨by rfl, ?_⟩) hHeld ?_
  rotate_left
  · intro w hSw; (try dsimp only at hSw);  go_simp; try with_reducible rfl
  simp only [Act.put, List.setIfInBounds_toArray, List.set_cons_zero, List.set_cons_succ]
  refine take_at (i := 3) (d := some 8) (v := ?_) rfl rfl (by kernel_rfl) (by kernel_rfl) (by kernel_rfl) (fun _ _ _ h => h) (Or.inl ⟨by rfl, ?_⟩) hHeld ?_
  rotate_left
  · intro w hSw; (try dsimp only at hSw); obtain ⟨q0, q1, q2, q3⟩ := CELL.out w hSw; go_simp; try with_reducible rfl
  simp only [Act.put, List.setIfInBounds_toArray, List.set_cons_zero, List.set_cons_succ]
  refine take_at (i := 5) (d := some 10) (v := ?_) rfl rfl (by kernel_rfl) (by kernel_rfl) (by kernel_rfl) (fun _ _ _ h => h) (Or.inl ⟨by rfl, ?_⟩) hHeld ?_
  rotate_left
  · intro w hSw; (try dsimp only at hSw);  go_simp; try with_reducible rfl
  simp only [Act.put, List.setIfInBounds_toArray, List.set_cons_zero, List.set_cons_succ]
  refine take_at (i := 6) (d := some 11) (v := ?_) rfl rfl (by kernel_rfl) (by kernel_rfl) (by kernel_rfl) (fun _ _ _ h => h) (Or.inl ⟨by rfl, ?_⟩) hHeld ?_
  rotate_left
  · intro w hSw; (try dsimp only at hSw); obtain ⟨q0, q1, q2, q3⟩ := CELL.out w hSw; go_simp; try with_reducible rfl
  simp only [Act.put, List.setIfInBounds_toArray, List.set_cons_zero, List.set_cons_succ]
  refine take_at (i := 7) (d := some 12) (v := ?_) rfl rfl (by kernel_rfl) (by kernel_rfl) (by kernel_rfl) (fun _ _ _ h => h) (Or.inl ⟨by rfl, ?_⟩) hHeld ?_
  rotate_left
  · intro w hSw; (try dsimp only at hSw);  go_simp; try with_reducible rfl
  simp only [Act.put, List.setIfInBounds_toArray, List.set_cons_zero, List.set_cons_succ]
  refine take_at (i := 8) (d := some 13) (v := ?_) rfl rfl (by kernel_rfl) (by kernel_rfl) (by kernel_rfl) (fun _ _ _ h => h) (Or.inl ⟨by rfl, ?_⟩) hHeld ?_
  rotate_left
  · intro w hSw; (try dsimp only at hSw); obtain ⟨q0, q1, q2, q3⟩ := CELL.out w hSw; go_simp; try with_reducible rfl
  simp only [Act.put, List.setIfInBounds_toArray, List.set_cons_zero, List.set_cons_succ]
  refine wpAnyH_ready (rs := [4]) (by kernel_rfl) (by simp) ?_
  refine AllReadyH.cons rfl (fun K hK => ?_) AllReadyH.nil
  go_simp
  refine (compareS _ _ _).mono ?_
  rintro e u1 ⟨rfl, rfl⟩
  dsimp only
  refine hK.out _ _ hHeld (fun hHeld => ?_)
  clear hK K
  refine wpAnyH_ready (rs := [9]) (by kernel_rfl) (by simp) ?_
  refine AllReadyH.cons rfl (fun K hK => ?_) AllReadyH.nil
  go_simp
  refine (compareS _ _ _).mono ?_
  rintro e u2 ⟨rfl, rfl⟩
  dsimp only
  refine hK.out _ _ hHeld (fun hHeld => ?_)
  clear hK K
  refine wpAnyH_ready (rs := [10]) (by kernel_rfl) (by simp) ?_
  refine AllReadyH.cons rfl (fun K hK => ?_) AllReadyH.nil
  go_simp
  refine hK.out _ _ (hHeld.alloc _) (fun hHeld => ?_)
  clear hK K
  refine wpAnyH_ready (rs := [11]) (by kernel_rfl) (by simp) ?_
  refine AllReadyH.cons rfl (fun K hK => ?_) AllReadyH.nil
  go_simp
  refine (HOr.out _ _ (by simp) (by simp)).mono ?_
  rintro e u3 ⟨rfl, rfl⟩
  dsimp only
  refine hK.out _ _ hHeld (fun hHeld => ?_)
  clear hK K
  refine take_at (i := 12) (d := some 4) (v := ?_) rfl rfl (by kernel_rfl) (by kernel_rfl) (by kernel_rfl) (fun _ _ _ h => h) (Or.inl ⟨by rfl, ?_⟩) hHeld ?_
  rotate_left
  · intro w hSw; (try dsimp only at hSw);  go_simp; try with_reducible rfl
  simp only [Act.put, List.setIfInBounds_toArray, List.set_cons_zero, List.set_cons_succ]
  refine wpAnyH_done (by kernel_rfl) ?_ _
  go_wp2
  go_ret
  exact ⟨rfl, hLb.trans hHeld⟩

set_option maxRecDepth 100000 in
set_option maxHeartbeats 2000000 in
/-- slices.CompareFunc at binds, by match.compare. -/
theorem compareBs (u v : Value) (l m : List BindD) (w : World) (hu : bindK.sl Anyw w u l) (hv : bindK.sl Anyw w v m) :
    Calls Tryz.prog 144 #[u, v, .func (.func 141) #[] #[]] w fun e w' => e = .returned (.int .i64 (cmpBs l m)) ∧ Later w w' := by
  obtain ⟨a, cap, rfl⟩ := Kind.slice hu
  obtain ⟨a', cap', rfl⟩ := Kind.slice hv
  have hl := hu.1.1
  have hm := hv.1.1
  have HU := hide hu
  have HV := hide hv
  clear hu hv
  go_enter Tryz.func144, Tryz.ntmps144
  go_wp2
  go_loopg [13] l.length (fun g i wr => ∃ j : Nat, j + g = l.length ∧ i = .int .i64 j ∧ Hid (cmpBs l m = cmpBs (l.drop j) (m.drop j)) ∧ Hid (j ≤ m.length) ∧ Hid (Later w wr))
  case atStart => exact ⟨0, by omega, rfl, (rfl : _ = _), (Nat.zero_le _ : _ ≤ _), Later.refl _⟩
  case round =>
    obtain ⟨j, hj, rfl, HE, HJ, HL⟩ := hrel
    have hjm := HJ.out
    by_cases hlt : j < l.length
    · obtain ⟨x, hx⟩ : ∃ x, l[j]? = some x := ⟨_, List.getElem?_eq_getElem hlt⟩
      obtain ⟨b1, o1, _, rfl, hb1, rfl, hc⟩ := Kind.sl_at HU.out hx
      have d0 : wr.cell? ⟨b1, o1 + j * 2, none⟩ = some (.string x.1) := by rw [HL.out.cell hb1]; exact hc 0 _ rfl
      have d1 : wr.cell? ⟨b1, o1 + j * 2 + 1, none⟩ = some (.string x.2) := by rw [HL.out.cell hb1]; exact hc 1 _ rfl
      have hbr : b1 < wr.heap.size := Nat.lt_of_lt_of_le hb1 HL.out.size
      have hdx : l.drop j = x :: l.drop (j + 1) := by
        obtain ⟨h1, e1⟩ := List.getElem?_eq_some_iff.1 hx
        rw [List.drop_eq_getElem_cons h1, e1]
      by_cases hlm : j < m.length
      · obtain ⟨y, hy⟩ : ∃ y, m[j]? = some y := ⟨_, List.getElem?_eq_getElem hlm⟩
        obtain ⟨b2, o2, _, rfl, hb2, rfl, hc2⟩ := Kind.sl_at HV.out hy
        have hLa := HL.out.alloc (.cells #[.string x.1, .string x.2] 147)
        have d2 : (wr.alloc (.cells #[.string x.1, .string x.2] 147)).cell? ⟨b2, o2 + j * 2, none⟩ = some (.string y.1) := by rw [hLa.cell hb2]; exact hc2 0 _ rfl
        have d3 : (wr.alloc (.cells #[.string x.1, .string x.2] 147)).cell? ⟨b2, o2 + j * 2 + 1, none⟩ = some (.string y.2) := by rw [hLa.cell hb2]; exact hc2 1 _ rfl
        have hbr2 : b2 < wr.heap.size := Nat.lt_of_lt_of_le hb2 HL.out.size
        have hdy : m.drop j = y :: m.drop (j + 1) := by
          obtain ⟨h1, e1⟩ := List.getElem?_eq_some_iff.1 hy
          rw [List.drop_eq_getElem_cons h1, e1]
        have HC : Hid (Calls Tryz.prog 141 #[.agg #[.string x.1, .string x.2], .agg #[.string y.1, .string y.2]] ((wr.alloc (.cells #[.string x.1, .string x.2] 147)).alloc (.cells #[.string y.1, .string y.2] 147)) fun e w2 => e = .returned (.int .i64 (cmpB x y)) ∧ Hid (Later w w2)) :=
          (compareB x y _).mono fun e w2 ⟨he, h2⟩ => ⟨he, (hLa.alloc _).trans h2⟩
        have E : cmpBs l m = if cmpB x y ≠ 0 then cmpB x y else cmpBs (l.drop (j + 1)) (m.drop (j + 1)) := by rw [HE.out, hdx, hdy]; rfl
        have hjz : ¬ ((m.length : Int) ≤ (j : Int)) := by omega
        clear hc hc2 hx hy hdx hdy hLa
        obtain ⟨x1, x2⟩ := x
        obtain ⟨y1, y2⟩ := y
        dsimp only at *
        generalize cmpB (x1, x2) (y1, y2) = r at *
        by_cases h0 : r = 0
        · subst h0
          have HE1 : Hid (cmpBs l m = cmpBs (l.drop (j + 1)) (m.drop (j + 1))) := by show _ = _; rw [E]; rfl
          clear E HE
          go_wp2_with (go_at_call 141; refine HC.out.mono ?_; rintro e w2 ⟨rfl, hL2⟩)
          go_roundg (l.length - (j + 1))
          case measure => omega
          case rel => exact ⟨j + 1, by omega, by go_num, HE1, (by omega : j + 1 ≤ m.length), hL2⟩
        · have HE1 : Hid (cmpBs l m = r) := by show _ = _; rw [E, if_pos h0]
          have hq : (r != 0) = true := by simpa using h0
          clear E HE h0
          go_wp2_with (go_at_call 141; refine HC.out.mono ?_; rintro e w2 ⟨rfl, hL2⟩)
          go_ret
          exact ⟨by rw [HE1.out]; rfl, hL2.out⟩
      · have HE1 : Hid (cmpBs l m = 1) := by show _ = _; rw [HE.out, hdx, List.drop_eq_nil_of_le (by omega : m.length ≤ j)]; rfl
        have hjz : (m.length : Int) ≤ (j : Int) := by omega
        clear hc hx hdx HE
        obtain ⟨x1, x2⟩ := x
        dsimp only at *
        go_wp2
        go_ret
        exact ⟨by rw [HE1.out]; rfl, HL.out.alloc _⟩
    · have e : j = l.length := by omega
      by_cases hlm : l.length < m.length
      · have HE1 : Hid (cmpBs l m = -1) := by
          show _ = _
          rw [HE.out, List.drop_eq_nil_of_le (by omega), List.drop_eq_getElem_cons (by omega : j < m.length)]; rfl
        have hz : (l.length : Int) < (m.length : Int) := by omega
        clear HE
        go_wp2
        go_ret
        exact ⟨by rw [HE1.out]; rfl, HL.out⟩
      · have HE1 : Hid (cmpBs l m = 0) := by
          show _ = _
          rw [HE.out, List.drop_eq_nil_of_le (by omega), List.drop_eq_nil_of_le (by omega)]; rfl
        have hz : ¬ ((l.length : Int) < (m.length : Int)) := by omega
        clear HE
        go_wp2
        go_ret
        exact ⟨by rw [HE1.out]; rfl, HL.out⟩

theorem enters_compare : ∀ args w, (callFunc 141 args).run Tryz.prog w = .ok (.enter 141 args) w := enters_of Tryz.func141 (by kernel_rfl) rfl
theorem enters_risen1 : ∀ args w, (callFunc 143 args).run Tryz.prog w = .ok (.enter 143 args) w := enters_of Tryz.func143 (by kernel_rfl) rfl

set_option maxHeartbeats 400000 in
theorem risen1 (u v : Value) (l m : List BindD) (w : World) (hu : bindK.sl Anyw w u l) (hv : bindK.sl Anyw w v m) :
    Calls Tryz.prog 143 #[u, v] w fun e w' => e = .returned (.int .i64 (cmpBs l m)) ∧ Later w w' := by
  have HC := hide (compareBs u v l m w hu hv)
  obtain ⟨a, cap, rfl⟩ := Kind.slice hu
  obtain ⟨a', cap', rfl⟩ := Kind.slice hv
  clear hu hv
  generalize cmpBs l m = r at *
  go_enter Tryz.func143, Tryz.ntmps143
  go_wp2_with (go_at_call 144; refine HC.out.mono ?_; rintro e w2 ⟨rfl, hL2⟩; replace hL2 := hide hL2)
  go_ret
  exact ⟨rfl, unhide hL2⟩

end Go.Proofs.YtbohggoeebhdmaaGreatDoor

/- slices.SortFunc at binds, and at lists of binds. -/
namespace Go.Proofs.YtbohggoeebhdmaaGreatDoor
open Go.RowKit Go.Sort Go.Shelf

theorem swo_of {α : Type} {c : α → α → Int} (h : Three c) : SWO (ltOf c) where
  irrefl x := by unfold ltOf; rw [h.refl]; rfl
  trans x y z h1 h2 := by
    unfold ltOf at *
    rw [decide_eq_true_eq] at *
    exact h.trans _ _ _ h1 h2
  ntrans x y z h1 h2 := by
    unfold ltOf at *
    rw [decide_eq_false_iff_not] at *
    have e1 := h.swap x y
    have e2 := h.swap y z
    have e3 := h.swap x z
    have := h.le_trans (a := z) (b := y) (d := x) (by omega) (by omega)
    omega

theorem perm_in {α : Type} {inst : Inhabited α} {d d' : Array α} (h : PermIn 0 d.size d d') : d'.toList.Perm d.toList := by
  obtain ⟨h1, _, h3⟩ := h
  have e : d'.extract 0 d.size = d' := by rw [← h1]; simp
  rw [e] at h3
  simpa using h3

theorem sorted_in {α : Type} {inst : Inhabited α} {c : α → α → Int} (hc : Three c) {n : Nat} {d : Array α} (hn : d.size = n) (h : SortedIn (ltOf c) 0 n d) : d.toList.Pairwise fun a b => c a b ≤ 0 := by
  rw [List.pairwise_iff_getElem]
  intro i j hi hj hij
  have := h i j (Nat.zero_le _) hij (by simp at hj; omega)
  have e1 : d[i]! = d.toList[i] := by rw [getElem!_pos d i (by simpa using hi)]; simp
  have e2 : d[j]! = d.toList[j] := by rw [getElem!_pos d j (by simpa using hj)]; simp
  rw [e1, e2] at this
  unfold ltOf at this
  rw [decide_eq_false_iff_not] at this
  have := hc.swap d.toList[i] d.toList[j]
  omega

instance : Inhabited BindD := ⟨(ByteArray.empty, ByteArray.empty)⟩

theorem isAggB : ∀ w, (isAgg 147).run Tryz.prog w = .ok true w := Tryz.isAgg147
theorem sizeOfB : ∀ w, (Go.sizeOf 147).run Tryz.prog w = .ok 2 w := Tryz.sizeOf147

/-- Only one block has turned, if any. -/
structure OnlyB (p : Option Nat) (w w' : World) : Prop where
  os : w'.os = w.os
  tape : w'.tape = w.tape
  output : w'.output = w.output
  drawn : w.drawn ≤ w'.drawn
  size : w.heap.size ≤ w'.heap.size
  block : ∀ k, k < w.heap.size → p ≠ some k → w'.heap[k]? = w.heap[k]?

theorem OnlyB.refl (p : Option Nat) (w : World) : OnlyB p w w := ⟨rfl, rfl, rfl, Nat.le_refl _, Nat.le_refl _, fun _ _ _ => rfl⟩
theorem OnlyB.of_later {p : Option Nat} {w w' : World} (h : Later w w') : OnlyB p w w' := ⟨h.below.os, h.below.tape, h.below.output, h.drawn, h.size, fun _ hk _ => h.block hk⟩
theorem OnlyB.trans {p : Option Nat} {a b c : World} (h : OnlyB p a b) (k : OnlyB p b c) : OnlyB p a c :=
  ⟨k.os.trans h.os, k.tape.trans h.tape, k.output.trans h.output, Nat.le_trans h.drawn k.drawn, Nat.le_trans h.size k.size, fun i hi ho => (k.block i (Nat.lt_of_lt_of_le hi h.size) ho).trans (h.block i hi ho)⟩
theorem OnlyB.later {p : Option Nat} {w0 a b : World} (h : OnlyB p a b) (h0 : Later w0 a) (hp : ∀ k, p = some k → w0.heap.size ≤ k) : Later w0 b :=
  Later.of_below ⟨h.os.trans h0.below.os, h.tape.trans h0.below.tape, h.output.trans h0.below.output, Nat.le_trans h0.size h.size, fun k hk =>
    (h.block k (Nat.lt_of_lt_of_le hk h0.size) (fun e => by have := hp k e; omega)).trans (h0.block hk)⟩ (Nat.le_trans h0.drawn h.drawn)

theorem frozen_rw {w : World} {g : Nat} (j : Nat) {cs : Array Value} {t : TypeId} (h : w.heap[g]? = some (.cells cs t (0, 0))) : w.frozen? ⟨g, j, none⟩ = false := by
  simp [World.frozen?, h]

theorem holdsB {ty : TypeId} {lo g n cap : Nat} {w : World} {l : List BindD} (h : bindK.own ty lo w (.slice (some ⟨g, 0, none⟩) n cap) l) : HoldsK encB 2 w g 0 l.toArray := by
  have ho := own_cells h
  rcases ho.2 with ⟨e, _⟩ | ⟨g', cap', cur, e, hb, hg, _⟩
  · cases e
  · simp only [Value.slice.injEq, Option.some.injEq, Addr.mk.injEq] at e
    obtain ⟨⟨rfl, _⟩, rfl, rfl⟩ := e
    intro j hj
    rw [size_flatK] at hj
    simp only [List.size_toArray] at hj
    have hj2 : j / 2 < l.length := by omega
    rw [get_flatK _ _ _ _ (by simpa using hj)]
    refine ⟨?_, frozen_rw _ hg⟩
    have e1 := cellsB_at l (j / 2) (j % 2) (Nat.mod_lt _ (by omega))
    rw [List.getElem?_eq_getElem hj2, show j / 2 * 2 + j % 2 = j by omega] at e1
    have e2 : l.toArray[j / 2]! = l[j / 2] := by rw [getElem!_pos _ _ (by simpa using hj2)]; simp
    rw [e2]
    have hm : j % 2 < 2 := Nat.mod_lt _ (by omega)
    have e3 : (encB l[j / 2])[j % 2]? = some ((encB l[j / 2])[j % 2]!) := by
      rw [getElem!_pos _ _ (by simpa [encB] using hm), List.getElem?_eq_getElem]
    have := ho.cells (g := g) rfl j _ (e1.trans e3)
    rwa [Addr.add_lit] at this

/-- slices.SortFunc at binds, by match.compare: in its block. -/
theorem sortBC (lo : Nat) (v : Value) (l : List BindD) (w : World) (h : bindK.own 147 lo w v l) (hl : l.length ≤ 4398046511104) :
    Calls Tryz.prog 140 #[v, .func (.func 141) #[] #[]] w fun e w' => e = .returned (.tuple #[]) ∧ bindK.sl (ofBlock v) w' v (sortB l) ∧ OnlyB v.ownBlock w w' := by
  have hlen : (sortB l).length = l.length := (sortBy_perm l).length_eq
  rcases (own_cells h).2 with ⟨rfl, e⟩ | ⟨g, cap, cur, rfl, hbg, hg, hnc, _⟩
  · have : l = [] := List.eq_nil_of_length_eq_zero e
    subst this
    have e0 : sortB [] = [] := List.eq_nil_of_length_eq_zero hlen
    exact (AnyF.slices_SortFunc_none Tryz.sortBinds none 0 _ w).mono fun e w' ⟨he, hw⟩ => ⟨he, by rw [e0]; exact bindK.sl_nil _ _ _ _, by rw [hw]; exact OnlyB.refl _ _⟩
  · have hgl : g < w.heap.size := (Array.getElem?_eq_some_iff.1 hg).1
    have hc := AnyQ.slices_SortFunc Tryz.sortBinds 2 isAggB sizeOfB encB (fun _ => rfl) (fun x v hv => by
      simp [encB] at hv
      rcases hv with rfl | rfl <;> rfl) cmpB (swo_of three_cmpB) 141 #[] g 0 cap l.toArray w enters_compare (fun m os dk hd x y => (compareB x y _).mono fun e w' ⟨he, hw⟩ => ⟨he, hw⟩) (holdsB h) hgl (by simp; omega)
    have hsz : l.toArray.size = l.length := by simp
    rw [hsz] at hc
    refine hc.mono ?_
    rintro e w' ⟨he, d', n, os, hp, hs, rfl⟩
    have hd' : d'.size = l.toArray.size := hp.1
    have hkk : ∀ k, k < w.heap.size → k ≠ g → (sortWorldK encB 2 w g 0 n d' os).heap[k]? = w.heap[k]? := fun k hk hne => by
      unfold sortWorldK
      rw [heap_grow_old _ _ (by rw [size_putRowK]; exact hk)]
      simp only [putRowK, putRow, mapBlock]
      rw [Array.getElem?_modify, if_neg (fun e => hne e.symm)]
      rfl
    have hss : w.heap.size ≤ (sortWorldK encB 2 w g 0 n d' os).heap.size := by
      unfold sortWorldK
      rw [size_grow, size_putRowK]
      exact Nat.le_add_right _ _
    have hpl : d'.toList.Perm l := by have := perm_in (d := l.toArray) (d' := d') (by rw [hsz]; exact hp); simpa using this
    have e : sortB l = d'.toList := (sortBy_of three_cmpB hpl (sorted_in three_cmpB (by rw [hd', hsz]) hs)).symm
    refine ⟨he, ?_, ⟨rfl, rfl, rfl, Nat.le_add_right _ _, hss, fun k hk ho => hkk k hk (fun e => ho (by rw [e]; rfl))⟩⟩
    have H := holdsK_sortWorldK_c encB 2 w g 0 l.toArray d' n os (holdsB h) hgl hd'
    refine ⟨⟨by rw [hlen]; omega, hnc⟩, some ⟨g, 0, none⟩, cap, by rw [hlen], fun _ => ⟨g, 0, rfl, rfl, Nat.lt_of_lt_of_le hgl hss, fun i x hi => ⟨_, rfl, fun j u hu => ?_⟩⟩⟩
    rw [e] at hi
    have hil : i < d'.size := by simpa using (List.getElem?_eq_some_iff.1 hi).1
    have hj : j < 2 := (List.getElem?_eq_some_iff.1 hu).1
    have hcell := (H.cell (i := i) (c := j) hil hj).1
    have e2 : d'[i]! = x := by
      rw [getElem!_pos d' i hil]
      have := (List.getElem?_eq_some_iff.1 hi).2
      simpa using this
    rw [e2] at hcell
    have e3 : (encB x)[j]! = u := by
      rw [getElem!_pos _ _ (by simpa [encB] using hj)]
      exact (List.getElem?_eq_some_iff.1 hu).2
    rw [e3] at hcell
    exact hcell

/-- A list of a row, in the sort's own words. -/
structure ElemL (w : World) (blk : Nat) : Type where
  a : Option Addr
  cap : Nat
  l : List BindD
  h : bindK.sl (fun k => k ≠ blk) w (.slice a l.length cap) l

def ElemL.enc {w : World} {blk : Nat} (x : ElemL w blk) : Value := .slice x.a x.l.length x.cap
def ElemL.no (w : World) (blk : Nat) : ElemL w blk := ⟨none, 0, [], bindK.sl_nil _ _ _ _⟩
def ElemL.cmp {w : World} {blk : Nat} (x y : ElemL w blk) : Int := cmpBs x.l y.l

theorem ElemL.swo (w : World) (blk : Nat) : SWO (ltOf (ElemL.cmp (w := w) (blk := blk))) where
  irrefl x := (swo_of three_cmpBs).irrefl x.l
  trans x y z := (swo_of three_cmpBs).trans x.l y.l z.l
  ntrans x y z := (swo_of three_cmpBs).ntrans x.l y.l z.l

theorem heap_sortL {α : Type} (inst : Inhabited α) (enc : α → Value) (w : World) (blk off m : Nat) (d : Array α) (os : Array Obj) (k : Nat) (hk : k < w.heap.size) (hne : k ≠ blk) : (@sortWorld α inst enc w blk off m d os).heap[k]? = w.heap[k]? := by
  unfold sortWorld
  rw [heap_grow_old _ _ (by simp only [putRow, mapBlock, Array.size_modify]; exact hk)]
  simp only [putRow, mapBlock]
  rw [Array.getElem?_modify, if_neg (fun e => hne e.symm)]
  rfl

theorem size_sortL {α : Type} (inst : Inhabited α) (enc : α → Value) (w : World) (blk off m : Nat) (d : Array α) (os : Array Obj) : w.heap.size ≤ (@sortWorld α inst enc w blk off m d os).heap.size := by
  unfold sortWorld
  rw [size_grow]
  simp only [putRow, mapBlock, Array.size_modify]
  exact Nat.le_add_right _ _

theorem ElemL.sl {w W : World} {blk : Nat} (x : ElemL w blk) (hs : w.heap.size ≤ W.heap.size) (hk : ∀ k, k < w.heap.size → k ≠ blk → W.heap[k]? = w.heap[k]?) : bindK.sl (fun k => k ≠ blk) W x.enc x.l :=
  Kind.sl_kept x.h hs hk

theorem lays1 (w : World) (blk off size : Nat) : @CmpLays1 (ElemL w blk) ⟨ElemL.no w blk⟩ Tryz.prog 143 #[] ElemL.enc ElemL.cmp blk off size w := by
  intro m os dk hd x y
  have hs := size_sortL ⟨ElemL.no w blk⟩ ElemL.enc w blk off m dk os
  have hk := heap_sortL ⟨ElemL.no w blk⟩ ElemL.enc w blk off m dk os
  exact (risen1 _ _ x.l y.l _ (Kind.sl_any (x.sl hs hk)) (Kind.sl_any (y.sl hs hk))).mono fun e w' ⟨he, hw⟩ => ⟨he, hw⟩

/-- slices.SortFunc at lists of binds, by match.risen's closure: a row of lists that lie apart from it. -/
theorem sortLC (lo : Nat) (tyS : TypeId) (v : Value) (ps : List (Value × List BindD)) (w : World) (ho : w.ownsRow lo tyS 1 v ps.length (ps.map (·.1))) (hp : ∀ p ∈ ps, bindK.sl (fun k => v.ownBlock ≠ some k) w p.1 p.2) (hl : ps.length ≤ 4398046511104) :
    Calls Tryz.prog 142 #[v, .func (.func 143) #[] #[]] w fun e w' => e = .returned (.tuple #[]) ∧ listK.sl (From 0) w' v (sortBy cmpBs (ps.map (·.2))) ∧ OnlyB v.ownBlock w w' := by
  have hlen : (sortBy cmpBs (ps.map (·.2))).length = ps.length := by rw [(sortBy_perm (c := cmpBs) (ps.map (·.2))).length_eq]; simp
  rcases ho.2 with ⟨rfl, e⟩ | ⟨g, cap, cur, rfl, hbg, hg, hnc, _⟩
  · have : ps = [] := List.eq_nil_of_length_eq_zero e
    subst this
    have e0 : sortBy cmpBs (([] : List (Value × List BindD)).map (·.2)) = [] := List.eq_nil_of_length_eq_zero hlen
    exact (AnyF.slices_SortFunc_none { Tryz.sortLists with } none 0 _ w).mono fun e w' ⟨he, hw⟩ => ⟨he, by rw [e0]; exact listK.sl_nil _ _ _ _, by rw [hw]; exact OnlyB.refl _ _⟩
  · have hgl : g < w.heap.size := (Array.getElem?_eq_some_iff.1 hg).1
    have hel : ∀ i : Fin ps.length, ∃ x : ElemL w g, x.l = (ps[i.1]'i.2).2 ∧ x.enc = (ps[i.1]'i.2).1 := fun i => by
      have h1 := hp _ (List.getElem_mem i.2)
      obtain ⟨a, c, e⟩ := Kind.slice h1
      refine ⟨⟨a, c, (ps[i.1]'i.2).2, ?_⟩, rfl, e.symm⟩
      rw [← e]
      exact Kind.sl_mono h1 fun k _ hk e' => hk (by rw [e']; rfl)
    letI : Inhabited (ElemL w g) := ⟨ElemL.no w g⟩
    obtain ⟨d, hd⟩ : ∃ d : Array (ElemL w g), d = Array.ofFn fun i => Classical.choose (hel i) := ⟨_, rfl⟩
    have hds : d.size = ps.length := by rw [hd]; simp
    have hdl : d.toList.map ElemL.l = ps.map (·.2) := by
      apply List.ext_getElem
      · simp [hds]
      · intro i h1 h2
        have hi : i < ps.length := by simpa using h2
        simp only [List.getElem_map, Array.getElem_toList]
        have := (Classical.choose_spec (hel ⟨i, hi⟩)).1
        rw [← this]
        congr 1
        simp only [hd, Array.getElem_ofFn]
    have hH : Holds ElemL.enc w g 0 d := by
      intro j hj
      have hj' : j < ps.length := by omega
      refine ⟨?_, frozen_rw _ hg⟩
      have e1 : d[j]! = Classical.choose (hel ⟨j, hj'⟩) := by
        rw [getElem!_pos d j hj]
        simp only [hd, Array.getElem_ofFn]
      rw [e1, (Classical.choose_spec (hel ⟨j, hj'⟩)).2]
      have := ho.cells (g := g) rfl j _ (by rw [List.getElem?_map, List.getElem?_eq_getElem hj']; rfl)
      rwa [Addr.add_lit] at this
    have hc := Any.slices_SortFunc Tryz.sortLists ElemL.enc (fun _ => rfl) ElemL.cmp (ElemL.swo w g) 143 #[] g 0 cap d w enters_risen1 (lays1 w g 0 d.size) hH hgl (by omega)
    rw [hds] at hc
    refine hc.mono ?_
    rintro e w' ⟨he, d', n, os, hpm, hs, rfl⟩
    have hd' : d'.size = d.size := hpm.1
    have hkk := heap_sortL ⟨ElemL.no w g⟩ ElemL.enc w g 0 n d' os
    have hss := size_sortL ⟨ElemL.no w g⟩ ElemL.enc w g 0 n d' os
    have hpl : (d'.toList.map ElemL.l).Perm (ps.map (·.2)) := by
      rw [← hdl]
      exact (perm_in (d := d) (d' := d') (by rw [hds]; exact hpm)).map _
    have hso : (d'.toList.map ElemL.l).Pairwise fun a b => cmpBs a b ≤ 0 := by
      rw [List.pairwise_map, List.pairwise_iff_getElem]
      intro i j hi hj hij
      have := hs i j (Nat.zero_le _) hij (by simp at hj; omega)
      have e1 : d'[i]! = d'.toList[i] := by rw [getElem!_pos d' i (by simpa using hi)]; simp
      have e2 : d'[j]! = d'.toList[j] := by rw [getElem!_pos d' j (by simpa using hj)]; simp
      rw [e1, e2] at this
      unfold ltOf ElemL.cmp at this
      rw [decide_eq_false_iff_not] at this
      have := three_cmpBs.swap d'.toList[i].l d'.toList[j].l
      omega
    have e : sortBy cmpBs (ps.map (·.2)) = d'.toList.map ElemL.l := (sortBy_of three_cmpBs hpl hso).symm
    refine ⟨he, ?_, ⟨rfl, rfl, rfl, Nat.le_add_right _ _, hss, fun k hk ho => hkk k hk (fun e => ho (by rw [e]; rfl))⟩⟩
    have H := holds_sortWorld ElemL.enc w g 0 n d d' os hgl hH hd'
    refine ⟨⟨by rw [hlen]; omega, hnc⟩, some ⟨g, 0, none⟩, cap, by rw [hlen], fun _ => ⟨g, 0, rfl, Nat.zero_le _, Nat.lt_of_lt_of_le hgl hss, fun i x hi => ?_⟩⟩
    rw [e, List.getElem?_map] at hi
    cases hx : d'.toList[i]? with
    | none => rw [hx] at hi; cases hi
    | some y =>
      rw [hx] at hi
      cases hi
      have hil : i < d'.size := by simpa using (List.getElem?_eq_some_iff.1 hx).1
      refine ⟨[y.enc], ⟨y.enc, rfl, Kind.sl_mono (y.sl hss hkk) fun _ _ _ => Nat.zero_le _⟩, fun j u hu => ?_⟩
      cases j with
      | succ j => simp at hu
      | zero =>
        simp at hu
        subst hu
        have hcell := (H i hil).1
        have e2 : d'[i]! = y := by
          rw [getElem!_pos d' i hil]
          have := (List.getElem?_eq_some_iff.1 hx).2
          simpa using this
        rw [e2] at hcell
        show World.cell? _ ⟨g, 0 + i * 1 + 0, none⟩ = _
        rw [Nat.mul_one, Nat.add_zero]; exact hcell

end Go.Proofs.YtbohggoeebhdmaaGreatDoor
