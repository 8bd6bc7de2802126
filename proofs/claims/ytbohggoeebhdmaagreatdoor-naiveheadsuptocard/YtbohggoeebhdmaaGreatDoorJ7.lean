import Derived.Test.YtbohggoeebhdmaaGreatDoorJ6
import Derived.Lib.SliceRun
import Derived.Shelf.SlSortCmp.WholeK
import Derived.Test.YtbohggoeebhdmaaGreatDoorProg
/- Sets of facts, in plain Lean: lists that rise, each fact once. -/
namespace Go.Proofs.YtbohggoeebhdmaaGreatDoor
open Go.RowKit Go.Sort

/-- Rising, each once. -/
def Rises (s : List FactD) : Prop := s.Pairwise fun a b => cmpF a b < 0

theorem le_lt {a b c : FactD} (h : cmpF a b ≤ 0) (k : cmpF b c < 0) : cmpF a c < 0 := by
  by_cases e : cmpF a b = 0
  · rw [three_cmpF.zero _ _ e]; exact k
  · exact three_cmpF.trans a b c (by omega) k

theorem lt_irrefl {a : FactD} (h : cmpF a a < 0) : False := by rw [three_cmpF.refl] at h; omega

theorem lt_asym {a b : FactD} (h : cmpF a b < 0) (k : cmpF b a < 0) : False := lt_irrefl (three_cmpF.trans a b a h k)

/-- A set is told by what is in it. -/
theorem Rises.ext : ∀ {s t : List FactD}, Rises s → Rises t → (∀ f, f ∈ s ↔ f ∈ t) → s = t
  | [], [], _, _, _ => rfl
  | [], b :: t, _, _, h => by have := (h b).2 (List.mem_cons_self ..); cases this
  | a :: s, [], _, _, h => by have := (h a).1 (List.mem_cons_self ..); cases this
  | a :: s, b :: t, hs, ht, h => by
    have hs' := List.pairwise_cons.1 hs
    have ht' := List.pairwise_cons.1 ht
    have e : a = b := by
      rcases List.mem_cons.1 ((h a).1 (List.mem_cons_self ..)) with e | e
      · exact e
      · rcases List.mem_cons.1 ((h b).2 (List.mem_cons_self ..)) with e' | e'
        · exact e'.symm
        · exact absurd (ht'.1 a e) fun k => lt_asym k (hs'.1 b e')
    subst e
    rw [Rises.ext hs'.2 ht'.2 fun f => ⟨fun hf => ?_, fun hf => ?_⟩]
    · rcases List.mem_cons.1 ((h f).1 (List.mem_cons_of_mem _ hf)) with e | e
      · subst e; exact absurd (hs'.1 f hf) lt_irrefl
      · exact e
    · rcases List.mem_cons.1 ((h f).2 (List.mem_cons_of_mem _ hf)) with e | e
      · subst e; exact absurd (ht'.1 f hf) lt_irrefl
      · exact e

/-- s is the set of l's facts. -/
def SetOf (s l : List FactD) : Prop := Rises s ∧ (∀ f, f ∈ s ↔ f ∈ l) ∧ s.length ≤ l.length

theorem getD_mem_take {l : List FactD} {i k : Nat} (hi : i < k) (hk : k ≤ l.length) : l.getD i noFact ∈ l.take k := by
  rw [List.getD_eq_getElem?_getD, List.getElem?_eq_getElem (by omega)]
  exact List.mem_take_iff_getElem.2 ⟨i, by omega, rfl⟩

theorem mem_take_getD {l : List FactD} {k : Nat} {f : FactD} (h : f ∈ l.take k) : ∃ i, i < k ∧ i < l.length ∧ f = l.getD i noFact := by
  obtain ⟨i, hi, rfl⟩ := List.mem_take_iff_getElem.1 h
  exact ⟨i, by omega, by omega, by rw [List.getD_eq_getElem?_getD, List.getElem?_eq_getElem (by omega)]; rfl⟩

theorem take_succ {l : List FactD} {k : Nat} (h : k < l.length) : l.take (k + 1) = l.take k ++ [l.getD k noFact] := by
  rw [List.take_succ_eq_append_getElem h, List.getD_eq_getElem?_getD, List.getElem?_eq_getElem h]; rfl

theorem sorted_getD {l : List FactD} (h : l.Pairwise fun a b => cmpF a b ≤ 0) {i j : Nat} (hij : i ≤ j) (hj : j < l.length) : cmpF (l.getD i noFact) (l.getD j noFact) ≤ 0 := by
  by_cases e : i = j
  · subst e; rw [three_cmpF.refl]; exact Int.le_refl _
  · have := List.pairwise_iff_getElem.1 h i j (by omega) hj (by omega)
    rw [List.getD_eq_getElem?_getD, List.getD_eq_getElem?_getD, List.getElem?_eq_getElem (by omega), List.getElem?_eq_getElem hj]
    exact this

/-- Is a fact another one than the one ahead? -/
def newP (l : List FactD) (k : Nat) : Bool := decide (k = 0) || !decide (cmpF (l.getD (k - 1) noFact) (l.getD k noFact) = 0)

/-- Of facts that do not fall: each one once. -/
theorem pick_new {l : List FactD} (h : l.Pairwise fun a b => cmpF a b ≤ 0) : ∀ k, k ≤ l.length → SetOf (pick (newP l) l k) (l.take k)
  | 0, _ => ⟨List.Pairwise.nil, fun f => by simp [pick], by simp [pick]⟩
  | k + 1, hk => by
    obtain ⟨i1, i2, _⟩ := pick_new h k (by omega)
    have hlen : (pick (newP l) l (k + 1)).length ≤ (l.take (k + 1)).length := by
      have := pick_le (newP l) l (k + 1)
      rw [List.length_take]; omega
    rw [take_succ (by omega)] at hlen
    rw [take_succ (by omega)]
    cases hp : newP l k with
    | true =>
      have e : pick (newP l) l (k + 1) = pick (newP l) l k ++ [l.getD k noFact] := by simp [pick, hp]
      rw [e]
      refine ⟨?_, fun f => by rw [List.mem_append, List.mem_append, i2 f], by rw [← e]; exact hlen⟩
      unfold Rises
      rw [List.pairwise_append]
      refine ⟨i1, List.pairwise_singleton _ _, fun a ha b hb => ?_⟩
      rw [List.mem_singleton] at hb
      subst hb
      obtain ⟨i, hi, hil, rfl⟩ := mem_take_getD ((i2 a).1 ha)
      refine le_lt (sorted_getD h (i := i) (j := k - 1) (by omega) (by omega)) ?_
      have h1 := sorted_getD h (i := k - 1) (j := k) (by omega) (by omega)
      have h2 : cmpF (l.getD (k - 1) noFact) (l.getD k noFact) ≠ 0 := by
        intro e
        unfold newP at hp
        rw [decide_eq_true e, decide_eq_false (by omega)] at hp
        cases hp
      omega
    | false =>
      have e : pick (newP l) l (k + 1) = pick (newP l) l k := by simp [pick, hp]
      rw [e]
      refine ⟨i1, fun f => ?_, by rw [← e]; exact hlen⟩
      rw [i2 f, List.mem_append, List.mem_singleton]
      refine ⟨Or.inl, fun hf => hf.elim id fun hf => ?_⟩
      unfold newP at hp
      rw [Bool.or_eq_false_iff, decide_eq_false_iff_not, Bool.not_eq_false', decide_eq_true_eq] at hp
      have := three_cmpF.zero _ _ hp.2
      rw [hf, ← this]
      exact getD_mem_take (by omega) (by omega)

/-- Those that p takes. -/
theorem pick_filter (q : FactD → Bool) (l : List FactD) : ∀ k, k ≤ l.length → pick (fun i => q (l.getD i noFact)) l k = (l.take k).filter q
  | 0, _ => by simp [pick]
  | k + 1, hk => by
    have e : pick (fun i => q (l.getD i noFact)) l (k + 1) = if q (l.getD k noFact) then pick (fun i => q (l.getD i noFact)) l k ++ [l.getD k noFact] else pick (fun i => q (l.getD i noFact)) l k := rfl
    rw [e, take_succ (by omega), List.filter_append, ← pick_filter q l k (by omega)]
    generalize l.getD k noFact = x
    cases hq : q x <;> simp [hq]

/-- Two lists with the same facts have one set. -/
theorem SetOf.same {s t l m : List FactD} (h : SetOf s l) (k : SetOf t m) (e : ∀ f, f ∈ l ↔ f ∈ m) : s = t :=
  h.1.ext k.1 fun f => (h.2.1 f).trans ((e f).trans (k.2.1 f).symm)

/-- A set's set is itself. -/
theorem SetOf.eq {s t l : List FactD} (h : SetOf s l) (k : Rises t) (e : ∀ f, f ∈ l ↔ f ∈ t) : s = t :=
  h.1.ext k fun f => (h.2.1 f).trans (e f)

end Go.Proofs.YtbohggoeebhdmaaGreatDoor

/- The walks of fact.Own, fact.unlikeLast and its closure. -/
namespace Go.Proofs.YtbohggoeebhdmaaGreatDoor
open Go.RowKit Go.Sort

theorem pick_all (l : List FactD) : ∀ k, k ≤ l.length → pick (fun _ => true) l k = l.take k
  | 0, _ => by simp [pick]
  | k + 1, h => by
    simp only [pick, if_true]
    rw [pick_all l k (by omega), List.take_succ_eq_append_getElem (by omega), List.getD_eq_getElem?_getD, List.getElem?_eq_getElem (by omega)]; rfl

set_option maxHeartbeats 400000 in
theorem own1 (v : Value) (f : FactD) (w : World) (h : FactV w v f) : Calls Tryz.prog 75 #[v] w fun e w' => e = .returned (.bool true) ∧ Later w w' := by
  obtain ⟨s, rfl, h0, a, cap, rfl, hc⟩ := h
  clear hc
  go_enter Tryz.func75, Tryz.ntmps75
  go_wp2
  go_ret
  exact ⟨rfl, (by repeat (first | exact Later.refl _ | assumption | refine Later.drewN ?_ _ | refine Later.drew ?_ | refine Later.alloc ?_ _ | refine Later.grow ?_ _))⟩

theorem enters_own1 : ∀ args w, (callFunc 75 args).run Tryz.prog w = .ok (.enter 75 args) w := enters_of Tryz.func75 (by kernel_rfl) rfl
theorem enters_ul1 : ∀ args w, (callFunc 132 args).run Tryz.prog w = .ok (.enter 132 args) w := enters_of Tryz.func132 (by kernel_rfl) rfl
theorem enters_less1 : ∀ args w, (callFunc 54 args).run Tryz.prog w = .ok (.enter 54 args) w := enters_of Tryz.func54 (by kernel_rfl) rfl

set_option maxHeartbeats 400000 in
/-- fact.Own: a copy, in memory of its own. -/
theorem ownC (v : Value) (l : List FactD) (w : World) (h : Facts w v l) : Calls Tryz.prog 40 #[v] w fun e w' => ∃ v', e = .returned v' ∧ OwnF w' w.heap.size v' l ∧ Later w w' := by
  have hk := keep 75 #[] enters_own1 w.heap.size w.heap.size w w v l (fun _ => true) (fun _ _ => True) h (Later.refl _) (Nat.le_refl _) (Nat.le_refl _)
    ⟨fun k w' v' _ hL _ _ hf => (own1 v' _ w' (hf.later hL)).mono fun e w'' ⟨he, hw⟩ => ⟨he, hw.only, trivial⟩, fun _ _ _ _ _ _ => trivial⟩ trivial
  rw [pick_all l l.length (Nat.le_refl _), List.take_length] at hk
  obtain ⟨a, cap, rfl⟩ := sliceFacts h
  have HK := hide hk
  clear hk h
  go_enter Tryz.func40, Tryz.ntmps40
  go_wp2_with (go_at_call 53; refine HK.out.mono ?_; rintro e w' ⟨v', rfl, ho, hO, _⟩)
  go_ret
  exact ⟨v', rfl, ho, hO.later (Later.refl _) (Nat.le_refl _)⟩

/-- The blocks that fact.unlikeLast's closure keeps. -/
def lastAt (w : World) (lo : Nat) (n : ByteArray) (s : Value) (b : Bool) : Prop :=
  w.heap[lo]? = some (.cells #[.string n, s] 54 (0, 0)) ∧ w.heap[lo + 1]? = some (.cells #[.bool b] 4 (0, 0))

set_option maxHeartbeats 400000 in
theorem unlikeLast (w : World) : Calls Tryz.prog 94 #[] w fun e w' =>
    e = .returned (.func (.func 132) #[] #[.pointer (some ⟨w.heap.size + 1, 0, none⟩), .pointer (some ⟨w.heap.size, 0, none⟩)]) ∧ Later w w' ∧ w'.heap.size = w.heap.size + 2 ∧ lastAt w' w.heap.size ByteArray.empty (.slice none 0 0) false := by
  go_enter Tryz.func94, Tryz.ntmps94
  go_wp2
  go_ret
  refine ⟨rfl, (by repeat (first | exact Later.refl _ | assumption | refine Later.drewN ?_ _ | refine Later.drew ?_ | refine Later.alloc ?_ _ | refine Later.grow ?_ _)), by simp, ?_, ?_⟩
  · rw [Below.heap_alloc _ _ _ (by simp), heap_alloc_new]; rfl
  · have := heap_alloc_new (w.alloc (.cells #[.string { data := #[] }, .slice none 0 0] 54)) (.cells #[.bool false] 4)
    simpa using this

theorem heap_setCell_at {w : World} {g j : Nat} {cs : Array Value} {t : TypeId} {fr : Nat × Nat} (h : w.heap[g]? = some (.cells cs t fr)) (u : Value) : (w.setCell ⟨g, j, none⟩ u).heap[g]? = some (.cells (cs.setIfInBounds j u) t fr) := by
  simp [World.setCell, Array.getElem?_modify, h]

theorem frozen_of_row {w : World} {g : Nat} (j : Nat) {cs : Array Value} {t : TypeId} (h : w.heap[g]? = some (.cells cs t (0, 0))) : w.frozen? ⟨g, j, none⟩ = false := by
  simp [World.frozen?, h]

/-- Behind the closure's stores. -/
theorem last_stored {w w2 : World} {lo : Nat} {n n' : ByteArray} {s s' : Value} {b : Bool} (hl : lastAt w lo n s b) (hL : Later w w2) :
    Only lo (lo + 2) w (((w2.setCell ⟨lo, 0, none⟩ (.string n')).setCell ⟨lo, 1, none⟩ s').setCell ⟨lo + 1, 0, none⟩ (.bool true)) ∧ lastAt (((w2.setCell ⟨lo, 0, none⟩ (.string n')).setCell ⟨lo, 1, none⟩ s').setCell ⟨lo + 1, 0, none⟩ (.bool true)) lo n' s' true := by
  have hb1 : lo < w.heap.size := (Array.getElem?_eq_some_iff.1 hl.1).1
  have hb2 : lo + 1 < w.heap.size := (Array.getElem?_eq_some_iff.1 hl.2).1
  have h1 : w2.heap[lo]? = some (.cells #[.string n, s] 54 (0, 0)) := by rw [hL.block hb1]; exact hl.1
  have h2 : w2.heap[lo + 1]? = some (.cells #[.bool b] 4 (0, 0)) := by rw [hL.block hb2]; exact hl.2
  refine ⟨⟨hL.below.os, hL.below.tape, hL.below.output, hL.drawn, by simpa [World.setCell] using hL.size, fun k hk ho => ?_⟩, ?_, ?_⟩
  · rw [Below.heap_setCell _ _ _ _ (by show k ≠ lo + 1; omega), Below.heap_setCell _ _ _ _ (by show k ≠ lo; omega), Below.heap_setCell _ _ _ _ (by show k ≠ lo; omega)]
    exact hL.block hk
  · rw [Below.heap_setCell _ _ _ _ (by show lo ≠ lo + 1; omega)]
    rw [heap_setCell_at (heap_setCell_at h1 _)]
    rfl
  · rw [heap_setCell_at (by rw [Below.heap_setCell _ _ _ _ (by show lo + 1 ≠ lo; omega), Below.heap_setCell _ _ _ _ (by show lo + 1 ≠ lo; omega)]; exact h2)]
    rfl

set_option maxHeartbeats 1000000 in
theorem unlikeLast1_yes (lo : Nat) (w : World) (n : ByteArray) (s : Value) (v : Value) (f g : FactD) (hl : lastAt w lo n s true) (hg : FactV w (.agg #[.string n, s]) g) (hf : FactV w v f) :
    Calls Tryz.prog 132 #[v, .pointer (some ⟨lo + 1, 0, none⟩), .pointer (some ⟨lo, 0, none⟩)] w fun e w' => e = .returned (.bool (!decide (cmpF g f = 0))) ∧
      ∃ w2, Later w w2 ∧ ∃ s', v = .agg #[.string f.1, s'] ∧ w' = ((w2.setCell ⟨lo, 0, none⟩ (.string f.1)).setCell ⟨lo, 1, none⟩ s').setCell ⟨lo + 1, 0, none⟩ (.bool true) := by
  have hC := fun w' (hw : Later w w') => compareF _ _ g f w' (hg.later hw) (hf.later hw)
  have HC := hide hC
  obtain ⟨s1, rfl, h0, a, cap, rfl, hc⟩ := hf
  obtain ⟨s2, e2, l0, a2, cap2, rfl, hc2⟩ := hg
  simp at e2
  obtain ⟨rfl, rfl⟩ := e2
  clear hc hc2 hC
  have hb1 : lo < w.heap.size := (Array.getElem?_eq_some_iff.1 hl.1).1
  have hb2 : lo + 1 < w.heap.size := (Array.getElem?_eq_some_iff.1 hl.2).1
  have c0 : w.cell? ⟨lo, 0, none⟩ = some (.string g.1) := by rw [cell_of_row _ _ _ _ _ _ hl.1]; rfl
  have c1 : w.cell? ⟨lo, 1, none⟩ = some (.slice a2 g.2.length cap2) := by rw [cell_of_row _ _ _ _ _ _ hl.1]; rfl
  have c2 : w.cell? ⟨lo + 1, 0, none⟩ = some (.bool true) := by rw [cell_of_row _ _ _ _ _ _ hl.2]; rfl
  obtain ⟨fn, fl⟩ := f
  obtain ⟨gn, gl⟩ := g
  dsimp only at *
  go_enter Tryz.func132, Tryz.ntmps132
  go_wp2_with fail
  refine (HC.out _ ((Later.refl _).alloc _)).mono ?_
  rintro e w2 ⟨rfl, hL⟩
  have hL0 : Later w w2 := ((Later.refl _).alloc _).trans hL
  have z0 : w2.cell? ⟨w.heap.size, 0, none⟩ = some (.string fn) := by rw [hL.cell (by simp)]; simp
  have z1 : w2.cell? ⟨w.heap.size, 1, none⟩ = some (.slice a fl.length cap) := by rw [hL.cell (by simp)]; simp
  have z2 : w2.cell? ⟨lo, 0, none⟩ = some (.string gn) := by rw [hL0.cell hb1]; exact c0
  have z3 : w2.cell? ⟨lo, 1, none⟩ = some (.slice a2 gl.length cap2) := by rw [hL0.cell hb1]; exact c1
  have z4 : w2.cell? ⟨lo + 1, 0, none⟩ = some (.bool true) := by rw [hL0.cell hb2]; exact c2
  have y0 : w2.frozen? ⟨lo, 0, none⟩ = false := by rw [hL0.frozen hb1]; exact frozen_of_row 0 hl.1
  have y1 : w2.frozen? ⟨lo, 1, none⟩ = false := by rw [hL0.frozen hb1]; exact frozen_of_row 1 hl.1
  have y2 : w2.frozen? ⟨lo + 1, 0, none⟩ = false := by rw [hL0.frozen hb2]; exact frozen_of_row 0 hl.2
  go_wp2
  go_ret
  refine ⟨ret_bool ?_, w2, hL0, _, rfl, rfl⟩
  rw [Bool.eq_iff_iff]; simp

set_option maxHeartbeats 1000000 in
theorem unlikeLast1_no (lo : Nat) (w : World) (n : ByteArray) (a2 : Option Addr) (m2 cap2 : Nat) (v : Value) (f : FactD) (hl : lastAt w lo n (.slice a2 m2 cap2) false) (hf : FactV w v f) :
    Calls Tryz.prog 132 #[v, .pointer (some ⟨lo + 1, 0, none⟩), .pointer (some ⟨lo, 0, none⟩)] w fun e w' => e = .returned (.bool true) ∧
      ∃ w2, Later w w2 ∧ ∃ s', v = .agg #[.string f.1, s'] ∧ w' = ((w2.setCell ⟨lo, 0, none⟩ (.string f.1)).setCell ⟨lo, 1, none⟩ s').setCell ⟨lo + 1, 0, none⟩ (.bool true) := by
  obtain ⟨s1, rfl, h0, a, cap, rfl, hc⟩ := hf
  clear hc
  have hb1 : lo < w.heap.size := (Array.getElem?_eq_some_iff.1 hl.1).1
  have hb2 : lo + 1 < w.heap.size := (Array.getElem?_eq_some_iff.1 hl.2).1
  have z2 : w.cell? ⟨lo, 0, none⟩ = some (.string n) := by rw [cell_of_row _ _ _ _ _ _ hl.1]; rfl
  have z3 : w.cell? ⟨lo, 1, none⟩ = some (.slice a2 m2 cap2) := by rw [cell_of_row _ _ _ _ _ _ hl.1]; rfl
  have z4 : w.cell? ⟨lo + 1, 0, none⟩ = some (.bool false) := by rw [cell_of_row _ _ _ _ _ _ hl.2]; rfl
  have y0 : w.frozen? ⟨lo, 0, none⟩ = false := frozen_of_row 0 hl.1
  have y1 : w.frozen? ⟨lo, 1, none⟩ = false := frozen_of_row 1 hl.1
  have y2 : w.frozen? ⟨lo + 1, 0, none⟩ = false := frozen_of_row 0 hl.2
  obtain ⟨fn, fl⟩ := f
  dsimp only at *
  go_enter Tryz.func132, Tryz.ntmps132
  go_wp2
  go_ret
  refine ⟨rfl, w.alloc (.cells #[.string fn, .slice a fl.length cap] 54), (Later.refl _).alloc _, _, rfl, ?_⟩
  rw [World.setCell_alloc_past _ _ _ _ (by exact hb1), World.setCell_alloc_past _ _ _ _ (by simpa using hb1), World.setCell_alloc_past _ _ _ _ (by simpa using hb2)]

/-- What fact.unlikeLast's closure keeps, ahead of round k. -/
def LastK (w0 : World) (lo : Nat) (l : List FactD) (k : Nat) (w : World) : Prop :=
  ∃ n a m c, lastAt w lo n (.slice a m c) (decide (0 < k)) ∧ (0 < k → FactV w0 (.agg #[.string n, .slice a m c]) (l.getD (k - 1) noFact))

theorem asked_ul (w0 : World) (l : List FactD) :
    Asked 132 #[.pointer (some ⟨w0.heap.size + 1, 0, none⟩), .pointer (some ⟨w0.heap.size, 0, none⟩)] w0.heap.size (w0.heap.size + 2) w0 l (newP l) (LastK w0 w0.heap.size l) where
  ask k w' v hk hL _ hS hf := by
    obtain ⟨n, a, m, c, hl, hlast⟩ := hS
    by_cases h0 : 0 < k
    · rw [decide_eq_true h0] at hl
      have e : newP l k = !decide (cmpF (l.getD (k - 1) noFact) (l.getD k noFact) = 0) := by simp [newP]; omega
      rw [e]
      refine (unlikeLast1_yes w0.heap.size w' n _ v (l.getD k noFact) (l.getD (k - 1) noFact) hl ((hlast h0).later hL) (hf.later hL)).mono ?_
      rintro e w'' ⟨rfl, w2, hL2, s', rfl, rfl⟩
      have hst := last_stored (n' := (l.getD k noFact).1) (s' := s') hl hL2
      obtain ⟨s1, e1, hs1⟩ := hf
      simp at e1
      subst e1
      obtain ⟨a1, c1, rfl⟩ := sliceStr hs1
      exact ⟨rfl, hst.1, _, a1, _, c1, by rw [decide_eq_true (Nat.succ_pos k)]; exact hst.2, fun _ => ⟨_, rfl, hs1⟩⟩
    · have hk0 : k = 0 := by omega
      subst hk0
      refine (unlikeLast1_no w0.heap.size w' n a m c v (l.getD 0 noFact) hl (hf.later hL)).mono ?_
      rintro e w'' ⟨rfl, w2, hL2, s', rfl, rfl⟩
      have hst := last_stored (n' := (l.getD 0 noFact).1) (s' := s') hl hL2
      obtain ⟨s1, e1, hs1⟩ := hf
      simp at e1
      subst e1
      obtain ⟨a1, c1, rfl⟩ := sliceStr hs1
      exact ⟨rfl, hst.1, _, a1, _, c1, hst.2, fun _ => ⟨_, rfl, hs1⟩⟩
  kept k w' w'' hS hb _ := by
    obtain ⟨n, a, m, c, hl, hlast⟩ := hS
    exact ⟨n, a, m, c, ⟨by rw [hb _ (by omega)]; exact hl.1, by rw [hb _ (by omega)]; exact hl.2⟩, hlast⟩

end Go.Proofs.YtbohggoeebhdmaaGreatDoor

/- The walks of slices.Clone at facts, fact.rise, fact.Of. -/
namespace Go.Proofs.YtbohggoeebhdmaaGreatDoor
open Go.RowKit Go.Sort

set_option maxHeartbeats 400000 in
theorem clone_some (b : Addr) (cap : Nat) (l : List FactD) (w : World) (h : Facts w (.slice (some b) l.length cap) l) :
    Calls Tryz.prog 57 #[.slice (some b) l.length cap] w fun e w' => ∃ v', e = .returned v' ∧ RowF w' w.heap.size v' l ∧ Later w w' := by
  have hnil := fun w => Lib.run_eql_slice_nil (P := Tryz.prog) w 24 54 (some b) l.length cap 0 0 Tryz.underlying24
  have h0 : RowF (w.alloc (.cells #[] 54)) w.heap.size (.slice (some ⟨w.heap.size, 0, none⟩) 0 0) [] :=
    ⟨[], World.ownsRow_made w #[] 0 (Nat.le_refl _) (by simp) (by simp), fun i hi => by simp at hi⟩
  obtain ⟨v', w', hrun, hR, hL, _⟩ := h0.append ((Later.refl w).alloc _) h (by have := h.1; simpa using this)
  have HR := hide hrun
  have HF := hide hR
  clear hrun hR h0 h
  go_enter Tryz.func57, Tryz.ntmps57
  go_wp2_with (at_builtin; refine wpList_append_run rfl (.tmp 5) (.tmp 6) 24 rfl _ _ _ _ rfl rfl HR.out ?_)
  go_ret
  exact ⟨v', rfl, HF.out, hL⟩

set_option maxHeartbeats 400000 in
theorem clone_none (n cap : Nat) (w : World) :
    Calls Tryz.prog 57 #[.slice none n cap] w fun e w' => e = .returned (.slice none 0 0) ∧ w' = w := by
  have hnil := fun w => Lib.run_eql_slice_nil (P := Tryz.prog) w 24 54 none n cap 0 0 Tryz.underlying24
  go_enter Tryz.func57, Tryz.ntmps57
  go_wp2
  go_ret
  exact ⟨rfl, rfl⟩

theorem clone (v : Value) (l : List FactD) (w : World) (h : Facts w v l) :
    Calls Tryz.prog 57 #[v] w fun e w' => ∃ v', e = .returned v' ∧ RowF w' w.heap.size v' l ∧ Later w w' := by
  obtain ⟨a, cap, rfl, hn, hz⟩ := h.addr
  cases a with
  | some b => exact clone_some b cap l w h
  | none =>
    rcases hz with rfl | ⟨b, off, e⟩
    · exact (clone_none _ cap w).mono fun e w' ⟨he, hw⟩ => ⟨_, he, by rw [hw]; exact ⟨[], World.ownsRow_nil w _ _ _, fun i hi => by simp at hi⟩, by rw [hw]; exact Later.refl _⟩
    · cases e

end Go.Proofs.YtbohggoeebhdmaaGreatDoor

/-
  DERIVED: THE SHELF's CONTRACTS AT THIS DUMP, IN PLAIN WORDS (tools/lay-plain.mjs out of 'TryzSortLay.lean', which tools/lay-shelf.mjs wrote): THE SAME DECLARATIONS UNDER THE SAME NAMES: 'import', 'namespace', 'open', 'def', 'theorem' AND NOTHING ELSE: no command of the shelf's: FOR A HAND-IN. Each laying: the table of numbers ('.._ren') and one theorem, a field a fact of the dump's own or the kernel's comparison; each contract: ONE APPLICATION.
-/
namespace Go.Proofs
open Go.Shelf
def Tryz.sortFacts_ren : Go.Shelf.Ren := ⟨fun | 6 => 93 | 15 => 131 | 14 => 130 | 28 => 162 | 29 => 163 | 20 => 154 | 21 => 155 | 22 => 156 | 23 => 157 | 24 => 158 | 25 => 159 | 26 => 160 | 27 => 161 | 46 => 179 | 47 => 180 | 48 => 181 | 49 => 182 | 50 => 183 | 57 => 211 | n => n, fun | 22 => 24 | 24 => 54 | 25 => 61 | 3 => 3 | 39 => 174 | 0 => 0 | 53 => 202 | 55 => 204 | 4 => 4 | 46 => 196 | 45 => 195 | 50 => 69 | 5 => 5 | 9 => 9 | 66 => 221 | 70 => 225 | 76 => 244 | 77 => 245 | n => n, fun | n => n⟩
theorem Tryz.sortFacts : Go.Proofs.SlLaysF0.n6 Tryz.prog Tryz.sortFacts_ren := {
  mixed := by kernel_rfl
  f6 := ⟨Tryz.f93.name, by decide, Tryz.func93.trans (congrArg some (by kernel_rfl))⟩
  f14 := ⟨Tryz.f130.name, by decide, Tryz.func130.trans (congrArg some (by kernel_rfl))⟩
  f15 := Tryz.func131.trans (congrArg some (by kernel_rfl))
  f20 := ⟨Tryz.f154.name, by decide, Tryz.func154.trans (congrArg some (by kernel_rfl))⟩
  f21 := ⟨Tryz.f155.name, by decide, Tryz.func155.trans (congrArg some (by kernel_rfl))⟩
  f22 := ⟨Tryz.f156.name, by decide, Tryz.func156.trans (congrArg some (by kernel_rfl))⟩
  f23 := ⟨Tryz.f157.name, by decide, Tryz.func157.trans (congrArg some (by kernel_rfl))⟩
  f24 := ⟨Tryz.f158.name, by decide, Tryz.func158.trans (congrArg some (by kernel_rfl))⟩
  f25 := ⟨Tryz.f159.name, by decide, Tryz.func159.trans (congrArg some (by kernel_rfl))⟩
  f26 := ⟨Tryz.f160.name, by decide, Tryz.func160.trans (congrArg some (by kernel_rfl))⟩
  f27 := ⟨Tryz.f161.name, by decide, Tryz.func161.trans (congrArg some (by kernel_rfl))⟩
  f28 := Tryz.func162.trans (congrArg some (by kernel_rfl))
  f29 := Tryz.func163.trans (congrArg some (by kernel_rfl))
  f46 := ⟨Tryz.f179.name, by decide, Tryz.func179.trans (congrArg some (by kernel_rfl))⟩
  f47 := Tryz.func180.trans (congrArg some (by kernel_rfl))
  f48 := Tryz.func181.trans (congrArg some (by kernel_rfl))
  f49 := ⟨Tryz.f182.name, by decide, Tryz.func182.trans (congrArg some (by kernel_rfl))⟩
  f50 := ⟨Tryz.f183.name, by decide, Tryz.func183.trans (congrArg some (by kernel_rfl))⟩
  f57 := ⟨Tryz.f211.name, by decide, Tryz.func211.trans (congrArg some (by kernel_rfl))⟩
  t0 := Tryz.underlying0
  a0 := Tryz.isAgg0
  z0 := Tryz.sizeOf0
  v0 := Tryz.zeroValue0
  t3 := Tryz.underlying3
  a3 := Tryz.isAgg3
  z3 := Tryz.sizeOf3
  v3 := Tryz.zeroValue3
  t4 := Tryz.underlying4
  a4 := Tryz.isAgg4
  z4 := Tryz.sizeOf4
  v4 := Tryz.zeroValue4
  t5 := Tryz.underlying5
  a5 := Tryz.isAgg5
  z5 := Tryz.sizeOf5
  v5 := Tryz.zeroValue5
  t9 := Tryz.underlying9
  a9 := Tryz.isAgg9
  z9 := Tryz.sizeOf9
  v9 := Tryz.zeroValue9
  t22 := Tryz.underlying24
  a22 := Tryz.isAgg24
  z22 := Tryz.sizeOf24
  v22 := Tryz.zeroValue24
  t25 := Tryz.underlying61
  a25 := Tryz.isAgg61
  z25 := Tryz.sizeOf61
  v25 := Tryz.zeroValue61
  t39 := Tryz.underlying174
  a39 := Tryz.isAgg174
  z39 := Tryz.sizeOf174
  v39 := Tryz.zeroValue174
  t45 := Tryz.underlying195
  a45 := Tryz.isAgg195
  z45 := Tryz.sizeOf195
  v45 := Tryz.zeroValue195
  t46 := Tryz.underlying196
  a46 := Tryz.isAgg196
  z46 := Tryz.sizeOf196
  v46 := Tryz.zeroValue196
  t50 := Tryz.underlying69
  a50 := Tryz.isAgg69
  z50 := Tryz.sizeOf69
  v50 := Tryz.zeroValue69
  t53 := Tryz.underlying202
  a53 := Tryz.isAgg202
  z53 := Tryz.sizeOf202
  v53 := Tryz.zeroValue202
  t55 := Tryz.underlying204
  a55 := Tryz.isAgg204
  z55 := Tryz.sizeOf204
  v55 := Tryz.zeroValue204
  t66 := Tryz.underlying221
  a66 := Tryz.isAgg221
  z66 := Tryz.sizeOf221
  v66 := Tryz.zeroValue221
  t70 := Tryz.underlying225
  a70 := Tryz.isAgg225
  z70 := Tryz.sizeOf225
  v70 := Tryz.zeroValue225
  t76 := Tryz.underlying244
  a76 := Tryz.isAgg244
  z76 := Tryz.sizeOf244
  v76 := Tryz.zeroValue244
  t77 := Tryz.underlying245
  a77 := Tryz.isAgg245
  z77 := Tryz.sizeOf245
  v77 := Tryz.zeroValue245 }
end Go.Proofs
