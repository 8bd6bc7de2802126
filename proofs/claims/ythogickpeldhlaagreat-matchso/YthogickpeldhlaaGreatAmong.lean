/- The walks of fact.among and its closure, fact.In, fact.Less. -/
import Derived.Test.YthogickpeldhlaaGreatInW
import Derived.Test.YthogickpeldhlaaGreatRise
import Derived.Deep.RegionWith
import Derived.Laws.EntriesVeiled
namespace Go.Proofs.YthogickpeldhlaaGreat
open Go.RowKit Go.Sort

set_option maxHeartbeats 400000 in
theorem among (a : Option Addr) (n cap : Nat) (w : World) : Calls Tryz.prog 38 #[.slice a n cap] w fun e w' =>
    e = .returned (.func (.func 57) #[] #[.pointer (some ⟨w.heap.size, 0, none⟩)]) ∧ w' = w.alloc (.cells #[.slice a n cap] 23) := by
  go_enter Tryz.func38, Tryz.ntmps38
  go_wp2
  go_ret
  exact ⟨rfl, rfl⟩

set_option maxHeartbeats 400000 in
theorem among1 (c : Nat) (v t : Value) (l : List FactD) (g : FactD) (w : World) (hc : w.cell? ⟨c, 0, none⟩ = some v) (hb : c < w.heap.size) (hf : Facts w v l) (ht : FactV w t g) (hr : Rises l) :
    Calls Tryz.prog 57 #[t, .pointer (some ⟨c, 0, none⟩)] w fun e w' => e = .returned (.bool (inFrom l g 0)) ∧ Later w w' := by
  have hS := fun w' (hw : Later w w') => search v t l g w' (hf.later hw) (ht.later hw) hr
  have HS := hide hS
  obtain ⟨a, cap, rfl⟩ := sliceFacts hf
  obtain ⟨s2, rfl, l2, a2, c2, rfl, _⟩ := ht
  clear hS hf hr
  go_enter Tryz.func57, Tryz.ntmps57
  go_wp2_with (go_at_call 58; refine (HS.out _ ((Later.refl _).alloc _)).mono ?_; rintro e w1 ⟨n, rfl, hL⟩)
  go_ret
  exact ⟨rfl, ((Later.refl _).alloc _).trans hL⟩

set_option maxHeartbeats 1000000 in
theorem inC (v t : Value) (l : List FactD) (g : FactD) (w : World) (hf : Facts w v l) (ht : FactV w t g) (hr : Rises l) :
    Calls Tryz.prog 16 #[v, t] w fun e w' => e = .returned (.bool (inFrom l g 0)) ∧ Later w w' := by
  have hA := fun c w' hc hb (hw : Later w w') => among1 c v t l g w' hc hb (hf.later hw) (ht.later hw) hr
  have HA := hide hA
  obtain ⟨a, cap, rfl⟩ := sliceFacts hf
  obtain ⟨s2, rfl, l2, a2, c2, rfl, _⟩ := ht
  clear hA hf hr
  go_enter Tryz.func16, Tryz.ntmps16
  go_wp2
  go_region_with (first
    | (go_at_call 38; refine (among _ _ _ _).mono ?_; rintro e w1 ⟨rfl, rfl⟩)
    | (go_at_call 57; refine (HA.out (w.heap.size + 1) _ (by simp) (by simp) (by repeat (first | exact Later.refl _ | assumption | refine Later.drewN ?_ _ | refine Later.drew ?_ | refine Later.alloc ?_ _ | refine Later.grow ?_ _))).mono ?_; rintro e w2 ⟨rfl, hL⟩))
  all_goals
    go_wp2
    go_ret
    exact ⟨rfl, Later.trans (by repeat (first | exact Later.refl _ | assumption | refine Later.drewN ?_ _ | refine Later.drew ?_ | refine Later.alloc ?_ _ | refine Later.grow ?_ _)) hL⟩

end Go.Proofs.YthogickpeldhlaaGreat
