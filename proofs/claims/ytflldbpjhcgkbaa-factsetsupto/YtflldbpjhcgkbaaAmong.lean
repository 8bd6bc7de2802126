/- The walks of fact.among and its closure, fact.In, fact.Less. -/
import Derived.Test.YtflldbpjhcgkbaaInW
import Derived.Test.YtflldbpjhcgkbaaRise
import Derived.Deep.RegionWith
import Derived.Laws.EntriesVeiled
namespace Go.Proofs.Ytflldbpjhcgkbaa
open Go.RowKit Go.Sort

set_option maxHeartbeats 400000 in
theorem among (a : Option Addr) (n cap : Nat) (w : World) : Calls Try.prog 57 #[.slice a n cap] w fun e w' =>
    e = .returned (.func (.func 83) #[] #[.pointer (some ⟨w.heap.size, 0, none⟩)]) ∧ w' = w.alloc (.cells #[.slice a n cap] 22) := by
  go_enter Try.func57, Try.ntmps57
  go_wp2
  go_ret
  exact ⟨rfl, rfl⟩

set_option maxHeartbeats 400000 in
theorem among1 (c : Nat) (v t : Value) (l : List FactD) (g : FactD) (w : World) (hc : w.cell? ⟨c, 0, none⟩ = some v) (hb : c < w.heap.size) (hf : Facts w v l) (ht : FactV w t g) (hr : Rises l) :
    Calls Try.prog 83 #[t, .pointer (some ⟨c, 0, none⟩)] w fun e w' => e = .returned (.bool (inFrom l g 0)) ∧ Later w w' := by
  have hS := fun w' (hw : Later w w') => search v t l g w' (hf.later hw) (ht.later hw) hr
  have HS := hide hS
  obtain ⟨a, cap, rfl⟩ := sliceFacts hf
  obtain ⟨s2, rfl, l2, a2, c2, rfl, _⟩ := ht
  clear hS hf hr
  go_enter Try.func83, Try.ntmps83
  go_wp2_with (go_at_call 84; refine (HS.out _ ((Later.refl _).alloc _)).mono ?_; rintro e w1 ⟨n, rfl, hL⟩)
  go_ret
  exact ⟨rfl, ((Later.refl _).alloc _).trans hL⟩

set_option maxHeartbeats 1000000 in
theorem inC (v t : Value) (l : List FactD) (g : FactD) (w : World) (hf : Facts w v l) (ht : FactV w t g) (hr : Rises l) :
    Calls Try.prog 23 #[v, t] w fun e w' => e = .returned (.bool (inFrom l g 0)) ∧ Later w w' := by
  have hA := fun c w' hc hb (hw : Later w w') => among1 c v t l g w' hc hb (hf.later hw) (ht.later hw) hr
  have HA := hide hA
  obtain ⟨a, cap, rfl⟩ := sliceFacts hf
  obtain ⟨s2, rfl, l2, a2, c2, rfl, _⟩ := ht
  clear hA hf hr
  go_enter Try.func23, Try.ntmps23
  go_wp2
  go_region_with (first
    | (go_at_call 57; refine (among _ _ _ _).mono ?_; rintro e w1 ⟨rfl, rfl⟩)
    | (go_at_call 83; refine (HA.out (w.heap.size + 1) _ (by simp) (by simp) (by repeat (first | exact Later.refl _ | assumption | refine Later.drewN ?_ _ | refine Later.drew ?_ | refine Later.alloc ?_ _ | refine Later.grow ?_ _))).mono ?_; rintro e w2 ⟨rfl, hL⟩))
  all_goals
    go_wp2
    go_ret
    exact ⟨rfl, Later.trans (by repeat (first | exact Later.refl _ | assumption | refine Later.drewN ?_ _ | refine Later.drew ?_ | refine Later.alloc ?_ _ | refine Later.grow ?_ _)) hL⟩

set_option maxHeartbeats 400000 in
theorem less1 (c d : Nat) (v t : Value) (l : List FactD) (g : FactD) (w : World) (hc : w.cell? ⟨c, 0, none⟩ = some v) (hb : c < w.heap.size) (hd : w.cell? ⟨d, 0, none⟩ = some (.func (.func 83) #[] #[.pointer (some ⟨c, 0, none⟩)])) (hdb : d < w.heap.size) (hf : Facts w v l) (ht : FactV w t g) (hr : Rises l) :
    Calls Try.prog 58 #[t, .pointer (some ⟨d, 0, none⟩)] w fun e w' => e = .returned (.bool (!inFrom l g 0)) ∧ Later w w' := by
  have hA := fun w' (hw : Later w w') => among1 c v t l g w' (by rw [hw.cell (p := ⟨c, 0, none⟩) hb]; exact hc) (Nat.lt_of_lt_of_le hb hw.size) (hf.later hw) (ht.later hw) hr
  have HA := hide hA
  obtain ⟨s2, rfl, l2, a2, c2, rfl, _⟩ := ht
  clear hA hf hr hc
  generalize inFrom l g 0 = r at *
  go_enter Try.func58, Try.ntmps58
  go_wp2_with (go_at_call 83; refine (HA.out _ ((Later.refl _).alloc _)).mono ?_; rintro e w1 ⟨rfl, hL⟩)
  go_ret
  exact ⟨rfl, ((Later.refl _).alloc _).trans hL⟩

set_option maxHeartbeats 400000 in
/-- fact.Less: those of the one that are not in the other, in memory of their own. -/
theorem lessC (va vb : Value) (la lb : List FactD) (w : World) (ha : Facts w va la) (hb : Facts w vb lb) (hr : Rises lb) :
    Calls Try.prog 25 #[va, vb] w fun e w' => ∃ v', e = .returned v' ∧ OwnF w' w.heap.size v' (la.filter fun f => !inFrom lb f 0) ∧ Later w w' := by
  have HA := hide ha
  have HB := hide hb
  have HR := hide hr
  obtain ⟨a1, c1, rfl⟩ := sliceFacts ha
  obtain ⟨a2, c2, rfl⟩ := sliceFacts hb
  clear ha hb hr
  go_enter Try.func25, Try.ntmps25
  go_wp2_with (go_at_call 57; refine (among _ _ _ _).mono ?_; rintro e w1 ⟨rfl, rfl⟩)
  have hL : Later w ((w.alloc (.cells #[.slice a2 lb.length c2] 22)).alloc (.cells #[.func (.func 83) #[] #[.pointer (some ⟨w.heap.size, 0, none⟩)]] 64)) := (by repeat (first | exact Later.refl _ | assumption | refine Later.drewN ?_ _ | refine Later.drew ?_ | refine Later.alloc ?_ _ | refine Later.grow ?_ _))
  have hz : w.heap.size + 1 < ((w.alloc (.cells #[.slice a2 lb.length c2] 22)).alloc (.cells #[.func (.func 83) #[] #[.pointer (some ⟨w.heap.size, 0, none⟩)]] 64)).heap.size := by simp
  have y0 : ((w.alloc (.cells #[.slice a2 lb.length c2] 22)).alloc (.cells #[.func (.func 83) #[] #[.pointer (some ⟨w.heap.size, 0, none⟩)]] 64)).cell? ⟨w.heap.size, 0, none⟩ = some (.slice a2 lb.length c2) := by simp
  have y1 : ((w.alloc (.cells #[.slice a2 lb.length c2] 22)).alloc (.cells #[.func (.func 83) #[] #[.pointer (some ⟨w.heap.size, 0, none⟩)]] 64)).cell? ⟨w.heap.size + 1, 0, none⟩ = some (.func (.func 83) #[] #[.pointer (some ⟨w.heap.size, 0, none⟩)]) := by simp
  generalize ((w.alloc (.cells #[.slice a2 lb.length c2] 22)).alloc (.cells #[.func (.func 83) #[] #[.pointer (some ⟨w.heap.size, 0, none⟩)]] 64)) = W at *
  refine (keep 58 #[.pointer (some ⟨w.heap.size + 1, 0, none⟩)] enters_less1 W.heap.size W.heap.size W W _ la (fun k => !inFrom lb (la.getD k noFact) 0) (fun _ _ => True) (HA.out.later hL) (Later.refl _) (Nat.le_refl _) (Nat.le_refl _)
    ⟨fun k w' t hk hw _ _ hf => (less1 w.heap.size (w.heap.size + 1) _ t lb (la.getD k noFact) w' (by rw [hw.cell (p := ⟨w.heap.size, 0, none⟩) (by show w.heap.size < _; omega)]; exact y0) (by have := hw.size; omega)
        (by rw [hw.cell (p := ⟨w.heap.size + 1, 0, none⟩) hz]; exact y1) (by have := hw.size; omega) ((HB.out.later hL).later hw) (hf.later hw) HR.out).mono fun e w'' ⟨he, hL'⟩ => ⟨he, hL'.only, trivial⟩,
      fun _ _ _ _ _ _ => trivial⟩ trivial).mono ?_
  rintro e w1 ⟨v', rfl, hO, hW, _⟩
  have e := pick_filter (fun f => !inFrom lb f 0) la la.length (Nat.le_refl _)
  rw [List.take_length] at e
  rw [e] at hO
  have HO := hide hO
  clear hO e
  go_wp2
  go_ret
  exact ⟨v', rfl, HO.out.base hL.size, hL.trans (hW.later (Later.refl _) (Nat.le_refl _))⟩

end Go.Proofs.Ytflldbpjhcgkbaa
