/- The walks of fact.rise and fact.Of. -/
import Derived.Test.YtflldbpjhcgkbaaClone
import Derived.Test.YtflldbpjhcgkbaaSort
namespace Go.Proofs.Ytflldbpjhcgkbaa
open Go.RowKit Go.Sort

theorem ownsSlice {w : World} {base n : Nat} {v : Value} {xs : List Value} {e : TypeId} {sz : Nat} (h : w.ownsRow base e sz v n xs) : ∃ a cap, v = .slice a n cap := by
  rcases h.2 with ⟨rfl, rfl⟩ | ⟨g, cap, cur, rfl, _⟩
  · exact ⟨none, 0, rfl⟩
  · exact ⟨_, cap, rfl⟩

set_option maxHeartbeats 400000 in
/-- fact.rise: the set of a row's facts, in memory of its own; the row is sorted where it lies. -/
theorem rise (w : World) (base : Nat) (v : Value) (l : List FactD) (h : RowF w base v l) (hl : l.length ≤ 3518437208883) :
    Calls Try.prog 50 #[v] w fun e w' => ∃ v' s, e = .returned v' ∧ SetOf s l ∧ OwnF w' w.heap.size v' s ∧ Only base w.heap.size w w' := by
  have hS := hide (sortF w base v l h hl)
  obtain ⟨a, cap, rfl⟩ := ownsSlice h.choose_spec.1
  clear h
  go_enter Try.func50, Try.ntmps50
  go_wp2_with fail
  refine hS.out.mono ?_
  rintro e w1 ⟨rfl, l', hp, hs, hF, hO⟩
  have hle : l'.length = l.length := hp.length_eq
  go_wp2_with fail
  refine (unlikeLast w1).mono ?_
  rintro e w2 ⟨rfl, hL2, hz2, hlast⟩
  have hK := hide (keep 97 #[.pointer (some ⟨w1.heap.size + 1, 0, none⟩), .pointer (some ⟨w1.heap.size, 0, none⟩)] enters_ul1 w1.heap.size (w1.heap.size + 2) w1 w2 (.slice a l.length cap) l' (newP l') (LastK w1 w1.heap.size l') hF hL2 (Nat.le_refl _) (by omega) (asked_ul w1 l')
    ⟨ByteArray.empty, none, 0, 0, hlast, fun h => absurd h (Nat.lt_irrefl _)⟩)
  have HL := hide hlast
  clear hlast
  go_wp2_with fail
  refine hK.out.mono ?_
  rintro e w3 ⟨v', rfl, hOw, hO3, _⟩
  have hset := pick_new hs l'.length (Nat.le_refl _)
  rw [List.take_length] at hset
  have HS := hide hset
  have HW := hide hOw
  clear hset hOw
  go_wp2
  go_ret
  have hL13 : Later w1 w3 := hO3.later hL2 (Nat.le_refl _)
  refine ⟨v', _, rfl, ⟨HS.out.1, fun f => (HS.out.2.1 f).trans hp.mem_iff, by rw [← hle]; exact HS.out.2.2⟩, ?_, hO.trans hL13.only⟩
  have hsz : w.heap.size ≤ w2.heap.size := Nat.le_trans hO.size hL2.size
  obtain ⟨xs, ho, hx⟩ := HW.out
  refine ⟨xs, ⟨ho.1, ?_⟩, fun i hi => ?_⟩
  · rcases ho.2 with e | ⟨g, cp, cur, e, hg, r⟩
    · exact Or.inl e
    · exact Or.inr ⟨g, cp, cur, e, Nat.le_trans hsz hg, r⟩
  · obtain ⟨c1, s, c2, c3, c4⟩ := hx i hi
    exact ⟨c1, s, c2, c3, fun k hk => ⟨Nat.le_trans hsz (c4 k hk).1, (c4 k hk).2⟩⟩

set_option maxHeartbeats 400000 in
/-- fact.Of: the set of a list's facts, in memory of its own. -/
theorem ofC (v : Value) (l : List FactD) (w : World) (h : Facts w v l) :
    Calls Try.prog 17 #[v] w fun e w' => ∃ v' s, e = .returned v' ∧ SetOf s l ∧ OwnF w' w.heap.size v' s ∧ Later w w' := by
  have hC := hide (clone v l w h)
  have hl := h.1
  obtain ⟨a, cap, rfl⟩ := sliceFacts h
  clear h
  go_enter Try.func17, Try.ntmps17
  go_wp2_with fail
  refine hC.out.mono ?_
  rintro e w1 ⟨v1, rfl, hR, hL⟩
  have hr := hide (rise w1 w.heap.size v1 l hR hl)
  obtain ⟨a1, cap1, rfl⟩ := ownsSlice hR.choose_spec.1
  clear hR
  go_wp2_with fail
  refine hr.out.mono ?_
  rintro e w2 ⟨v2, s, rfl, hs, hO, hW⟩
  have HS := hide hs
  have HO := hide hO
  clear hs hO
  go_wp2
  go_ret
  exact ⟨v2, s, rfl, HS.out, HO.out.base hL.size, hW.later hL (Nat.le_refl _)⟩

end Go.Proofs.Ytflldbpjhcgkbaa
