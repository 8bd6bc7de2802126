/- The walks of cmp.Compare at texts and whole numbers, slices.Compare at texts, and fact.Compare. -/
import Derived.Test.YthogickpeldhlaaBase
import Derived.Test.YthogickpeldhlaaRows
import Derived.WalkKit
import Derived.WalkSpells
import Derived.WalkLawsBesides
namespace Go.Proofs.Ythogickpeldhlaa
open Go.RowKit Go.Sort

set_option maxHeartbeats 400000 in
theorem isNaNS (x : ByteArray) (w : World) : Calls Try.prog 106 #[.string x] w fun e w' => e = .returned (.bool false) ∧ w' = w := by
  go_enter Try.func106, Try.ntmps106
  go_wp2
  go_ret
  exact ⟨by simp, rfl⟩

set_option maxHeartbeats 400000 in
theorem isNaNI (x : Int) (w : World) : Calls Try.prog 107 #[.int .i64 x] w fun e w' => e = .returned (.bool false) ∧ w' = w := by
  go_enter Try.func107, Try.ntmps107
  go_wp2
  go_ret
  exact ⟨by simp, rfl⟩

set_option maxHeartbeats 400000 in
theorem compareS (x y : ByteArray) (w : World) : Calls Try.prog 67 #[.string x, .string y] w fun e w' => e = .returned (.int .i64 (cmpS x y)) ∧ w' = w := by
  unfold cmpS
  cases h : Op.bytesLess x.toList y.toList
  · cases h2 : (x.toList == y.toList)
    · go_enter Try.func67, Try.ntmps67
      go_wp2_with (go_at_call 106; refine (isNaNS _ _).mono ?_; rintro e w' ⟨rfl, rfl⟩)
      go_ret
      exact ⟨by simp, rfl⟩
    · go_enter Try.func67, Try.ntmps67
      go_wp2_with (go_at_call 106; refine (isNaNS _ _).mono ?_; rintro e w' ⟨rfl, rfl⟩)
      go_ret
      exact ⟨by simp, rfl⟩
  · go_enter Try.func67, Try.ntmps67
    go_wp2_with (go_at_call 106; refine (isNaNS _ _).mono ?_; rintro e w' ⟨rfl, rfl⟩)
    go_ret
    exact ⟨by simp, rfl⟩

set_option maxHeartbeats 400000 in
theorem compareI (x y : Int) (w : World) : Calls Try.prog 68 #[.int .i64 x, .int .i64 y] w fun e w' => e = .returned (.int .i64 (cmpI x y)) ∧ w' = w := by
  unfold cmpI
  by_cases h : x < y
  · go_enter Try.func68, Try.ntmps68
    go_wp2_with (go_at_call 107; refine (isNaNI _ _).mono ?_; rintro e w' ⟨rfl, rfl⟩)
    go_ret
    exact ⟨by simp, rfl⟩
  · by_cases h2 : y < x
    · go_enter Try.func68, Try.ntmps68
      go_wp2_with (go_at_call 107; refine (isNaNI _ _).mono ?_; rintro e w' ⟨rfl, rfl⟩)
      go_ret
      exact ⟨by simp, rfl⟩
    · go_enter Try.func68, Try.ntmps68
      go_wp2_with (go_at_call 107; refine (isNaNI _ _).mono ?_; rintro e w' ⟨rfl, rfl⟩)
      go_ret
      exact ⟨by simp, rfl⟩

set_option maxHeartbeats 400000 in
/-- slices.Compare at texts, the first list empty. -/
theorem sCompare_nil (a : Option Addr) (cap : Nat) (b : Option Addr) (n capb : Nat) (w : World) (hn : n ≤ 9223372036854775807) :
    Calls Try.prog 69 #[.slice a 0 cap, .slice b n capb] w fun e w' => e = .returned (.int .i64 (if 0 < n then -1 else 0)) ∧ w' = w := by
  by_cases h : 0 < n
  · rw [if_pos h]
    have h' : (0 : Int) < (n : Int) := by omega
    go_enter Try.func69, Try.ntmps69
    go_wp2
    refine wp_loop_rounds 1 ?_; rw [rounds_succ]
    go_wp2
    go_ret
    exact ⟨rfl, rfl⟩
  · rw [if_neg h]
    obtain rfl : n = 0 := by omega
    go_enter Try.func69, Try.ntmps69
    go_wp2
    refine wp_loop_rounds 1 ?_; rw [rounds_succ]
    go_wp2
    go_ret
    exact ⟨rfl, rfl⟩

set_option maxHeartbeats 400000 in
/-- slices.Compare at texts, the second list empty, the first one not. -/
theorem sCompare_nil' (b off n cap : Nat) (a2 : Option Addr) (cap2 : Nat) (s0 : ByteArray) (w : World) (h0 : 0 < n) (hn : n ≤ 9223372036854775807) (hc : w.cell? ⟨b, off, none⟩ = some (.string s0)) :
    Calls Try.prog 69 #[.slice (some ⟨b, off, none⟩) n cap, .slice a2 0 cap2] w fun e w' => e = .returned (.int .i64 1) ∧ w' = w := by
  have h' : (0 : Int) < (n : Int) := by omega
  go_enter Try.func69, Try.ntmps69
  go_wp2
  refine wp_loop_rounds 1 ?_; rw [rounds_succ]
  go_wp2
  go_ret
  exact ⟨rfl, rfl⟩

set_option maxHeartbeats 1000000 in
/-- slices.Compare at texts, neither list empty. -/
theorem sCompare_both (b off cap b2 off2 cap2 : Nat) (x y : List ByteArray) (w : World) (hx : x.length ≤ 9223372036854775807) (_hy : y.length ≤ 9223372036854775807)
    (hc : ∀ i, i < x.length → w.cell? ⟨b, off + i, none⟩ = some (.string (x.getD i ByteArray.empty))) (hd : ∀ i, i < y.length → w.cell? ⟨b2, off2 + i, none⟩ = some (.string (y.getD i ByteArray.empty))) :
    Calls Try.prog 69 #[.slice (some ⟨b, off, none⟩) x.length cap, .slice (some ⟨b2, off2, none⟩) y.length cap2] w fun e w' => e = .returned (.int .i64 (cmpL x y)) ∧ w' = w := by
  have HC : Hid _ := hc
  have HD : Hid _ := hd
  clear hc hd
  go_enter Try.func69, Try.ntmps69
  go_wp2
  go_loop [11] (fun i => ∃ k : Nat, k ≤ x.length ∧ k ≤ y.length ∧ i = .int .i64 k ∧ Hid (cmpL x y = cmpL (x.drop k) (y.drop k))) (fun i => x.length - (intOf i).toNat)
  case atStart => exact ⟨0, Nat.zero_le _, Nat.zero_le _, rfl, (by simp : cmpL x y = cmpL (x.drop 0) (y.drop 0))⟩
  case round =>
    obtain ⟨k, hk, hk2, rfl, HE⟩ := hrel
    by_cases hlt : k < x.length
    · have h1 := HC.out k hlt
      by_cases hlt2 : k < y.length
      · have h2 := HD.out k hlt2
        have e := cmpL_drop x y k hlt hlt2
        generalize x.getD k ByteArray.empty = sx at *
        generalize y.getD k ByteArray.empty = sy at *
        have E : Hid _ := e
        clear e
        by_cases hz : cmpS sx sy = 0
        · go_wp2_with (go_at_call 67; refine (compareS _ _ _).mono ?_; rintro e w' ⟨rfl, rfl⟩; rw [hz])
          go_round
          case rel =>
            refine ⟨k + 1, by omega, by omega, by go_num, ?_⟩
            show cmpL x y = _
            rw [HE.out, E.out, if_neg (by omega)]
          case measure => simp [intOf]; omega
        · have hz' : (cmpS sx sy == 0) = false := by simpa using hz
          have F : Hid (cmpL x y = cmpS sx sy) := by show _ = _; rw [HE.out, E.out, if_pos hz]
          generalize hr : cmpS sx sy = r at *
          have R : Hid _ := hr
          clear hr
          go_wp2_with (go_at_call 67; refine (compareS _ _ _).mono ?_; rintro e w' ⟨rfl, rfl⟩; rw [R.out])
          go_ret
          exact ⟨ret_int F.out.symm, rfl⟩
      · have F : Hid (cmpL x y = 1) := by show _ = _; rw [HE.out, cmpL_drop_end' x y k hlt (by omega)]
        go_wp2
        go_ret
        exact ⟨ret_int F.out.symm, rfl⟩
    · have F : Hid (cmpL x y = if k < y.length then -1 else 0) := by show _ = _; rw [HE.out, cmpL_drop_end x y k (by omega)]
      obtain rfl : k = x.length := by omega
      by_cases hy2 : x.length < y.length
      · go_wp2
        go_ret
        exact ⟨ret_int (by rw [F.out, if_pos hy2]), rfl⟩
      · go_wp2
        go_ret
        exact ⟨ret_int (by rw [F.out, if_neg hy2]), rfl⟩

/-- slices.Compare at texts, whatever the lists. -/
theorem sCompare (v1 v2 : Value) (x y : List ByteArray) (w : World) (h1 : Strs w v1 x) (h2 : Strs w v2 y) :
    Calls Try.prog 69 #[v1, v2] w fun e w' => e = .returned (.int .i64 (cmpL x y)) ∧ w' = w := by
  obtain ⟨l1, a1, c1, rfl, r1⟩ := h1
  obtain ⟨l2, a2, c2, rfl, r2⟩ := h2
  cases x with
  | nil =>
    have e : cmpL [] y = if 0 < y.length then -1 else 0 := by cases y <;> simp [cmpL]
    rw [e]
    exact sCompare_nil a1 c1 a2 y.length c2 w (by omega)
  | cons p x =>
    obtain ⟨b, off, rfl, _, hc⟩ := r1 (by simp)
    cases y with
    | nil => exact sCompare_nil' b off _ c1 a2 c2 p w (by simp) (by omega) (by simpa using hc 0 (by simp))
    | cons q y =>
      obtain ⟨b2, off2, rfl, _, hd⟩ := r2 (by simp)
      exact sCompare_both b off c1 b2 off2 c2 (p :: x) (q :: y) w (by omega) (by omega) hc hd

set_option maxHeartbeats 1000000 in
/-- fact.Compare: what the order says; two boxes are laid. -/
theorem compareF (v1 v2 : Value) (f g : FactD) (w : World) (h1 : FactV w v1 f) (h2 : FactV w v2 g) :
    Calls Try.prog 25 #[v1, v2] w fun e w' => e = .returned (.int .i64 (cmpF f g)) ∧ Later w w' := by
  obtain ⟨s1, rfl, k1⟩ := h1
  obtain ⟨s2, rfl, k2⟩ := h2
  have l1 := k1.1; have l2 := k2.1
  have hL : Hid (∀ w', Later w w' → Calls Try.prog 69 #[s1, s2] w' fun e w'' => e = .returned (.int .i64 (cmpL f.2 g.2)) ∧ w'' = w') := fun w' hw => sCompare s1 s2 _ _ w' (k1.later hw) (k2.later hw)
  obtain ⟨a1, c1, rfl⟩ := sliceStr k1
  obtain ⟨a2, c2, rfl⟩ := sliceStr k2
  clear k1 k2
  obtain ⟨n1, x⟩ := f
  obtain ⟨n2, y⟩ := g
  unfold cmpF
  dsimp only at *
  by_cases hz : cmpS n1 n2 = 0
  · by_cases hi : cmpI x.length y.length = 0
    · rw [if_neg (by omega), if_neg (by omega)]
      go_enter Try.func25, Try.ntmps25
      go_wp2_with (first
        | (go_at_call 67; refine (compareS _ _ _).mono ?_; rintro e w' ⟨rfl, rfl⟩; rw [hz])
        | (go_at_call 68; refine (compareI _ _ _).mono ?_; rintro e w' ⟨rfl, rfl⟩; rw [hi])
        | (go_at_call 69; refine (hL.out _ (((Later.refl _).alloc _).alloc _)).mono ?_; rintro e w' ⟨rfl, rfl⟩))
      go_ret
      exact ⟨rfl, ((Later.refl _).alloc _).alloc _⟩
    · rw [if_neg (by omega), if_pos hi]
      have hi' : (cmpI x.length y.length == 0) = false := by simpa using hi
      generalize hr : cmpI x.length y.length = r at *
      have R : Hid _ := hr
      clear hr
      go_enter Try.func25, Try.ntmps25
      go_wp2_with (first
        | (go_at_call 67; refine (compareS _ _ _).mono ?_; rintro e w' ⟨rfl, rfl⟩; rw [hz])
        | (go_at_call 68; refine (compareI _ _ _).mono ?_; rintro e w' ⟨rfl, rfl⟩; rw [R.out]))
      go_ret
      exact ⟨rfl, ((Later.refl _).alloc _).alloc _⟩
  · rw [if_pos hz]
    have hz' : (cmpS n1 n2 == 0) = false := by simpa using hz
    generalize hr : cmpS n1 n2 = r at *
    have R : Hid _ := hr
    clear hr
    go_enter Try.func25, Try.ntmps25
    go_wp2_with (go_at_call 67; refine (compareS _ _ _).mono ?_; rintro e w' ⟨rfl, rfl⟩; rw [R.out])
    go_ret
    exact ⟨rfl, ((Later.refl _).alloc _).alloc _⟩

end Go.Proofs.Ythogickpeldhlaa
