/- The document's answer: the walks of ref.Small, Sign, Word, Named, Wrong. -/
import Derived.Test.YthogickpeldhlaaRefSame
import Derived.Test.YthogickpeldhlaaSetW
namespace Go.Proofs.Ythogickpeldhlaa
open Go.RowKit Go.Sort

set_option maxHeartbeats 400000 in
theorem rSmall (x : Int) (w : World) : Calls Try.prog 57 #[.int .u8 x] w fun e w' => e = .returned (.bool (smallB x)) ∧ w' = w := by
  go_enter Try.func57, Try.ntmps57
  go_wp2
  all_goals
    go_ret
    refine ⟨ret_bool ?_, rfl⟩
    rw [Bool.eq_iff_iff]
    simp [smallB]
    omega

set_option maxHeartbeats 400000 in
theorem rSign (x : Int) (w : World) : Calls Try.prog 100 #[.int .u8 x] w fun e w' => e = .returned (.bool (signB x)) ∧ w' = w := by
  cases hs : smallB x
  · go_enter Try.func100, Try.ntmps100
    go_wp2_with (go_at_call 57; refine (rSmall _ _).mono ?_; rintro e w' ⟨rfl, rfl⟩; rw [hs])
    all_goals
      go_ret
      refine ⟨ret_bool ?_, rfl⟩
      rw [Bool.eq_iff_iff]
      simp [signB, hs]
      omega
  · go_enter Try.func100, Try.ntmps100
    go_wp2_with (go_at_call 57; refine (rSmall _ _).mono ?_; rintro e w' ⟨rfl, rfl⟩; rw [hs])
    go_ret
    exact ⟨ret_bool (by simp [signB, hs]), rfl⟩

theorem bytesOf (s : ByteArray) (w : World) : ∃ cp arr fr, (convert 9 94 (.string s)).run Try.prog w = .ok (.slice (some ⟨w.heap.size, 0, none⟩) s.size cp) (w.drew.alloc (.cells arr 5 fr)) ∧
    ∀ (j : Nat) (h : j < s.size), (w.drew.alloc (.cells arr 5 fr)).cell? ⟨w.heap.size, j, none⟩ = some (.int .u8 (s[j].toNat : Int)) := by
  refine ⟨_, _, _, run_bytes_of_string (P := Try.prog) w 9 94 5 s Try.underlying9 Try.underlying94 Try.underlying5, fun j h => ?_⟩
  rw [show w.heap.size = w.drew.heap.size from rfl, World.cell?_alloc_mark]
  rw [bytesRow_at s _ j h]
  rfl

/-- Signs alone, not too many. -/
def wordB (s : ByteArray) : Bool := restB s 0 && decide (0 < s.size ∧ s.size ≤ 12)

set_option maxHeartbeats 1000000 in
theorem rWord (s : ByteArray) (w : World) (hs : s.size ≤ 9223372036854775807) : Calls Try.prog 56 #[.string s] w fun e w' => e = .returned (.bool (wordB s)) ∧ Later w w' := by
  obtain ⟨cp, arr, fr, hcv, hcell⟩ := bytesOf s w
  have HC := hide hcell
  clear hcell
  unfold wordB
  go_enter Try.func56, Try.ntmps56
  go_wp2
  go_loop [8] (fun i => ∃ k : Nat, k ≤ s.size ∧ i = .int .i64 k ∧ Hid (restB s 0 = restB s k)) (fun i => s.size - (intOf i).toNat)
  case atStart => exact ⟨0, by omega, rfl, (rfl : _ = _)⟩
  case round =>
    obtain ⟨k, hk, rfl, HE⟩ := hrel
    by_cases hlt : k < s.size
    · have hcl : (w.alloc (.cells arr 5 fr)).cell? ⟨w.heap.size, k, none⟩ = some (.int .u8 (s[k].toNat : Int)) := HC.out k hlt
      have hltz : (k : Int) < (s.size : Int) := by omega
      have ha := restB_step hlt
      generalize (s[k].toNat : Int) = ch at *
      cases hc : signB ch
      · have F : Hid (restB s 0 = false) := by show _ = _; rw [HE.out, ha, hc]; rfl
        clear ha
        go_wp2_with (go_at_call 100; refine (rSign _ _).mono ?_; rintro e w' ⟨rfl, rfl⟩; rw [hc])
        go_ret
        exact ⟨ret_bool (by rw [F.out]; rfl), (by repeat (first | exact Later.refl _ | assumption | refine Later.drewN ?_ _ | refine Later.drew ?_ | refine Later.alloc ?_ _ | refine Later.grow ?_ _))⟩
      · have F : Hid (restB s 0 = restB s (k + 1)) := by show _ = _; rw [HE.out, ha, hc]; rfl
        clear ha
        go_wp2_with (go_at_call 100; refine (rSign _ _).mono ?_; rintro e w' ⟨rfl, rfl⟩; rw [hc])
        go_round
        case rel => exact ⟨k + 1, by omega, by go_num, F⟩
        case measure => simp [intOf]; omega
    · have F : Hid (restB s 0 = true) := by show _ = _; rw [HE.out, restB_end (by omega)]
      by_cases h0 : 0 < s.size
      · have h0z : (0 : Int) < (s.size : Int) := by omega
        go_wp2
        all_goals
          go_ret
          exact ⟨ret_bool (by rw [F.out, Bool.eq_iff_iff]; simp; omega), (by repeat (first | exact Later.refl _ | assumption | refine Later.drewN ?_ _ | refine Later.drew ?_ | refine Later.alloc ?_ _ | refine Later.grow ?_ _))⟩
      · have h0z : ¬ (0 : Int) < (s.size : Int) := by omega
        go_wp2
        go_ret
        exact ⟨ret_bool rfl, (by repeat (first | exact Later.refl _ | assumption | refine Later.drewN ?_ _ | refine Later.drew ?_ | refine Later.alloc ?_ _ | refine Later.grow ?_ _))⟩

theorem small_sign {x : Int} (h : smallB x = true) : signB x = true := by simp [signB, h]

theorem wordB_no {s : ByteArray} (h : wordB s = false) : namedB s = false := by
  unfold wordB at h
  by_cases hr : 0 < s.size ∧ s.size ≤ 12
  · rw [decide_eq_true hr, Bool.and_true, restB_step hr.1] at h
    rw [namedB_in hr.1 hr.2]
    cases hb : smallB s[0].toNat
    · rfl
    · rw [small_sign hb, Bool.true_and] at h
      rw [h]; rfl
  · unfold namedB; rw [decide_eq_false hr]; rfl

theorem wordB_yes {s : ByteArray} (h : wordB s = true) : ∃ h0 : 0 < s.size, namedB s = smallB s[0].toNat := by
  unfold wordB at h
  rw [Bool.and_eq_true, decide_eq_true_eq] at h
  refine ⟨h.2.1, ?_⟩
  rw [namedB_in h.2.1 h.2.2]
  have h1 := h.1
  rw [restB_step h.2.1, Bool.and_eq_true] at h1
  rw [h1.2, Bool.and_true]

set_option maxHeartbeats 400000 in
theorem rNamed (s : ByteArray) (w : World) (hs : s.size ≤ 9223372036854775807) : Calls Try.prog 14 #[.string s] w fun e w' => e = .returned (.bool (namedB s)) ∧ Later w w' := by
  cases hw : wordB s
  · have hn := wordB_no hw
    rw [hn]
    go_enter Try.func14, Try.ntmps14
    go_wp2_with (go_at_call 56; refine (rWord _ _ hs).mono ?_; rintro e w1 ⟨rfl, hL⟩; rw [hw])
    go_ret
    exact ⟨rfl, hL⟩
  · obtain ⟨h0, hn⟩ := wordB_yes hw
    rw [hn]
    have h0z : (0 : Int) < (s.size : Int) := by omega
    go_enter Try.func14, Try.ntmps14
    go_wp2_with (first
      | (go_at_call 56; refine (rWord _ _ hs).mono ?_; rintro e w1 ⟨rfl, hL⟩; rw [hw])
      | (go_at_call 57; refine (rSmall _ _).mono ?_; rintro e w2 ⟨rfl, rfl⟩))
    go_ret
    exact ⟨rfl, by assumption⟩

/-- Texts as long as Go's may be. -/
def okF (f : FactD) : Prop := f.1.size ≤ 9223372036854775807 ∧ ∀ s ∈ f.2, s.size ≤ 9223372036854775807

theorem okF_getD {f : FactD} (h : okF f) (k : Nat) : (f.2.getD k ByteArray.empty).size ≤ 9223372036854775807 := by
  rw [List.getD_eq_getElem?_getD]
  cases e : f.2[k]? with
  | none => simp
  | some s => exact h.2 s (List.mem_of_getElem? e)

set_option maxHeartbeats 1000000 in
theorem rWrong (v : Value) (f : FactD) (w : World) (h : FactV w v f) (hok : okF f) :
    Calls Try.prog 16 #[v] w fun e w' => e = .returned (.int .i64 (wrongF f)) ∧ Later w w' := by
  obtain ⟨s, rfl, l0, a, c, rfl, hc⟩ := h
  have HC := hide hc
  have HOK := hide hok
  have hn0 := hok.1
  clear hc hok
  obtain ⟨n, x⟩ := f
  unfold wrongF
  dsimp only at *
  cases hn : namedB n
  · go_enter Try.func16, Try.ntmps16
    go_wp2_with (go_at_call 14; refine (rNamed _ _ hn0).mono ?_; rintro e w1 ⟨rfl, hL⟩; rw [hn])
    go_ret
    exact ⟨rfl, ((Later.refl _).alloc _).trans hL⟩
  · by_cases h4 : 4 < x.length
    · rw [if_pos h4]
      go_enter Try.func16, Try.ntmps16
      go_wp2_with fail
      refine (rNamed _ _ hn0).mono ?_
      rintro e w1 ⟨rfl, hL⟩
      rw [hn]
      have z1 : w1.cell? ⟨w.heap.size, 1, none⟩ = some (.slice a x.length c) := by rw [hL.cell (by simp)]; simp
      go_wp2
      go_ret
      exact ⟨rfl, ((Later.refl _).alloc _).trans hL⟩
    · rw [if_neg h4]
      simp only [Bool.not_true, Bool.false_eq_true, if_false]
      generalize hres : (if noName x 0 = true then (7 : Int) else 0) = r
      have HRES := hide hres
      clear hres
      go_enter Try.func16, Try.ntmps16
      go_wp2_with fail
      refine (rNamed _ _ hn0).mono ?_
      rintro e w1 ⟨rfl, hL⟩
      rw [hn]
      have hL0 : Later w w1 := ((Later.refl _).alloc _).trans hL
      have z1 : w1.cell? ⟨w.heap.size, 1, none⟩ = some (.slice a x.length c) := by rw [hL.cell (by simp)]; simp
      go_wp2
      go_loopw [16] (fun i wr => ∃ k : Nat, k ≤ x.length ∧ i = .int .i64 k ∧ Later w1 wr ∧ Hid (noName x 0 = noName x k)) (fun i _ => x.length - (intOf i).toNat)
      case atStart => exact ⟨0, by omega, rfl, Later.refl _, (rfl : _ = _)⟩
      case round =>
        obtain ⟨k, hk, rfl, hLr, HE⟩ := hrel
        by_cases hlt : k < x.length
        · obtain ⟨b, off, rfl, hb, hcell⟩ := HC.out (by intro e; rw [e] at hlt; simp at hlt)
          have hltz : (k : Int) < (x.length : Int) := by omega
          have g1 := hcell k hlt
          rw [← (hL0.trans hLr).cell (p := ⟨b, off + k, none⟩) hb] at g1
          have hs := noName_step hlt
          have hsz := okF_getD HOK.out k
          dsimp only at hsz
          clear hcell
          generalize x.getD k ByteArray.empty = s at *
          cases hns : namedB s
          · have F : Hid (noName x 0 = true) := by show _ = _; rw [HE.out, hs, hns]; rfl
            clear hs
            go_wp2_with (go_at_call 14; refine (rNamed _ _ hsz).mono ?_; rintro e w2 ⟨rfl, hL2⟩; rw [hns])
            go_ret
            exact ⟨ret_int (by rw [← HRES.out, F.out]; rfl), hL0.trans (hLr.trans hL2)⟩
          · have F : Hid (noName x 0 = noName x (k + 1)) := by show _ = _; rw [HE.out, hs, hns]; rfl
            clear hs
            go_wp2_with (go_at_call 14; refine (rNamed _ _ hsz).mono ?_; rintro e w2 ⟨rfl, hL2⟩; rw [hns])
            go_roundw
            case rel => exact ⟨k + 1, by omega, by go_num, hLr.trans hL2, F⟩
            case measure => simp [intOf]; omega
        · have F : Hid (noName x 0 = false) := by show _ = _; rw [HE.out, noName_end (by omega)]
          go_wp2
          go_ret
          exact ⟨ret_int (by rw [← HRES.out, F.out]; rfl), hL0.trans hLr⟩

end Go.Proofs.Ythogickpeldhlaa
