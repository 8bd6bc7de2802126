/- The walk of the reference's Body. -/
import Derived.Test.YtehipkidohomeaaWkF
namespace Go.Proofs.Ytehipkidohomeaa
open Go.RowKit Go.Sort

theorem toldA_bad {s : ByteArray} {n : Int} {r : Bs} (hs : s.size ≤ 3000) (h : onlyBody (raw s) = .bad n r) : toldAtom (raw s) = ([], n, pos s r) := by
  unfold toldAtom; rw [if_neg (by rw [length_raw]; omega), h, length_raw]; rfl
theorem toldA_good {s : ByteArray} {out : List AtomD} {r : Bs} (hs : s.size ≤ 3000) (h : onlyBody (raw s) = .ok out r) : toldAtom (raw s) = (out, 0, 0) := by
  unfold toldAtom; rw [if_neg (by rw [length_raw]; omega), h]

set_option maxRecDepth 100000 in
set_option maxHeartbeats 4000000 in
theorem rBody (s : ByteArray) (w : World) (hmax : s.size ≤ 9223372036854775807) :
    Calls Try.prog 40 #[.string s] w fun e w' => ∃ v, e = .returned (.tuple #[v, .agg #[.int .i64 (toldAtom (raw s)).2.1, .int .i64 ((toldAtom (raw s)).2.2 : Nat)]]) ∧ atomK.sl (From w.heap.size) w' v (toldAtom (raw s)).1 ∧ Below w.heap.size w w' := by
  by_cases hbig : 3000 < s.size
  · have F : Hid (toldAtom (raw s) = ([], 4, 0)) := by show _ = _; unfold toldAtom; rw [if_pos (by rw [length_raw]; exact hbig)]
    have hbz : (3000 : Int) < (s.size : Int) := by omega
    go_enter Try.func40, Try.ntmps40
    go_wp2
    refine bodyPost_ret (v := .tuple #[.slice none 0 0, .agg #[.int .i64 4, .int .i64 0]]) (by simp [results, Try.results40, go_sem]) rfl ⟨.slice none 0 0, by rw [F.out]; rfl, by rw [F.out]; exact atomK.sl_nil _ _ _ _, ((by repeat (first | exact Later.refl _ | assumption | refine Later.drewN ?_ _ | refine Later.drew ?_ | refine Later.alloc ?_ _ | refine Later.grow ?_ _)) : Later w _).below⟩
  · have hs : s.size ≤ 3000 := by omega
    have hbz : ¬ (3000 : Int) < (s.size : Int) := by omega
    have hW0 := wkMade (w.alloc (.cells #[.int .i64 0, .int .i64 0] 30)) s hs
    rw [World.size_alloc] at hW0
    have HA := hide (wAtoms _ s _ _ hW0)
    have hz0 : zeroRow ((w.alloc (.cells #[.int .i64 0, .int .i64 0] 30)).alloc (.cells #[.string s, .int .i64 0, .int .i64 0, .int .i64 0] 87)) w.heap.size := by show _ = _; rw [Below.heap_alloc _ _ _ (by simp), heap_alloc_new]
    have hB0 := (((Later.refl w).alloc (.cells #[.int .i64 0, .int .i64 0] 30)).alloc (.cells #[.string s, .int .i64 0, .int .i64 0, .int .i64 0] 87)).below
    have hsz0 : ((w.alloc (.cells #[.int .i64 0, .int .i64 0] 30)).alloc (.cells #[.string s, .int .i64 0, .int .i64 0, .int .i64 0] 87)).heap.size = w.heap.size + 2 := by simp
    rw [hsz0] at HA
    clear hW0
    go_enter Try.func40, Try.ntmps40
    go_wp2_with fail
    refine HA.out.mono ?_
    intro e w1 ⟨hT1, hE1⟩
    have hs1 := hT1.size
    rw [hsz0] at hs1
    have hB1 : Below w.heap.size w w1 := below_trans hB0 (hT1.below (n := w.heap.size) (by omega) (by omega)) (Nat.le_refl _)
    have hz1 : zeroRow w1 w.heap.size := by show _ = _; rw [hT1.block _ (by omega) (by omega)]; exact hz0
    clear hT1 hz0 hB0 hsz0 HA
    cases hx : body (raw s) with
    | bad n r =>
      rw [hx] at hE1
      obtain ⟨v1, a1, l1, rfl, hv1, hWx⟩ := hE1
      have hn : n ≠ 0 := wrongs_listP wrongs_bodyAtom _ _ _ _ hx
      have HTd : Hid (toldAtom (raw s) = ([], n, pos s r)) := toldA_bad hs (by unfold onlyBody; rw [hx]; rfl)
      obtain ⟨va, vc, rfl⟩ := Kind.slice hv1
      have hzx := hz1
      have hBx := hB1
      clear hz1 hB1 hx hv1
      have c2 := hWx.c2
      have c3 := hWx.c3
      have q0 : w1.cell? ⟨w.heap.size, 0, none⟩ = some (.int .i64 0) := by rw [cell_of_row _ _ _ _ _ _ hzx]; rfl
      have q1 : w1.cell? ⟨w.heap.size, 1, none⟩ = some (.int .i64 0) := by rw [cell_of_row _ _ _ _ _ _ hzx]; rfl
      have p0 : w1.frozen? ⟨w.heap.size, 0, none⟩ = false := frozen_at 0 hzx
      have p1 : w1.frozen? ⟨w.heap.size, 1, none⟩ = false := frozen_at 1 hzx
      have hpl2 : w.heap.size + 1 < w1.heap.size := hWx.lt
      have HOkx := hide (wOk _ s _ _ _ w1 hWx)
      rw [show (n == 0) = false by simpa using hn] at HOkx
      have HZx := hide hzx
      have HBx := hide hBx
      clear hWx hzx hBx
      go_wp2_with (first
        | (go_at_call 75; refine HOkx.out.mono ?_; rintro e w' ⟨rfl, hww⟩; rw [hww]; clear hww w'))
      go_region
      go_wp2
      obtain ⟨r0, r1⟩ := fault_at HZx.out (.int .i64 n) (.int .i64 (pos s r : Int))
      refine bodyPost_ret (v := .tuple #[.slice none 0 0, .agg #[.int .i64 n, .int .i64 (pos s r : Int)]]) (by simp [results, Try.results40, go_sem, r0, r1]) rfl ⟨.slice none 0 0, by rw [HTd.out], by rw [HTd.out]; exact atomK.sl_nil _ _ _ _, ?_⟩
      exact ((HBx.out.setCell (p := ⟨w.heap.size, 0, none⟩) (Nat.le_refl _) _).setCell (p := ⟨w.heap.size, 1, none⟩) (Nat.le_refl _) _).drew
    | ok b r1 =>
      rw [hx] at hE1
      obtain ⟨v1, rfl, hv1, hW1⟩ := hE1
      have HOn : Hid (onlyBody (raw s) = if skip r1 = [] then .ok b [] else .bad 2 (skip r1)) := by show _ = _; unfold onlyBody; rw [hx]; rfl
      obtain ⟨va, vc, rfl⟩ := Kind.slice hv1
      have HV1 := hide hv1
      have HOk := hide (wOk _ s _ 0 0 w1 hW1)
      have HSk := hide (wSkip _ s r1 0 0 w1 hW1)
      have HZ1 := hide hz1
      have HB1 := hide hB1
      clear hx hv1 hW1 hz1 hB1
      go_wp2_with (first
        | (go_at_call 75; refine HOk.out.mono ?_; rintro e w' ⟨rfl, hww⟩; rw [hww]; clear hww w')
        | fail)
      refine HSk.out.mono ?_
      rintro e w2 ⟨rfl, hW2, hT2⟩
      have hs2 := hT2.size
      have hz2 : zeroRow w2 w.heap.size := by show _ = _; rw [hT2.block _ (by omega) (by omega)]; exact HZ1.out
      have hB2 : Below w.heap.size w w2 := below_trans HB1.out (hT2.below (n := w.heap.size) (by omega) (by omega)) (Nat.le_refl _)
      have HV2 := hide (Kind.sl_turned HV1.out hT2 (by omega))
      have c1 := hW2.c1
      have hpw : w.heap.size + 1 < w2.heap.size := hW2.lt
      have hll := len_le hW2.suf
      have hpp : pos s (skip r1) + (skip r1).length = s.size := by simp only [pos]; omega
      clear hT2 HOk HSk HZ1 HB1 HV1
      generalize skip r1 = l2 at *
      by_cases hl : l2 = []
      · have HTd : Hid (toldAtom (raw s) = (b, 0, 0)) := toldA_good hs (by rw [HOn.out, if_pos hl])
        have hcz : ¬ ((pos s l2 : Nat) : Int) < (s.size : Int) := by rw [hl] at hpp ⊢; simp at hpp ⊢; omega
        have hWx := hW2
        have hzx := hz2
        have hBx := hB2
        clear hW2 hz2 hB2 hl hpp hll
        have q0 : w2.cell? ⟨w.heap.size, 0, none⟩ = some (.int .i64 0) := by rw [cell_of_row _ _ _ _ _ _ hzx]; rfl
        have q1 : w2.cell? ⟨w.heap.size, 1, none⟩ = some (.int .i64 0) := by rw [cell_of_row _ _ _ _ _ _ hzx]; rfl
        have p0 : w2.frozen? ⟨w.heap.size, 0, none⟩ = false := frozen_at 0 hzx
        have p1 : w2.frozen? ⟨w.heap.size, 1, none⟩ = false := frozen_at 1 hzx
        have HOkx := hide (wOk _ s _ _ _ w2 hWx)
        have HZx := hide hzx
        have HBx := hide hBx
        clear hWx hzx hBx
        go_wp2_with (first
          | (go_at_call 75; refine HOkx.out.mono ?_; rintro e w' ⟨rfl, hww⟩; rw [hww]; clear hww w'))
        obtain ⟨r0, r1'⟩ := fault_at HZx.out (.int .i64 0) (.int .i64 0)
        refine bodyPost_ret (v := .tuple #[.slice va b.length vc, .agg #[.int .i64 0, .int .i64 0]]) (by simp [results, Try.results40, go_sem, r0, r1']) rfl ⟨.slice va b.length vc, by rw [HTd.out]; rfl, ?_, ?_⟩
        · rw [HTd.out]
          have h1 : atomK.sl (fun k => w.heap.size ≤ k ∧ k ≠ w.heap.size) w2 (.slice va b.length vc) b := Kind.sl_mono HV2.out fun k _ hk => by have : w.heap.size + 2 ≤ k := hk; exact ⟨by omega, by omega⟩
          exact Kind.sl_mono (Kind.sl_kept h1 (by simp only [size_setCell]; exact Nat.le_refl _) (fun k _ hk => by rw [heap_setCell_other _ _ _ hk.2, heap_setCell_other _ _ _ hk.2])) fun _ _ hk => hk.1
        · exact (HBx.out.setCell (p := ⟨w.heap.size, 0, none⟩) (Nat.le_refl _) _).setCell (p := ⟨w.heap.size, 1, none⟩) (Nat.le_refl _) _
      · have hcz : ((pos s l2 : Nat) : Int) < (s.size : Int) := by have : 0 < l2.length := List.length_pos_iff.2 hl; omega
        have HSt := hide (wStop _ s l2 2 w2 hW2)
        have HTd0 : Hid (toldAtom (raw s) = ([], 2, pos s l2)) := toldA_bad hs (by rw [HOn.out, if_neg hl])
        have HZ := hide hz2
        have HBl := hide hB2
        clear hW2 hz2 hB2 hl hpp hll
        go_wp2_with fail
        refine HSt.out.mono ?_
        rintro e w3 ⟨rfl, hWx, hT2⟩
        have hzx : zeroRow w3 w.heap.size := by show _ = _; rw [hT2.block _ (by omega) (by omega)]; exact HZ.out
        have hBx : Below w.heap.size w w3 := below_trans HBl.out (hT2.below (n := w.heap.size) (by omega) (by omega)) (Nat.le_refl _)
        obtain ⟨n, hn5⟩ : ∃ n : Int, n = 2 := ⟨_, rfl⟩
        obtain ⟨r, hr5⟩ : ∃ r, r = l2 := ⟨_, rfl⟩
        have hn : n ≠ 0 := by omega
        have HTd : Hid (toldAtom (raw s) = ([], n, pos s r)) := by show _ = _; rw [hn5, hr5]; exact HTd0.out
        rw [← hn5, ← hr5] at hWx
        clear hn5 hr5 hT2 HTd0 HZ HBl HSt c1 hpw hcz
        have c2 := hWx.c2
        have c3 := hWx.c3
        have q0 : w3.cell? ⟨w.heap.size, 0, none⟩ = some (.int .i64 0) := by rw [cell_of_row _ _ _ _ _ _ hzx]; rfl
        have q1 : w3.cell? ⟨w.heap.size, 1, none⟩ = some (.int .i64 0) := by rw [cell_of_row _ _ _ _ _ _ hzx]; rfl
        have p0 : w3.frozen? ⟨w.heap.size, 0, none⟩ = false := frozen_at 0 hzx
        have p1 : w3.frozen? ⟨w.heap.size, 1, none⟩ = false := frozen_at 1 hzx
        have hpl2 : w.heap.size + 1 < w3.heap.size := hWx.lt
        have HOkx := hide (wOk _ s _ _ _ w3 hWx)
        rw [show (n == 0) = false by simpa using hn] at HOkx
        have HZx := hide hzx
        have HBx := hide hBx
        clear hWx hzx hBx
        go_wp2_with (first
          | (go_at_call 75; refine HOkx.out.mono ?_; rintro e w' ⟨rfl, hww⟩; rw [hww]; clear hww w'))
        go_region
        go_wp2
        obtain ⟨r0, r1⟩ := fault_at HZx.out (.int .i64 n) (.int .i64 (pos s r : Int))
        refine bodyPost_ret (v := .tuple #[.slice none 0 0, .agg #[.int .i64 n, .int .i64 (pos s r : Int)]]) (by simp [results, Try.results40, go_sem, r0, r1]) rfl ⟨.slice none 0 0, by rw [HTd.out], by rw [HTd.out]; exact atomK.sl_nil _ _ _ _, ?_⟩
        exact ((HBx.out.setCell (p := ⟨w.heap.size, 0, none⟩) (Nat.le_refl _) _).setCell (p := ⟨w.heap.size, 1, none⟩) (Nat.le_refl _) _).drew

end Go.Proofs.Ytehipkidohomeaa
