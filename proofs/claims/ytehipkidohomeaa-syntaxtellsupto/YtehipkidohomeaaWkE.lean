/- The reference's eat, need and word. -/
import Derived.Test.YtehipkidohomeaaWk
namespace Go.Proofs.Ytehipkidohomeaa
open Go.RowKit Go.Sort

set_option maxHeartbeats 1000000 in
theorem wEatNot (p : Nat) (s : ByteArray) (l g : Bs) (n k : Int) (w : World) (h : Wk w p s l n k) (hn : n ≠ 0) :
    Calls Try.prog 78 #[.pointer (some ⟨p, 0, none⟩), .string (bs g)] w fun e w' => e = .returned (.bool false) ∧ w' = w := by
  have HO := hide (wOk p s l n k w h)
  rw [show (n == 0) = false by simpa using hn] at HO
  clear h hn
  go_enter Try.func78, Try.ntmps78
  go_wp2_with (go_at_call 75; refine HO.out.mono ?_; rintro e w' ⟨rfl, rfl⟩)
  go_ret
  exact ⟨rfl, rfl⟩

theorem cut_to {s : ByteArray} {l : Bs} (h : l <:+ raw s) (m : Nat) : s.extract (pos s l) (pos s l + m) = bs (l.take m) := by
  apply raw_inj
  rw [raw_bs]
  have e := drop_pos h
  unfold raw at e ⊢
  rw [ByteArray.data_extract]
  simp only [Array.toList_extract, List.extract_eq_take_drop]
  rw [e, Nat.add_sub_cancel_left]

theorem prefix_take (g l : Bs) : g.isPrefixOf l = decide (l.take g.length = g) := by
  rw [Bool.eq_iff_iff, List.isPrefixOf_iff_prefix, decide_eq_true_iff, List.prefix_iff_eq_take]
  exact eq_comm

set_option maxHeartbeats 2000000 in
theorem wEat (p : Nat) (s : ByteArray) (l g : Bs) (w : World) (hg : g.length ≤ 100) (h : Wk w p s l 0 0) :
    Calls Try.prog 78 #[.pointer (some ⟨p, 0, none⟩), .string (bs g)] w fun e w' => e = .returned (.bool (took g l).1) ∧ Wk w' p s (took g l).2 0 0 ∧ Tn p w w' := by
  have HO := hide (wOk p s l 0 0 w h)
  have HC := hide (wSkip p s l 0 0 w h)
  clear h
  go_enter Try.func78, Try.ntmps78
  go_wp2_with (first
    | (go_at_call 75; refine HO.out.mono ?_; rintro e w' ⟨rfl, rfl⟩)
    | fail)
  refine HC.out.mono ?_
  rintro e w1 ⟨rfl, hR, hT⟩
  have HR := hide hR
  have HT := hide hT
  have c0 := hR.c0; have c1 := hR.c1; have f1 := hR.f1
  have hps := pos_le s (skip l)
  have hs := hR.short
  have hgz : (bs g).size = g.length := size_bs g
  have hll := len_le hR.suf
  have hpd : pos s (skip l) + (skip l).length = s.size := by simp only [pos]; omega
  have hws : IntKind.i64.wrap ((s.size : Int) - (pos s (skip l) : Int)) = (s.size : Int) - (pos s (skip l) : Int) := by rw [IntKind.wrap_i64]; omega
  by_cases hlen : g.length ≤ (skip l).length
  · have hcut := cut_to hR.suf g.length
    have hpre := prefix_take g (skip l)
    have hq : decide ((s.size : Int) - (pos s (skip l) : Int) < (g.length : Int)) = false := decide_eq_false (by omega)
    have hwa : IntKind.i64.wrap ((pos s (skip l) : Int) + (g.length : Int)) = (pos s (skip l) : Int) + (g.length : Int) := by rw [IntKind.wrap_i64]; omega
    have hc2 : pos s (skip l) + g.length ≤ s.size := by omega
    have heq := bs_eq ((skip l).take g.length) g
    have HM := hide (fun q => (HR.out.drewN q).moved hlen rfl)
    by_cases ht : (skip l).take g.length = g
    · have HE : Hid (took g l = (true, (skip l).drop g.length)) := by show _ = _; unfold took; rw [hpre, decide_eq_true ht]; rfl
      rw [decide_eq_true ht] at heq
      clear hpre ht hR hT HO HC
      generalize hk : pos s (skip l) = j at *
      generalize bs ((skip l).take g.length) = y at *
      clear hk hpd hlen hll
      go_wp2
      go_quiet (fail)
      go_wp2
      go_ret
      rw [HE.out]
      exact ⟨rfl, HM.out _, (HT.out.drewN _).moved _ _⟩
    · have HE : Hid (took g l = (false, skip l)) := by show _ = _; unfold took; rw [hpre, decide_eq_false ht]; rfl
      rw [decide_eq_false ht] at heq
      clear hpre ht hR hT HO HC HM
      generalize hk : pos s (skip l) = j at *
      generalize bs ((skip l).take g.length) = y at *
      clear hk hpd hlen hll
      go_wp2
      go_quiet (fail)
      go_wp2
      go_ret
      rw [HE.out]
      exact ⟨rfl, HR.out.drewN _, HT.out.drewN _⟩
  · have HE : Hid (took g l = (false, skip l)) := by
      show _ = _
      unfold took
      rw [if_neg]
      intro e
      exact hlen (List.isPrefixOf_iff_prefix.1 e).length_le
    have hq : decide ((s.size : Int) - (pos s (skip l) : Int) < (g.length : Int)) = true := decide_eq_true (by omega)
    clear hR hT HO HC
    generalize hk : pos s (skip l) = j at *
    clear hk hpd hlen hll
    go_wp2
    go_quiet (fail)
    go_wp2
    go_ret
    rw [HE.out]
    exact ⟨rfl, HR.out.drewN _, HT.out.drewN _⟩

end Go.Proofs.Ytehipkidohomeaa
