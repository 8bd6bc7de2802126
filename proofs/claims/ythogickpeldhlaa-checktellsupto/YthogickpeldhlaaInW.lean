/- The walks of slices.BinarySearchFunc at facts, fact.among and its closure, fact.In. -/
import Derived.Test.YthogickpeldhlaaSets
import Derived.Test.YthogickpeldhlaaRefIn
import Derived.Shelf.SlSortCmp.QuietGrown
namespace Go.Proofs.Ythogickpeldhlaa
open Go.RowKit Go.Sort

theorem mixed : Try.prog.follows .mixedOrders = true := by kernel_rfl

/-- A fact of a slice, in every later world. -/
theorem Facts.grown {w : World} {b off n cap : Nat} {l : List FactD} (h : Facts w (.slice (some ⟨b, off, none⟩) n cap) l) {k : Nat} (hk : k < l.length) :
    ∃ a len c, (∀ q os, (grow (w.drewN q) os).cell? ⟨b, off + k * 2, none⟩ = some (.string (l.getD k noFact).1)) ∧ (∀ q os, (grow (w.drewN q) os).cell? ⟨b, off + k * 2 + 1, none⟩ = some (.slice a len c)) ∧ FactV w (.agg #[.string (l.getD k noFact).1, .slice a len c]) (l.getD k noFact) := by
  obtain ⟨hb, a, len, c, g1, g2, hf⟩ := h.at hk
  exact ⟨a, len, c, fun q os => by rw [Later.cell ⟨q, os, rfl⟩ (p := ⟨b, off + k * 2, none⟩) hb]; exact g1, fun q os => by rw [Later.cell ⟨q, os, rfl⟩ (p := ⟨b, off + k * 2 + 1, none⟩) hb]; exact g2, hf⟩

theorem inFrom_iff {l : List FactD} {f : FactD} : inFrom l f 0 = true ↔ f ∈ l := by
  unfold inFrom
  rw [List.drop_zero, List.any_eq_true]
  exact ⟨fun ⟨x, h1, h2⟩ => by rw [sameF_iff.1 h2] at h1; exact h1, fun h => ⟨f, h, sameF_iff.2 rfl⟩⟩

/-- Where the halves meet, there the fact is, or nowhere. -/
theorem meet {l : List FactD} {g : FactD} (hr : Rises l) {m : Nat} (hm : m ≤ l.length) (ha : ∀ t, t < m → cmpF (l.getD t noFact) g < 0) (hb : ∀ t, m ≤ t → t < l.length → 0 ≤ cmpF (l.getD t noFact) g) :
    inFrom l g 0 = (decide (m < l.length) && decide (cmpF (l.getD m noFact) g = 0)) := by
  rw [Bool.eq_iff_iff, inFrom_iff, Bool.and_eq_true, decide_eq_true_eq, decide_eq_true_eq]
  constructor
  · intro h
    obtain ⟨t, ht, rfl⟩ := List.getElem_of_mem h
    have e : l.getD t noFact = l[t] := by rw [List.getD_eq_getElem?_getD, List.getElem?_eq_getElem ht]; rfl
    have h1 : m ≤ t := Nat.not_lt.1 fun n => by have := ha t n; rw [e, three_cmpF.refl] at this; omega
    have h2 : m = t := by
      refine Classical.byContradiction fun n => ?_
      have h3 := List.pairwise_iff_getElem.1 hr m t (by omega) ht (by omega)
      have h4 := hb m (Nat.le_refl _) (by omega)
      rw [List.getD_eq_getElem?_getD, List.getElem?_eq_getElem (by omega)] at h4
      have h5 : (0 : Int) ≤ cmpF l[m] l[t] := h4
      omega
    subst h2
    exact ⟨ht, by rw [e, three_cmpF.refl]⟩
  · rintro ⟨h1, h2⟩
    rw [← three_cmpF.zero _ _ h2, List.getD_eq_getElem?_getD, List.getElem?_eq_getElem h1]
    exact List.getElem_mem h1

theorem ret_two {x : Value} {a b : Bool} (h : a = b) : Ending.returned (.tuple #[x, .bool a]) = .returned (.tuple #[x, .bool b]) := by rw [h]

theorem cell_later {w w' : World} (hL : Later w w') {p : Addr} {v : Value} (hb : p.block < w.heap.size) (h : w.cell? p = some v) : ∀ q os, (grow (w'.drewN q) os).cell? p = some v := fun q os => by
  rw [(hL.trans ⟨q, os, rfl⟩).cell hb]; exact h

set_option maxHeartbeats 1000000 in
theorem search (v t : Value) (l : List FactD) (g : FactD) (w : World) (hf : Facts w v l) (ht : FactV w t g) (hr : Rises l) :
    Calls Try.prog 109 #[v, t, .func (.func 25) #[] #[]] w fun e w' => ∃ n : Int, e = .returned (.tuple #[.int .i64 n, .bool (inFrom l g 0)]) ∧ Later w w' := by
  have mx := mixed
  have HF := hide hf
  have HT := hide ht
  have HR := hide hr
  obtain ⟨a, cap, rfl, hn, hz⟩ := hf.addr
  obtain ⟨s2, rfl, l2, a2, c2, rfl, _⟩ := ht
  clear hf hr
  go_enter Try.func109, Try.ntmps109
  go_wp2
  go_loopw [9, 10] (fun i j wr => ∃ lo hi : Nat, lo ≤ hi ∧ hi ≤ l.length ∧ i = .int .i64 lo ∧ j = .int .i64 hi ∧ Later (w.alloc (.cells #[.string g.1, .slice a2 g.2.length c2] 25)) wr ∧ Hid (∀ t, t < lo → cmpF (l.getD t noFact) g < 0) ∧ Hid (∀ t, hi ≤ t → t < l.length → 0 ≤ cmpF (l.getD t noFact) g)) (fun i j _ => (intOf j).toNat - (intOf i).toNat)
  case atStart => exact ⟨0, l.length, by omega, by omega, rfl, rfl, Later.refl _, fun t ht => absurd ht (Nat.not_lt_zero _), fun t h1 h2 => by omega⟩
  case round =>
    obtain ⟨lo, hi, hlh, hin, rfl, rfl, hL, HA, HB⟩ := hrel
    have hL0 : Later w wr := ((Later.refl _).alloc _).trans hL
    have z0 := cell_later hL (p := ⟨w.heap.size, 0, none⟩) (v := .string g.1) (by simp) (by simp)
    have z1 := cell_later hL (p := ⟨w.heap.size, 1, none⟩) (v := .slice a2 g.2.length c2) (by simp) (by simp)
    by_cases hlt : lo < hi
    · rcases hz with rfl | ⟨b, off, rfl⟩
      · simp at hin; omega
      obtain ⟨m, hm⟩ : ∃ m, m = (lo + hi) / 2 := ⟨_, rfl⟩
      have hml : m < l.length := by omega
      have hlm : lo ≤ m := by omega
      have hmh : m < hi := by omega
      have em : ((lo : Int) + (hi : Int)) / 2 = (m : Int) := by omega
      clear hm
      have hltz : (lo : Int) < (hi : Int) := by omega
      have hmz : (m : Int) < (l.length : Int) := by omega
      obtain ⟨ax, lx, cx, g1, g2, fx⟩ := (HF.out.later hL0).grown hml
      have hC : ∀ q os, Calls Try.prog 25 #[.agg #[.string (l.getD m noFact).1, .slice ax lx cx], .agg #[.string g.1, .slice a2 g.2.length c2]] (grow (wr.drewN q) os) fun e w'' => e = .returned (.int .i64 (cmpF (l.getD m noFact) g)) ∧ Later (grow (wr.drewN q) os) w'' :=
        fun q os => compareF _ _ _ _ _ (fx.later ⟨q, os, rfl⟩) ((HT.out.later hL0).later ⟨q, os, rfl⟩)
      have HC := hide hC
      clear hC fx
      have hlow := HR.out
      have hstep1 : cmpF (l.getD m noFact) g < 0 → ∀ t, t < m + 1 → cmpF (l.getD t noFact) g < 0 := fun h t ht => by
        by_cases e : t = m
        · rw [e]; exact h
        · have h3 := List.pairwise_iff_getElem.1 hlow t m (by omega) hml (by omega)
          refine three_cmpF.trans _ (l.getD m noFact) _ ?_ h
          rw [List.getD_eq_getElem?_getD, List.getElem?_eq_getElem (by omega), List.getD_eq_getElem?_getD, List.getElem?_eq_getElem hml]
          exact h3
      have hstep2 : 0 ≤ cmpF (l.getD m noFact) g → ∀ t, m ≤ t → t < l.length → 0 ≤ cmpF (l.getD t noFact) g := fun h t h1 h2 => by
        by_cases e : t = m
        · rw [e]; exact h
        · have h3 := List.pairwise_iff_getElem.1 hlow m t (by omega) h2 (by omega)
          refine Int.not_lt.1 fun n => ?_
          have h4 := three_cmpF.trans (l.getD m noFact) (l.getD t noFact) g (by
            rw [List.getD_eq_getElem?_getD, List.getElem?_eq_getElem (by omega), List.getD_eq_getElem?_getD, List.getElem?_eq_getElem h2]
            exact h3) n
          omega
      have H1 := hide hstep1
      have H2 := hide hstep2
      clear hstep1 hstep2 hlow
      generalize hcm : cmpF (l.getD m noFact) g = cm at *
      have HCM := hide hcm
      clear hcm
      generalize (l.getD m noFact).1 = nm at *
      by_cases hneg : cm < 0
      · go_wp2
        go_quiet_grown ((go_at_call 25; exact Calls.grown_of (HC.out _ _)))
        go_wp2
        go_roundw
        case rel => exact ⟨m + 1, hi, by omega, hin, by go_num, rfl, hL.trans ⟨_, _, rfl⟩, H1.out hneg, HB⟩
        case measure => simp [intOf]; omega
      · go_wp2
        go_quiet_grown ((go_at_call 25; exact Calls.grown_of (HC.out _ _)))
        go_wp2
        go_roundw
        case rel => exact ⟨lo, m, by omega, by omega, rfl, rfl, hL.trans ⟨_, _, rfl⟩, HA, H2.out (by omega)⟩
        case measure => simp [intOf]; omega
    · obtain rfl : lo = hi := by omega
      have hfin := meet HR.out hin HA.out HB.out
      by_cases hll : lo < l.length
      · rcases hz with rfl | ⟨b, off, rfl⟩
        · simp at hll
        have hmz : (lo : Int) < (l.length : Int) := by omega
        obtain ⟨ax, lx, cx, g1, g2, fx⟩ := (HF.out.later hL0).grown hll
        have hC : ∀ q os, Calls Try.prog 25 #[.agg #[.string (l.getD lo noFact).1, .slice ax lx cx], .agg #[.string g.1, .slice a2 g.2.length c2]] (grow (wr.drewN q) os) fun e w'' => e = .returned (.int .i64 (cmpF (l.getD lo noFact) g)) ∧ Later (grow (wr.drewN q) os) w'' :=
          fun q os => compareF _ _ _ _ _ (fx.later ⟨q, os, rfl⟩) ((HT.out.later hL0).later ⟨q, os, rfl⟩)
        have HC := hide hC
        rw [decide_eq_true hll] at hfin
        have HFN := hide hfin
        clear hC fx hfin
        generalize hcm : cmpF (l.getD lo noFact) g = cm at *
        generalize (l.getD lo noFact).1 = nm at *
        have HCM := hide hcm
        clear hcm
        go_wp2
        go_quiet_grown ((go_at_call 25; exact Calls.grown_of (HC.out _ _)))
        go_wp2
        go_ret2
        exact ⟨(lo : Int), ret_two (by rw [HFN.out, Bool.true_and, Bool.eq_iff_iff]; simp), hL0.trans ⟨_, _, rfl⟩⟩
      · rw [decide_eq_false hll] at hfin
        have HFN := hide hfin
        clear hfin
        have hd : decide ((lo : Int) < (l.length : Int)) = false := by rw [decide_eq_false_iff_not]; omega
        go_wp2
        go_quiet (fail)
        go_wp2
        go_ret2
        exact ⟨(lo : Int), ret_two (by rw [HFN.out]; rfl), hL0.drewN _⟩

end Go.Proofs.Ythogickpeldhlaa
