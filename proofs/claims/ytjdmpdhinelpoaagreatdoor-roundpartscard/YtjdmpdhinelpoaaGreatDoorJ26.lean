/- Texts of this claim, one behind the other. -/
import Derived.Test.YtjdmpdhinelpoaaGreatDoorJ24
/- The walk of RoundTold. -/
namespace Go.Proofs.YtjdmpdhinelpoaaGreatDoor
open Go.RowKit Go.Sort Go.Maps

/-- Told what follows, nothing is new: of a program that asks for nothing not to be so. -/
theorem told_same {p : List RuleD} {l M : List FactB} (hno : ∀ r ∈ p, ∀ a ∈ r.body, a.no = false) (h : allR p l = (0, M)) : (allR p M).1 = 4 ∨ allR p M = (0, M) := by
  have h0 : forE p l = 0 := by
    refine Classical.byContradiction fun hn => ?_
    unfold allR at h
    rw [if_pos hn] at h
    exact hn (congrArg Prod.fst h)
  obtain ⟨hp, hg, _, _, _, _⟩ := forE_zero h0
  have hst : strataP p = (p.map fun _ => 0, 0, 0) := strataP_plain (rightP_iff.2 hp) hno
  have e1 : (strataP p).1 = p.map fun _ => 0 := by rw [hst]
  have eR : ∀ {L : List FactB}, forE p L = 0 → allR p L = if (stepsP p (p.map fun _ => 0) 1000 ⟨L, L, 0, 0, decide (countP (p.map fun _ => 0) = 0)⟩).1 ≠ 0 then ((stepsP p (p.map fun _ => 0) 1000 ⟨L, L, 0, 0, decide (countP (p.map fun _ => 0) = 0)⟩).1, []) else (0, (stepsP p (p.map fun _ => 0) 1000 ⟨L, L, 0, 0, decide (countP (p.map fun _ => 0) = 0)⟩).2.known) := fun hL => by
    unfold allR runOf
    rw [if_neg (by simp [hL]), e1]
  have hA := eR h0
  rw [h] at hA
  split at hA
  · rename_i hn
    exact absurd (congrArg Prod.fst hA).symm hn
  · rename_i hn
    have hn := Classical.byContradiction hn
    obtain ⟨x, hx⟩ : ∃ x, stepsP p (p.map fun _ => 0) 1000 ⟨l, l, 0, 0, decide (countP (p.map fun _ => 0) = 0)⟩ = (0, x) := ⟨_, Prod.ext hn rfl⟩
    rw [hx] at hA
    have hM : M = x.known := congrArg Prod.snd hA
    have hr := steps_right hp (fun _ => 0) 1000 (right_begin hg) hx
    have hM0 : forE p M = 0 := by
      unfold forE
      rw [if_neg (by rw [hst]; simp), hM, good_facts hr.good]
    rw [eR hM0, hM]
    rcases told_again hp hg hx with h1 | ⟨h1, h2⟩
    · left
      rw [if_pos (by rw [h1]; simp)]
      exact h1
    · right
      rw [if_neg (by simp [h1]), h2]

set_option maxRecDepth 100000 in
set_option maxHeartbeats 4000000 in
theorem roundToldW (pv fv : Value) (p : List RuleD) (l : List FactB) (w : World) (m : Int) (hm : w.cell? ⟨0, 0, none⟩ = some (.int .i64 m)) (hv : ruleK.sl Anyw w pv p) (hf : Facts w fv l) :
    Calls Tryz.prog 7 #[pv, fv] w fun e w' => e = .returned (.bool true) ∧ Below w.heap.size w w' := by
  have HA := hide (alive6 w m hm)
  obtain ⟨pa, pc, rfl⟩ := Kind.slice hv
  obtain ⟨fa, fc, rfl⟩ := sliceFacts hf
  have HV := hide hv
  have HF := hide hf
  have hl0 := hv.1.1
  clear hv hf hm
  go_enter Tryz.func7, Tryz.ntmps7
  go_wp2_with fail
  refine HA.out.mono ?_
  rintro e w1 ⟨rfl, hB1⟩
  have HB1 := hide hB1
  clear HA hB1
  go_wp2
  go_loopg [16] p.length (fun g i wr => ∃ j : Nat, j + g = p.length ∧ i = .int .i64 j ∧ Hid (∀ r ∈ p.take j, ∀ a ∈ r.body, a.no = false) ∧ Hid (Below w.heap.size w wr))
  case atStart => exact ⟨0, by omega, rfl, (fun r hr => by simp at hr), HB1⟩
  case round =>
    obtain ⟨j, hj, rfl, HN, HB⟩ := hrel
    clear HB1
    have hwr := HB.out.size
    by_cases hlt : j < p.length
    · obtain ⟨r, hr⟩ : ∃ x, p[j]? = some x := ⟨_, List.getElem?_eq_getElem hlt⟩
      obtain ⟨b1, o1, _, rfl, hb1, ⟨sv, su, rfl, hsv, hsu⟩, hcl⟩ := Kind.sl_at HV.out hr
      have d0 : wr.cell? ⟨b1, o1 + j * 4, none⟩ = some (.bool r.head.no) := by rw [HB.out.cell hb1]; exact hcl 0 _ rfl
      have d1 : wr.cell? ⟨b1, o1 + j * 4 + 1, none⟩ = some (.string (bs r.head.name)) := by rw [HB.out.cell hb1]; exact hcl 1 _ rfl
      have d2 : wr.cell? ⟨b1, o1 + j * 4 + 2, none⟩ = some sv := by rw [HB.out.cell hb1]; exact hcl 2 _ rfl
      have d3 : wr.cell? ⟨b1, o1 + j * 4 + 3, none⟩ = some su := by rw [HB.out.cell hb1]; exact hcl 3 _ rfl
      have hbr : b1 < wr.heap.size := by omega
      obtain ⟨a2, c2, rfl⟩ := Kind.slice hsv
      obtain ⟨a3, c3, rfl⟩ := Kind.slice hsu
      have HSU := hide hsu
      have hlb := hsu.1.1
      have HN1 : Hid ((∀ a ∈ r.body, a.no = false) → ∀ q ∈ p.take (j + 1), ∀ a ∈ q.body, a.no = false) := fun h q hq => by
        rw [List.take_add_one, hr] at hq
        rcases List.mem_append.1 hq with hq | hq
        · exact HN.out q hq
        · simp at hq; rw [hq]; exact h
      have HB1 := hide (HB.out.alloc hwr (.cells #[.bool r.head.no, .string (bs r.head.name), .slice a2 r.head.terms.length c2, .slice a3 r.body.length c3] 48))
      clear hcl hr hsv hsu HN HB
      generalize bs r.head.name = nm at *
      generalize r.head.no = no at *
      go_wp2
      go_loopg [23] r.body.length (fun g i wr2 => ∃ q : Nat, q + g = r.body.length ∧ i = .int .i64 q ∧ Hid (∀ a ∈ r.body.take q, a.no = false) ∧ Hid (Below w.heap.size w wr2))
      case atStart => exact ⟨0, by omega, rfl, (fun a ha => by simp at ha), HB1⟩
      case round =>
        obtain ⟨q, hq, rfl, HNq, HBq⟩ := hrel
        clear HB1 d0 d1 d2 d3
        have hwr2 := HBq.out.size
        by_cases hlq : q < r.body.length
        · obtain ⟨a, ha⟩ : ∃ x, r.body[q]? = some x := ⟨_, List.getElem?_eq_getElem hlq⟩
          obtain ⟨b2, o2, _, rfl, hb2, ⟨tv, rfl, htv⟩, hcl⟩ := Kind.sl_at HSU.out ha
          have d0 : wr.cell? ⟨b2, o2 + q * 3, none⟩ = some (.bool a.no) := by rw [HBq.out.cell hb2]; exact hcl 0 _ rfl
          have d1 : wr.cell? ⟨b2, o2 + q * 3 + 1, none⟩ = some (.string (bs a.name)) := by rw [HBq.out.cell hb2]; exact hcl 1 _ rfl
          have d2 : wr.cell? ⟨b2, o2 + q * 3 + 2, none⟩ = some tv := by rw [HBq.out.cell hb2]; exact hcl 2 _ rfl
          have hbr2 : b2 < wr.heap.size := by omega
          obtain ⟨a4, c4, rfl⟩ := Kind.slice htv
          cases hno : a.no
          · have HN2 : Hid (∀ x ∈ r.body.take (q + 1), x.no = false) := fun x hx => by
              rw [List.take_add_one, ha] at hx
              rcases List.mem_append.1 hx with hx | hx
              · exact HNq.out x hx
              · simp at hx; rw [hx]; exact hno
            rw [hno] at d0
            clear hcl ha htv HNq hno
            generalize bs a.name = na at *
            go_wp2
            go_roundg (r.body.length - (q + 1))
            case measure => omega
            case rel => exact ⟨q + 1, by omega, by go_num, HN2, HBq.out.alloc hwr2 _⟩
          · rw [hno] at d0
            clear hcl ha htv HNq hno
            generalize bs a.name = na at *
            go_wp2
            go_ret
            exact ⟨rfl, HBq.out.alloc hwr2 _⟩
        · have HN2 : Hid (∀ x ∈ p.take (j + 1), ∀ a ∈ x.body, a.no = false) := by
            refine HN1.out ?_
            have := HNq.out
            rw [List.take_of_length_le (by omega)] at this
            exact this
          go_wp2
          go_roundg (p.length - (j + 1))
          case measure => omega
          case rel => exact ⟨j + 1, by omega, by go_num, HN2, HBq⟩
    · have HNo : Hid (∀ r ∈ p, ∀ a ∈ r.body, a.no = false) := by
        have := HN.out
        rw [List.take_of_length_le (by omega)] at this
        exact this
      have HAll := hide (roundAll p l (.slice pa p.length pc) (.slice fa l.length fc) wr (Kind.sl_below HV.out HB.out) (HF.out.below HB.out))
      clear HN
      go_wp2_with fail
      refine HAll.out.mono ?_
      rintro e w2 ⟨v2, e2, rfl, hT2, hB2⟩
      have HB2 : Hid (Below w.heap.size w w2) := below_trans HB.out hB2 HB.out.size
      have he2 := hT2.1
      obtain ⟨er, M, hR⟩ : ∃ er M, allR p l = (er, M) := ⟨_, _, rfl⟩
      rw [hR] at he2 hT2
      have he2 : e2 = er := he2
      subst he2
      have hF2 : Facts w2 v2 M := once_facts hT2 (by have h := @allR_nil p l; rw [hR] at h; exact h)
      obtain ⟨a2, c2, rfl⟩ := sliceFacts hF2
      by_cases h0 : e2 = 0
      · subst h0
        have HTo := hide (told_same HNo.out hR)
        have HAll2 := hide (roundAll p M (.slice pa p.length pc) (.slice a2 M.length c2) w2 (Kind.sl_below HV.out HB2.out) hF2)
        have HF2 := hide hF2
        clear hT2 hB2 HAll hF2 hR
        go_wp2_with fail
        refine HAll2.out.mono ?_
        rintro e w3 ⟨v3, e3, rfl, hT3, hB3⟩
        have HB3 : Hid (Below w.heap.size w w3) := below_trans HB2.out hB3 HB2.out.size
        have he3 := hT3.1
        have hF3 : Facts w3 v3 (allR p M).2 := once_facts hT3 allR_nil
        by_cases h4 : e3 = 4
        · subst h4
          obtain ⟨a3, c3, rfl⟩ := sliceFacts hF3
          clear hT3 hB3 hF3 he3 HTo HAll2
          go_wp2
          go_ret
          exact ⟨rfl, HB3.out⟩
        · have hA : allR p M = (0, M) := HTo.out.resolve_left fun h => h4 (he3.trans h)
          rw [hA] at he3 hF3
          have he3 : e3 = 0 := he3
          subst he3
          have HSm := hide (rSame v3 _ M w3 hF3 (HF2.out.below hB3))
          obtain ⟨a3, c3, rfl⟩ := sliceFacts hF3
          clear hT3 hB3 hF3 hA HTo HAll2 h4
          go_wp2_with fail
          refine HSm.out.mono ?_
          rintro e w4 ⟨rfl, hL4⟩
          have HB4 : Hid (Below w.heap.size w w4) := below_trans HB3.out hL4.below HB3.out.size
          clear hL4 HSm
          go_wp2
          go_ret
          exact ⟨rfl, HB4.out⟩
      · have hne : (e2 != 0) = true := by simpa using h0
        clear hT2 hB2 HAll hF2 hR h0
        go_wp2
        go_ret
        exact ⟨rfl, HB2.out⟩

end Go.Proofs.YtjdmpdhinelpoaaGreatDoor

/- The walk of RoundParts. -/
namespace Go.Proofs.YtjdmpdhinelpoaaGreatDoor
open Go.RowKit Go.Sort Go.Maps

theorem stepsF_ok {p : List RuleD} {r : RunD} {n : Int} (h : (stepsF p r n).1 = 0) : wrongRunP p r = 0 ∧ 0 ≤ n ∧ n ≤ 1000 ∧ stepsF p r n = stepsP p (strataP p).1 n.toNat r := by
  unfold stepsF at h ⊢
  split at h
  · rename_i h1; exact absurd h h1
  · rename_i h1
    split at h
    · simp at h
    · rename_i h2
      have h2 : (decide (0 ≤ n) && decide (n ≤ 1000)) = true := by simpa using h2
      rw [if_neg h1, if_neg (by simp [h2])]
      simp only [Bool.and_eq_true, decide_eq_true_eq] at h2
      exact ⟨Classical.byContradiction h1, h2.1, h2.2, rfl⟩

theorem stepsF_of {p : List RuleD} {r : RunD} {n : Int} (h : wrongRunP p r = 0) (h0 : 0 ≤ n) (h1 : n ≤ 1000) : stepsF p r n = stepsP p (strataP p).1 n.toNat r := by
  unfold stepsF
  rw [if_neg (by simp [h]), if_neg (by simp [h0, h1])]

/-- What comes of a run with which nothing is wrong is such a run. -/
theorem wrong_steps {p : List RuleD} {r x : RunD} {n : Int} (h : stepsF p r n = (0, x)) : wrongRunP p x = 0 := by
  obtain ⟨h1, _, _, h2⟩ := stepsF_ok (p := p) (r := r) (n := n) (by rw [h])
  obtain ⟨h3, h4⟩ := wrongRun_zero h1
  obtain ⟨hp, _, τ, _, hs, _⟩ := forE_zero h3
  have e : (strataP p).1 = p.map fun r => τ r.head.name := by rw [hs]
  rw [h2] at h
  have hr : RightN p (countP (strataP p).1) x := by
    rw [e] at h h4 ⊢
    exact steps_right hp _ _ h4 h
  refine wrongRun_right ?_ hr
  unfold forE
  rw [if_neg (by rw [hs]; simp), good_facts hr.good]

/-- Stopped, and gone on with. -/
theorem parts_same {p : List RuleD} {r x : RunD} {n m : Int} (h : stepsF p r n = (0, x)) (hn : n ≤ 100) (hm0 : 0 ≤ m) (hm : m ≤ 100) : stepsF p x m = stepsF p r (n + m) := by
  obtain ⟨h1, h0, _, h2⟩ := stepsF_ok (p := p) (r := r) (n := n) (by rw [h])
  rw [stepsF_of (wrong_steps h) hm0 (by omega), stepsF_of h1 (by omega) (by omega), show (n + m).toNat = n.toNat + m.toNat by omega]
  rw [h2] at h
  rw [steps_add n.toNat m.toNat r (by rw [h]), h]

theorem steps_noRun {p : List RuleD} {r : RunD} {n : Int} (h : (stepsF p r n).1 ≠ 0) : (stepsF p r n).2 = noRun := by
  unfold stepsF at h ⊢
  split
  · rfl
  · rename_i h1
    rw [if_neg h1] at h
    split
    · rfl
    · rename_i h2
      rw [if_neg h2] at h
      rcases steps_err (p := p) (ss := (strataP p).1) n.toNat r with h3 | h3 | h3
      · exact absurd h3 h
      · rw [h3]
      · rw [h3]

theorem few_steps {p : List RuleD} {r : RunD} {n : Int} : (stepsF p r n).2.known.length ≤ 200 ∧ (stepsF p r n).2.fresh.length ≤ 200 := by
  by_cases h : (stepsF p r n).1 = 0
  · have hw := wrong_steps (p := p) (r := r) (n := n) (x := (stepsF p r n).2) (Prod.ext h rfl)
    obtain ⟨_, hr⟩ := wrongRun_zero hw
    exact ⟨hr.good.few, Nat.le_trans (up_le hr.up hr.sub) hr.good.few⟩
  · rw [steps_noRun h]; exact ⟨by simp [noRun], by simp [noRun]⟩

theorem few_begin {p : List RuleD} {l : List FactB} : (beginP p l).2.known.length ≤ 200 ∧ (beginP p l).2.fresh.length ≤ 200 := by
  unfold beginP
  split
  · exact ⟨by simp [noRun], by simp [noRun]⟩
  · rename_i h
    obtain ⟨_, hg, _⟩ := forE_zero (Classical.byContradiction h)
    exact ⟨hg.few, hg.few⟩

set_option maxRecDepth 100000 in
set_option maxHeartbeats 4000000 in
theorem roundPartsW (pv fv : Value) (n m : Int) (p : List RuleD) (l : List FactB) (w : World) (mx : Int) (hm : w.cell? ⟨0, 0, none⟩ = some (.int .i64 mx)) (hv : ruleK.sl Anyw w pv p) (hf : Facts w fv l) :
    Calls Tryz.prog 5 #[pv, fv, .int .i64 n, .int .i64 m] w fun e w' => e = .returned (.bool true) ∧ Below w.heap.size w w' := by
  have HA := hide (alive6 w mx hm)
  obtain ⟨pa, pc, rfl⟩ := Kind.slice hv
  obtain ⟨fa, fc, rfl⟩ := sliceFacts hf
  have HV := hide hv
  have HF := hide hf
  clear hv hf hm
  go_enter Tryz.func5, Tryz.ntmps5
  go_wp2_with fail
  refine HA.out.mono ?_
  rintro e w1 ⟨rfl, hB1⟩
  have HB1 := hide hB1
  have HBg := hide (roundBegin p l (.slice pa p.length pc) (.slice fa l.length fc) w1 (Kind.sl_below HV.out hB1) (HF.out.below hB1))
  have hfb := @few_begin p l
  obtain ⟨er, R, hbg⟩ : ∃ er R, beginP p l = (er, R) := ⟨_, _, rfl⟩
  rw [hbg] at HBg hfb
  clear hB1 HA hbg
  go_wp2_with fail
  refine HBg.out.mono ?_
  rintro e w2 ⟨v2, er', rfl, ⟨her, hR2⟩, hB2⟩
  dsimp only at her hR2 hfb
  obtain rfl : er = er' := her.symm
  clear her
  obtain ⟨ra, rc, sa, sc, rfl, hO2, hN2⟩ := hR2.slices
  have HB2 : Hid (Below w.heap.size w w2) := below_trans HB1.out hB2 HB1.out.size
  have HK2 := hide (hO2.facts (by omega))
  have HN2 := hide (hN2.facts (by omega))
  clear hB2 hR2 hO2 hN2 HBg HB1
  have HBa : Hid (Below w.heap.size w (w2.alloc (.cells #[.slice ra R.known.length rc, .slice sa R.fresh.length sc, .int .i64 R.level, .int .i64 R.rounds, .bool R.done] 26))) := below_trans HB2.out ((Later.refl _).alloc _).below HB2.out.size
  by_cases h0 : er = 0
  · subst h0
    by_cases hn0 : n < 0
    · go_wp2
      go_ret
      exact ⟨rfl, HBa.out⟩
    · by_cases hm0 : m < 0
      · go_wp2
        go_ret
        exact ⟨rfl, HBa.out⟩
      · by_cases hn1 : 100 < n
        · go_wp2
          go_ret
          exact ⟨rfl, HBa.out⟩
        · by_cases hm1 : 100 < m
          · go_wp2
            go_ret
            exact ⟨rfl, HBa.out⟩
          · obtain ⟨w3, hw3⟩ : ∃ w3, w3 = w2.alloc (.cells #[.slice ra R.known.length rc, .slice sa R.fresh.length sc, .int .i64 R.level, .int .i64 R.rounds, .bool R.done] 26) := ⟨_, rfl⟩
            have hL3 : Later w2 w3 := by rw [hw3]; exact (Later.refl _).alloc _
            have hr3 : w3.heap[w2.heap.size]? = some (.cells #[.slice ra R.known.length rc, .slice sa R.fresh.length sc, .int .i64 R.level, .int .i64 R.rounds, .bool R.done] 26 (0, 0)) := by rw [hw3]; exact heap_alloc_new w2 _
            rw [← hw3] at HBa
            have HSt := hide (roundSteps p R n (.slice pa p.length pc) _ _ w3 (Kind.sl_below HV.out HBa.out) (HK2.out.later hL3) (HN2.out.later hL3))
            have hfx := @few_steps p R n
            obtain ⟨ex, X, hX⟩ : ∃ ex X, stepsF p R n = (ex, X) := ⟨_, _, rfl⟩
            rw [hX] at HSt hfx
            have HXe := hide hX
            have HR3 := hide hr3
            have HK3 := hide (HK2.out.later hL3)
            have HN3 := hide (HN2.out.later hL3)
            have hz3 : w2.heap.size < w3.heap.size := (Array.getElem?_eq_some_iff.1 hr3).1
            have HW3 := hide hw3
            clear hX hr3 hw3 hL3 HK2 HN2 HB2
            go_wp2_with fail
            rw [← HW3.out]
            refine HSt.out.mono ?_
            rintro e w4 ⟨v4, ex', rfl, ⟨hex, hR4⟩, hB4⟩
            dsimp only at hex hR4 hfx
            obtain rfl : ex = ex' := hex.symm
            clear hex
            obtain ⟨xa, xc, ya, yc, rfl, hO4, hN4⟩ := hR4.slices
            have HB4 : Hid (Below w.heap.size w w4) := below_trans HBa.out hB4 HBa.out.size
            have HB5 : Hid (Below w.heap.size w (w4.alloc (.cells #[.slice xa X.known.length xc, .slice ya X.fresh.length yc, .int .i64 X.level, .int .i64 X.rounds, .bool X.done] 26))) := below_trans HB4.out ((Later.refl _).alloc _).below HB4.out.size
            by_cases h1 : ex = 0
            · subst h1
              obtain ⟨w5, hw5⟩ : ∃ w5, w5 = w4.alloc (.cells #[.slice xa X.known.length xc, .slice ya X.fresh.length yc, .int .i64 X.level, .int .i64 X.rounds, .bool X.done] 26) := ⟨_, rfl⟩
              have hL5 : Later w4 w5 := by rw [hw5]; exact (Later.refl _).alloc _
              have hr5 : w5.heap[w4.heap.size]? = some (.cells #[.slice xa X.known.length xc, .slice ya X.fresh.length yc, .int .i64 X.level, .int .i64 X.rounds, .bool X.done] 26 (0, 0)) := by rw [hw5]; exact heap_alloc_new w4 _
              have hq5 : w5.heap[w2.heap.size]? = some (.cells #[.slice ra R.known.length rc, .slice sa R.fresh.length sc, .int .i64 R.level, .int .i64 R.rounds, .bool R.done] 26 (0, 0)) := by rw [hL5.block (by have := hB4.size; omega), hB4.block _ hz3]; exact HR3.out
              rw [← hw5] at HB5
              have hFX := (hO4.later hL5).facts (by omega)
              have hGX := (hN4.later hL5).facts (by omega)
              have HSt2 := hide (roundSteps p X m (.slice pa p.length pc) _ _ w5 (Kind.sl_below HV.out HB5.out) hFX hGX)
              have HK5 := hide ((HK3.out.below hB4).later hL5)
              have HN5 := hide ((HN3.out.below hB4).later hL5)
              have hfy := @few_steps p X m
              have hpe := parts_same HXe.out (by omega) (by omega) (by omega)
              obtain ⟨ey, Y, hY⟩ : ∃ ey Y, stepsF p X m = (ey, Y) := ⟨_, _, rfl⟩
              rw [hY] at HSt2 hfy hpe
              have HPe := hide hpe.symm
              have HR5 := hide hr5
              have HQ5 := hide hq5
              have HW5 := hide hw5
              have hz5 : w2.heap.size < w5.heap.size := (Array.getElem?_eq_some_iff.1 hq5).1
              clear hY hpe hr5 hq5 hw5 hL5 hFX hGX hB4 hR4 hO4 hN4 HSt HXe HR3 HK3 HN3 HB4 HW3 HBa
              go_wp2_with fail
              rw [← HW5.out]
              refine HSt2.out.mono ?_
              rintro e w6 ⟨v6, ey', rfl, ⟨hey, hR6⟩, hB6⟩
              dsimp only at hey hR6 hfy
              obtain rfl : ey = ey' := hey.symm
              clear hey
              obtain ⟨za, zc, ua, uc, rfl, hO6, hN6⟩ := hR6.slices
              obtain ⟨w7, hw7⟩ : ∃ w7, w7 = w6.alloc (.cells #[.slice za Y.known.length zc, .slice ua Y.fresh.length uc, .int .i64 Y.level, .int .i64 Y.rounds, .bool Y.done] 26) := ⟨_, rfl⟩
              have hL7 : Later w6 w7 := by rw [hw7]; exact (Later.refl _).alloc _
              have hr7 : w7.heap[w6.heap.size]? = some (.cells #[.slice za Y.known.length zc, .slice ua Y.fresh.length uc, .int .i64 Y.level, .int .i64 Y.rounds, .bool Y.done] 26 (0, 0)) := by rw [hw7]; exact heap_alloc_new w6 _
              have hq7 : w7.heap[w2.heap.size]? = some (.cells #[.slice ra R.known.length rc, .slice sa R.fresh.length sc, .int .i64 R.level, .int .i64 R.rounds, .bool R.done] 26 (0, 0)) := by rw [hL7.block (by have := hB6.size; omega), hB6.block _ hz5]; exact HQ5.out
              have HB7 : Hid (Below w.heap.size w w7) := below_trans (below_trans HB5.out hB6 HB5.out.size) hL7.below (Nat.le_trans HB5.out.size hB6.size)
              have hSt3 := roundSteps p R (n + m) (.slice pa p.length pc) _ _ w7 (Kind.sl_below HV.out HB7.out) ((HK5.out.below hB6).later hL7) ((HN5.out.below hB6).later hL7)
              rw [HPe.out] at hSt3
              have HSt3 := hide hSt3
              have HFY := hide ((hO6.later hL7).facts (by omega))
              have HGY := hide ((hN6.later hL7).facts (by omega))
              have HR7 := hide hr7
              have HW7 := hide hw7
              have hz7 : w6.heap.size < w7.heap.size := (Array.getElem?_eq_some_iff.1 hr7).1
              obtain ⟨b0, b1, b2, b3, b4, _, _⟩ := row5 hq7
              rw [hw7] at b0 b1 b2 b3 b4
              clear hr7 hq7 hL7 hR6 hO6 hN6 hSt3 HSt2 HPe HR5 HQ5 HW5 HK5 HN5 HB5 hB6 hw7
              go_wp2_with fail
              rw [← HW7.out]
              refine HSt3.out.mono ?_
              rintro e w8 ⟨v8, ey', rfl, ⟨hey, hR8⟩, hB8⟩
              dsimp only at hey hR8
              obtain rfl : ey = ey' := hey.symm
              clear hey b0 b1 b2 b3 b4
              obtain ⟨ta, tc, va, vc, rfl, hO8, hN8⟩ := hR8.slices
              obtain ⟨w9, hw9⟩ : ∃ w9, w9 = w8.alloc (.cells #[.slice ta Y.known.length tc, .slice va Y.fresh.length vc, .int .i64 Y.level, .int .i64 Y.rounds, .bool Y.done] 26) := ⟨_, rfl⟩
              have hL9 : Later w8 w9 := by rw [hw9]; exact (Later.refl _).alloc _
              have hr9 : w9.heap[w8.heap.size]? = some (.cells #[.slice ta Y.known.length tc, .slice va Y.fresh.length vc, .int .i64 Y.level, .int .i64 Y.rounds, .bool Y.done] 26 (0, 0)) := by rw [hw9]; exact heap_alloc_new w8 _
              have hq9 : w9.heap[w6.heap.size]? = some (.cells #[.slice za Y.known.length zc, .slice ua Y.fresh.length uc, .int .i64 Y.level, .int .i64 Y.rounds, .bool Y.done] 26 (0, 0)) := by rw [hL9.block (by have := hB8.size; omega), hB8.block _ hz7]; exact HR7.out
              have HB9 : Hid (Below w.heap.size w w9) := below_trans (below_trans HB7.out hB8 HB7.out.size) hL9.below (Nat.le_trans HB7.out.size hB8.size)
              have HSm := hide (sameRun Y (.agg #[.slice za Y.known.length zc, .slice ua Y.fresh.length uc, .int .i64 Y.level, .int .i64 Y.rounds, .bool Y.done]) (.agg #[.slice ta Y.known.length tc, .slice va Y.fresh.length vc, .int .i64 Y.level, .int .i64 Y.rounds, .bool Y.done]) w9 ⟨_, _, rfl, (HFY.out.below hB8).later hL9, (HGY.out.below hB8).later hL9⟩ ⟨_, _, rfl, (hO8.later hL9).facts (by omega), (hN8.later hL9).facts (by omega)⟩)
              obtain ⟨b0, b1, b2, b3, b4, _, _⟩ := row5 hq9
              rw [hw9] at b0 b1 b2 b3 b4
              have HW9 := hide hw9
              clear hr9 hq9 hL9 hR8 hO8 hN8 HSt3 HR7 HW7 HFY HGY HB7 hB8 hw9
              go_wp2_with fail
              rw [← HW9.out]
              refine HSm.out.mono ?_
              rintro e w10 ⟨rfl, hL10⟩
              have HB10 : Hid (Below w.heap.size w w10) := below_trans HB9.out hL10.below HB9.out.size
              clear hL10 HSm b0 b1 b2 b3 b4
              go_wp2
              go_ret
              exact ⟨by simp, HB10.out⟩
            · have hne : (ex != 0) = true := by simpa using h1
              clear h1 hB4 hR4 hO4 hN4 HSt HXe HR3 HK3 HN3 HB4 HW3 HBa
              go_wp2
              go_ret
              exact ⟨rfl, HB5.out⟩
  · have hne : (er != 0) = true := by simpa using h0
    clear h0
    go_wp2
    go_ret
    exact ⟨rfl, HBa.out⟩

end Go.Proofs.YtjdmpdhinelpoaaGreatDoor

/- The walk of RoundRight. -/
namespace Go.Proofs.YtjdmpdhinelpoaaGreatDoor
open Go.RowKit Go.Sort Go.Maps

/-- One round of a run with which nothing is wrong. -/
theorem step_right {p : List RuleD} {r x : RunD} (hw : wrongRunP p r = 0) (h : stepsF p r 1 = (0, x)) : wrongRunP p x = 0 ∧ (∀ f ∈ r.known, f ∈ x.known) ∧ (r.done = true → x = r) ∧ r.rounds ≤ x.rounds ∧ r.level ≤ x.level := by
  refine ⟨wrong_steps h, ?_⟩
  obtain ⟨_, _, _, h2⟩ := stepsF_ok (p := p) (r := r) (n := 1) (by rw [h])
  rw [h2] at h
  obtain ⟨h3, h4⟩ := wrongRun_zero hw
  obtain ⟨hp, _, τ, _, hs, _⟩ := forE_zero h3
  have e : (strataP p).1 = p.map fun r => τ r.head.name := by rw [hs]
  rw [e] at h h4
  by_cases hd : r.done = true
  · rw [steps_done hd] at h
    simp only [Prod.mk.injEq, true_and] at h
    subst h
    exact ⟨fun _ h => h, fun _ => rfl, Int.le_refl _, Int.le_refl _⟩
  · have hd : r.done = false := by simpa using hd
    have h5 : stepsP p (p.map fun r => τ r.head.name) (0 + 1) r = (0, x) := h
    rw [steps_next hd] at h5
    split at h5
    · rename_i he; simp at h5; exact absurd h5.1 he
    · rename_i he
      have hn : nextP p (p.map fun r => τ r.head.name) r = (0, x) := by
        refine Prod.ext (Classical.byContradiction he) ?_
        simpa [stepsP] using h5
      obtain ⟨_, g2, g3, g4⟩ := next_right hp _ h4 hd hn
      refine ⟨g2, fun h => (by rw [hd] at h; cases h), by omega, ?_⟩
      rcases g4 with ⟨g4, _⟩ | ⟨g4, _⟩ <;> omega

theorem step_err {p : List RuleD} {r : RunD} {n : Int} (hw : wrongRunP p r = 0) (h0 : 0 ≤ n) (h1 : n ≤ 1000) : (stepsF p r n).1 = 0 ∨ (stepsF p r n).1 = 4 ∨ (stepsF p r n).1 = 5 := by
  rw [stepsF_of hw h0 h1]
  rcases steps_err (p := p) (ss := (strataP p).1) n.toNat r with h | h | h
  · exact Or.inl h
  · rw [h]; exact Or.inr (Or.inl rfl)
  · rw [h]; exact Or.inr (Or.inr rfl)

theorem end_done {p : List RuleD} {r x : RunD} (hw : wrongRunP p r = 0) (h : stepsF p r 1000 = (0, x)) : x.done = true := by
  obtain ⟨_, _, _, h2⟩ := stepsF_ok (p := p) (r := r) (n := 1000) (by rw [h])
  rw [h2] at h
  obtain ⟨h3, h4⟩ := wrongRun_zero hw
  obtain ⟨hp, _, τ, _, hs, ht⟩ := forE_zero h3
  have e : (strataP p).1 = p.map fun r => τ r.head.name := by rw [hs]
  rw [e] at h h4
  have hc : countP (p.map fun r => τ r.head.name) ≤ 16 := countP_le' fun s hs => by
    obtain ⟨r, hr, rfl⟩ := List.mem_map.1 hs
    exact ht r hr
  have hl := h4.lev
  exact steps_end hp _ 1000 h4 (by have := h4.good.few; omega) h

theorem less_nil {la lb : List FactB} (h : ∀ f ∈ la, f ∈ lb) : (la.filter fun f => !inFrom lb f 0) = [] := by
  rw [filter_in, List.filter_eq_nil_iff]
  intro f hf
  rw [inB_iff.2 (h f hf)]
  simp

/-- Facts that do not lie in block b. -/
def Away (b : Nat) (w : World) (v : Value) (l : List FactB) : Prop := (∃ w0 : World, w0.heap.size ≤ b ∧ Facts w0 v l ∧ Below w0.heap.size w0 w) ∨ OwnF w (b + 1) v l

theorem Away.facts {b : Nat} {w : World} {v : Value} {l : List FactB} (h : Away b w v l) (hl : l.length ≤ 200) : Facts w v l := by
  rcases h with ⟨w0, _, h2, h3⟩ | h
  · exact h2.below h3
  · exact h.facts (by omega)

theorem Away.turned {b : Nat} {w w' : World} {v : Value} {l : List FactB} (h : Away b w v l) (k : Tn b w w') : Away b w' v l := by
  rcases h with ⟨w0, h1, h2, h3⟩ | h
  · exact Or.inl ⟨w0, h1, h2, below_trans h3 (k.below (n := w0.heap.size) h1 h3.size) (Nat.le_refl _)⟩
  · exact Or.inr (h.stay k.size fun j hj hb => k.block j hj (by omega))

set_option maxRecDepth 100000 in
set_option maxHeartbeats 8000000 in
theorem roundRightW (pv fv : Value) (n : Int) (p : List RuleD) (l : List FactB) (w : World) (mx : Int) (hm : w.cell? ⟨0, 0, none⟩ = some (.int .i64 mx)) (hv : ruleK.sl Anyw w pv p) (hf : Facts w fv l) :
    Calls Tryz.prog 6 #[pv, fv, .int .i64 n] w fun e w' => e = .returned (.bool true) ∧ Below w.heap.size w w' := by
  have HA := hide (alive6 w mx hm)
  obtain ⟨pa, pc, rfl⟩ := Kind.slice hv
  obtain ⟨fa, fc, rfl⟩ := sliceFacts hf
  have HV := hide hv
  have HF := hide hf
  clear hv hf hm
  go_enter Tryz.func6, Tryz.ntmps6
  go_wp2_with fail
  refine HA.out.mono ?_
  rintro e w1 ⟨rfl, hB1⟩
  have HB1 := hide hB1
  have HBg := hide (roundBegin p l (.slice pa p.length pc) (.slice fa l.length fc) w1 (Kind.sl_below HV.out hB1) (HF.out.below hB1))
  have hfb := @few_begin p l
  obtain ⟨er, R, hbg⟩ : ∃ er R, beginP p l = (er, R) := ⟨_, _, rfl⟩
  have HWr : Hid (er = 0 → wrongRunP p R = 0) := fun h => by
    unfold beginP at hbg
    split at hbg
    · rename_i h1; simp only [Prod.mk.injEq] at hbg; exact absurd (hbg.1.trans h) h1
    · rename_i h1; simp only [Prod.mk.injEq] at hbg; rw [← hbg.2]; exact begin_right (Classical.byContradiction h1)
  rw [hbg] at HBg hfb
  clear hB1 HA hbg
  go_wp2_with fail
  refine HBg.out.mono ?_
  rintro e w2 ⟨v2, er', rfl, ⟨her, hR2⟩, hB2⟩
  dsimp only at her hR2 hfb
  obtain rfl : er = er' := her.symm
  clear her
  obtain ⟨ra, rc, sa, sc, rfl, hO2, hN2⟩ := hR2.slices
  have HB2 : Hid (Below w.heap.size w w2) := below_trans HB1.out hB2 HB1.out.size
  have hw12 := hB2.size
  have hw1 := HB1.out.size
  obtain ⟨w3, hw3⟩ : ∃ w3, w3 = w2.alloc (.cells #[.slice ra R.known.length rc, .slice sa R.fresh.length sc, .int .i64 R.level, .int .i64 R.rounds, .bool R.done] 26) := ⟨_, rfl⟩
  have hL3 : Later w2 w3 := by rw [hw3]; exact (Later.refl _).alloc _
  have HB3 : Hid (Below w.heap.size w w3) := below_trans HB2.out hL3.below HB2.out.size
  have HR3 : Hid (w3.heap[w2.heap.size]? = some (.cells #[.slice ra R.known.length rc, .slice sa R.fresh.length sc, .int .i64 R.level, .int .i64 R.rounds, .bool R.done] 26 (0, 0))) := by show _ = _; rw [hw3]; exact heap_alloc_new w2 _
  have hz3 : w3.heap.size = w2.heap.size + 1 := by rw [hw3]; simp
  have HK3 : Hid (Away w2.heap.size w3 (.slice ra R.known.length rc) R.known) := Or.inl ⟨w2, Nat.le_refl _, hO2.facts (by omega), hL3.below⟩
  have HN3 : Hid (Away w2.heap.size w3 (.slice sa R.fresh.length sc) R.fresh) := Or.inl ⟨w2, Nat.le_refl _, hN2.facts (by omega), hL3.below⟩
  have hbw : w.heap.size ≤ w2.heap.size := HB2.out.size
  by_cases h0 : er = 0
  · subst h0
    by_cases hn0 : n < 0
    · rw [hw3] at HB3
      clear hB2 hR2 hO2 hN2 HBg HB1 hw3 hL3
      go_wp2
      go_ret
      exact ⟨rfl, HB3.out⟩
    · by_cases hn1 : 30 < n
      · rw [hw3] at HB3
        clear hB2 hR2 hO2 hN2 HBg HB1 hw3 hL3
        go_wp2
        go_ret
        exact ⟨rfl, HB3.out⟩
      · obtain ⟨m, rfl⟩ : ∃ m : Nat, n = (m : Int) := ⟨n.toNat, by omega⟩
        have HW0 := hide (HWr.out rfl)
        have hm30 : m ≤ 30 := by omega
        rw [hw3] at HB3 HR3 HK3 HN3 hz3
        clear hB2 HBg HB1 HWr hR2 hw3 hL3 hO2 hN2 hn0 hn1
        go_wp2
        go_loopg [31] m (fun g i wr => ∃ j : Nat, j + g = m ∧ i = .int .i64 j ∧ ∃ (X : RunD) (xa ya : Option Addr) (xc yc : Nat), Hid (wrongRunP p X = 0) ∧ Hid (wr.heap[w2.heap.size]? = some (.cells #[.slice xa X.known.length xc, .slice ya X.fresh.length yc, .int .i64 X.level, .int .i64 X.rounds, .bool X.done] 26 (0, 0))) ∧ Hid (Away w2.heap.size wr (.slice xa X.known.length xc) X.known) ∧ Hid (Away w2.heap.size wr (.slice ya X.fresh.length yc) X.fresh) ∧
          Hid (Below w.heap.size w wr) ∧ w2.heap.size < wr.heap.size)
        case atStart => exact ⟨0, by omega, rfl, R, ra, sa, rc, sc, HW0, HR3, HK3, HN3, HB3, by omega⟩
        case round =>
          clear HW0 HR3 HK3 HN3 HB3 hz3 hfb
          obtain ⟨j, hj, rfl, X, xa, ya, xc, yc, HW, HR, HK, HN, HB, hz⟩ := hrel
          obtain ⟨_, hrX⟩ := wrongRun_zero HW.out
          have hkx := hrX.good.few
          have hnx := Nat.le_trans (up_le hrX.up hrX.sub) hrX.good.few
          clear hrX
          obtain ⟨b0, b1, b2, b3, b4, ⟨g0, g1, g2, g3, g4⟩, _⟩ := row5 HR.out
          by_cases hlt : j < m
          · have hltz : (j : Int) < (m : Int) := by omega
            have HSt := hide (roundStep p X (.slice pa p.length pc) _ _ wr (Kind.sl_below HV.out HB.out) (HK.out.facts hkx) (HN.out.facts hnx))
            have hfy := @few_steps p X 1
            have herr := @step_err p X 1 HW.out (by omega) (by omega)
            obtain ⟨ex, Y, hY⟩ : ∃ ex Y, stepsF p X 1 = (ex, Y) := ⟨_, _, rfl⟩
            have HOk : Hid (ex = 0 → wrongRunP p Y = 0 ∧ (∀ f ∈ X.known, f ∈ Y.known) ∧ (X.done = true → Y = X) ∧ X.rounds ≤ Y.rounds ∧ X.level ≤ Y.level) := fun h => step_right HW.out (by rw [hY, h])
            rw [hY] at HSt hfy herr
            clear hY
            go_wp2_with fail
            refine HSt.out.mono ?_
            rintro e w5 ⟨v5, ex', rfl, ⟨hex, hR5⟩, hB5⟩
            dsimp only at hex hR5 hfy herr
            obtain rfl : ex = ex' := hex.symm
            clear hex b0 b1 b2 b3 b4 g0 g1 g2 g3 g4
            obtain ⟨za, zc, ua, uc, rfl, hO5, hN5⟩ := hR5.slices
            have HB5 : Hid (Below w.heap.size w w5) := below_trans HB.out hB5 HB.out.size
            have hz5 := hB5.size
            by_cases h1 : ex = 0
            · subst h1
              obtain ⟨hwy, hsub, hdn, hrn, hlv⟩ := HOk.out rfl
              obtain ⟨_, hrY⟩ := wrongRun_zero hwy
              obtain ⟨w6, hw6⟩ : ∃ w6, w6 = w5.alloc (.cells #[.slice za Y.known.length zc, .slice ua Y.fresh.length uc, .int .i64 Y.level, .int .i64 Y.rounds, .bool Y.done] 26) := ⟨_, rfl⟩
              have hL6 : Later w5 w6 := by rw [hw6]; exact (Later.refl _).alloc _
              have hz6 : w6.heap.size = w5.heap.size + 1 := by rw [hw6]; simp
              have hB6 : Below wr.heap.size wr w6 := below_trans hB5 hL6.below hB5.size
              have hc6 : w6.heap[w5.heap.size]? = some (.cells #[.slice za Y.known.length zc, .slice ua Y.fresh.length uc, .int .i64 Y.level, .int .i64 Y.rounds, .bool Y.done] 26 (0, 0)) := by rw [hw6]; exact heap_alloc_new w5 _
              have HBw6 : Hid (Below w.heap.size w w6) := below_trans HB.out hB6 HB.out.size
              have hFY := (hO5.later hL6).facts (by omega)
              have hGY := (hN5.later hL6).facts (by omega)
              have hWr := wrongRunC p Y (.slice pa p.length pc) _ _ w6 (Kind.sl_below HV.out HBw6.out) hFY hGY
              rw [hwy] at hWr
              have HWr := hide hWr
              have HOY : Hid (OwnF w6 (w2.heap.size + 1) (.slice za Y.known.length zc) Y.known) := (hO5.later hL6).base (by omega)
              have HNY : Hid (OwnF w6 (w2.heap.size + 1) (.slice ua Y.fresh.length uc) Y.fresh) := (hN5.later hL6).base (by omega)
              have HKX : Hid (Away w2.heap.size w6 (.slice xa X.known.length xc) X.known) := HK.out.turned (Tn.of_below hB6)
              have HNX : Hid (Away w2.heap.size w6 (.slice ya X.fresh.length yc) X.fresh) := HN.out.turned (Tn.of_below hB6)
              have HR6 : Hid (w6.heap[w2.heap.size]? = some (.cells #[.slice xa X.known.length xc, .slice ya X.fresh.length yc, .int .i64 X.level, .int .i64 X.rounds, .bool X.done] 26 (0, 0))) := by show _ = _; rw [hB6.block _ hz]; exact HR.out
              have HC6 := hide hc6
              have HW6 := hide hw6
              have HWy := hide hwy
              have HSub := hide hsub
              have HDn := hide hdn
              have HUp := hide hrY.good.up
              clear hB5 hR5 hO5 hN5 hL6 hB6 hc6 hw6 hFY hGY hWr hwy hsub hdn hrY HSt HOk HR HK HN HB herr HW HB5
              go_wp2_with fail
              rw [← HW6.out]
              refine HWr.out.mono ?_
              rintro e w7 ⟨rfl, hB7⟩
              have hz7 := hB7.size
              have HR7 : Hid (w7.heap[w2.heap.size]? = some (.cells #[.slice xa X.known.length xc, .slice ya X.fresh.length yc, .int .i64 X.level, .int .i64 X.rounds, .bool X.done] 26 (0, 0))) := by show _ = _; rw [hB7.block _ (by omega)]; exact HR6.out
              have HC7 : Hid (w7.heap[w5.heap.size]? = some (.cells #[.slice za Y.known.length zc, .slice ua Y.fresh.length uc, .int .i64 Y.level, .int .i64 Y.rounds, .bool Y.done] 26 (0, 0))) := by show _ = _; rw [hB7.block _ (by omega)]; exact HC6.out
              have HKX7 := hide (HKX.out.turned (Tn.of_below hB7))
              have HNX7 := hide (HNX.out.turned (Tn.of_below hB7))
              have HOY7 := hide (HOY.out.stay hB7.size fun k hk _ => hB7.block k hk)
              have HNY7 := hide (HNY.out.stay hB7.size fun k hk _ => hB7.block k hk)
              have HB7 : Hid (Below w.heap.size w w7) := below_trans HBw6.out hB7 HBw6.out.size
              have hLs := lessC _ _ X.known Y.known w7 (HKX7.out.facts hkx) (HOY7.out.facts (by omega)) HUp.out
              rw [less_nil HSub.out] at hLs
              have HLs := hide hLs
              obtain ⟨b0, b1, b2, b3, b4, _, _⟩ := row5 HR7.out
              obtain ⟨q0, q1, q2, q3, q4, _, _⟩ := row5 HC7.out
              clear hB7 hLs HWr HW6 HBw6 HR6 HC6 HKX HNX HOY HNY
              go_wp2_with fail
              refine HLs.out.mono ?_
              rintro e w8 ⟨v8, rfl, hO8, hL8⟩
              obtain ⟨a8, c8, rfl⟩ := hO8.slice
              have hz8 := hL8.size
              have hr8 : w8.heap[w2.heap.size]? = some (.cells #[.slice xa X.known.length xc, .slice ya X.fresh.length yc, .int .i64 X.level, .int .i64 X.rounds, .bool X.done] 26 (0, 0)) := by rw [hL8.block (by omega)]; exact HR7.out
              have hc8 : w8.heap[w5.heap.size]? = some (.cells #[.slice za Y.known.length zc, .slice ua Y.fresh.length uc, .int .i64 Y.level, .int .i64 Y.rounds, .bool Y.done] 26 (0, 0)) := by rw [hL8.block (by omega)]; exact HC7.out
              have HKX8 := hide (HKX7.out.turned (Tn.of_below hL8.below))
              have HNX8 := hide (HNX7.out.turned (Tn.of_below hL8.below))
              have HOY8 := hide (HOY7.out.later hL8)
              have HNY8 := hide (HNY7.out.later hL8)
              have HB8 : Hid (Below w.heap.size w w8) := below_trans HB7.out hL8.below HB7.out.size
              have HR8 := hide hr8
              have HC8 := hide hc8
              clear b0 b1 b2 b3 b4 q0 q1 q2 q3 q4 hr8 hc8 hO8 hL8 HLs HR7 HC7 HKX7 HNX7 HOY7 HNY7 HB7
              have hrn' : ¬ (Y.rounds < X.rounds) := by omega
              have hlv' : ¬ (Y.level < X.level) := by omega
              obtain ⟨b0, b1, b2, b3, b4, ⟨g0, g1, g2, g3, g4⟩, _⟩ := row5 HR8.out
              obtain ⟨q0, q1, q2, q3, q4, _, _⟩ := row5 HC8.out
              cases hdx : X.done with
              | true =>
                have e := HDn.out hdx
                have hSm := sameRun X (.agg #[.slice xa X.known.length xc, .slice ya X.fresh.length yc, .int .i64 X.level, .int .i64 X.rounds, .bool X.done]) (.agg #[.slice za Y.known.length zc, .slice ua Y.fresh.length uc, .int .i64 Y.level, .int .i64 Y.rounds, .bool Y.done]) w8 ⟨_, _, rfl, HKX8.out.facts hkx, HNX8.out.facts hnx⟩ ⟨_, _, by rw [e], by rw [← e]; exact HOY8.out.facts (by omega), by rw [← e]; exact HNY8.out.facts (by omega)⟩
                rw [hdx] at hSm b4
                have HSm := hide hSm
                clear hSm e hdx
                go_wp2_with fail
                refine HSm.out.mono ?_
                rintro e w9 ⟨rfl, hL9⟩
                have hr9 : w9.heap[w2.heap.size]? = some (.cells #[.slice xa X.known.length xc, .slice ya X.fresh.length yc, .int .i64 X.level, .int .i64 X.rounds, .bool X.done] 26 (0, 0)) := by rw [hL9.block (by omega)]; exact HR8.out
                have hc9 : w9.heap[w5.heap.size]? = some (.cells #[.slice za Y.known.length zc, .slice ua Y.fresh.length uc, .int .i64 Y.level, .int .i64 Y.rounds, .bool Y.done] 26 (0, 0)) := by rw [hL9.block (by omega)]; exact HC8.out
                have HOp : Hid (Away w2.heap.size (put5 w9 w2.heap.size (.slice za Y.known.length zc) (.slice ua Y.fresh.length uc) (.int .i64 Y.level) (.int .i64 Y.rounds) (.bool Y.done)) (.slice za Y.known.length zc) Y.known) := Away.turned (Or.inr (HOY8.out.later hL9)) (put5_tn _ _ _ _ _ _ _)
                have HNp : Hid (Away w2.heap.size (put5 w9 w2.heap.size (.slice za Y.known.length zc) (.slice ua Y.fresh.length uc) (.int .i64 Y.level) (.int .i64 Y.rounds) (.bool Y.done)) (.slice ua Y.fresh.length uc) Y.fresh) := Away.turned (Or.inr (HNY8.out.later hL9)) (put5_tn _ _ _ _ _ _ _)
                have HRp := hide (set_five hr9 (.slice za Y.known.length zc) (.slice ua Y.fresh.length uc) (.int .i64 Y.level) (.int .i64 Y.rounds) (.bool Y.done))
                have HBp : Hid (Below w.heap.size w (put5 w9 w2.heap.size (.slice za Y.known.length zc) (.slice ua Y.fresh.length uc) (.int .i64 Y.level) (.int .i64 Y.rounds) (.bool Y.done))) := Below.put5 (below_trans HB8.out hL9.below HB8.out.size) (by omega)
                have hz9 := hL9.size
                clear b0 b1 b2 b3 b4 g0 g1 g2 g3 g4 q0 q1 q2 q3 q4
                obtain ⟨b0, b1, b2, b3, b4, ⟨g0, g1, g2, g3, g4⟩, _⟩ := row5 hr9
                obtain ⟨q0, q1, q2, q3, q4, _, _⟩ := row5 hc9
                clear hr9 hc9 hL9 HSm HR8 HC8 HKX8 HNX8 HOY8 HNY8 HB8
                go_wp2
                go_roundg (m - (j + 1))
                case measure => omega
                case rel => exact ⟨j + 1, by omega, by go_num, Y, za, ua, zc, uc, HWy, HRp, HOp, HNp, HBp, by simp only [size_setCell]; omega⟩
              | false =>
                rw [hdx] at b4
                clear hdx
                have HOp : Hid (Away w2.heap.size (put5 w8 w2.heap.size (.slice za Y.known.length zc) (.slice ua Y.fresh.length uc) (.int .i64 Y.level) (.int .i64 Y.rounds) (.bool Y.done)) (.slice za Y.known.length zc) Y.known) := Away.turned (Or.inr HOY8.out) (put5_tn _ _ _ _ _ _ _)
                have HNp : Hid (Away w2.heap.size (put5 w8 w2.heap.size (.slice za Y.known.length zc) (.slice ua Y.fresh.length uc) (.int .i64 Y.level) (.int .i64 Y.rounds) (.bool Y.done)) (.slice ua Y.fresh.length uc) Y.fresh) := Away.turned (Or.inr HNY8.out) (put5_tn _ _ _ _ _ _ _)
                have HRp := hide (set_five HR8.out (.slice za Y.known.length zc) (.slice ua Y.fresh.length uc) (.int .i64 Y.level) (.int .i64 Y.rounds) (.bool Y.done))
                have HBp : Hid (Below w.heap.size w (put5 w8 w2.heap.size (.slice za Y.known.length zc) (.slice ua Y.fresh.length uc) (.int .i64 Y.level) (.int .i64 Y.rounds) (.bool Y.done))) := Below.put5 HB8.out (by omega)
                go_wp2
                go_roundg (m - (j + 1))
                case measure => omega
                case rel => exact ⟨j + 1, by omega, by go_num, Y, za, ua, zc, uc, HWy, HRp, HOp, HNp, HBp, by simp only [size_setCell]; omega⟩
            · have hne : (ex != 0) = true := by simpa using h1
              have HB6 : Hid (Below w.heap.size w (w5.alloc (.cells #[.slice za Y.known.length zc, .slice ua Y.fresh.length uc, .int .i64 Y.level, .int .i64 Y.rounds, .bool Y.done] 26))) := below_trans HB5.out ((Later.refl _).alloc _).below HB5.out.size
              have h45 : ex = 4 ∨ ex = 5 := by omega
              clear hB5 hR5 hO5 hN5 HSt HOk HR HK HN HB herr HW HB5 h1
              rcases h45 with rfl | rfl
              · go_wp2
                go_ret
                exact ⟨rfl, HB6.out⟩
              · go_wp2
                go_ret
                exact ⟨rfl, HB6.out⟩
          · have hltz : ¬ (j : Int) < (m : Int) := by omega
            have HSt := hide (roundSteps p X 1000 (.slice pa p.length pc) _ _ wr (Kind.sl_below HV.out HB.out) (HK.out.facts hkx) (HN.out.facts hnx))
            have herr := @step_err p X 1000 HW.out (by omega) (by omega)
            obtain ⟨ex, Y, hY⟩ : ∃ ex Y, stepsF p X 1000 = (ex, Y) := ⟨_, _, rfl⟩
            have HOk : Hid (ex = 0 → Y.done = true) := fun h => end_done HW.out (by rw [hY, h])
            rw [hY] at HSt herr
            clear hY
            go_wp2_with fail
            refine HSt.out.mono ?_
            rintro e w5 ⟨v5, ex', rfl, ⟨hex, hR5⟩, hB5⟩
            dsimp only at hex hR5 herr
            obtain rfl : ex = ex' := hex.symm
            clear hex b0 b1 b2 b3 b4 g0 g1 g2 g3 g4
            obtain ⟨za, zc, ua, uc, rfl, hO5, hN5⟩ := hR5.slices
            have HB5 : Hid (Below w.heap.size w w5) := below_trans HB.out hB5 HB.out.size
            have HB6 : Hid (Below w.heap.size w (w5.alloc (.cells #[.slice za Y.known.length zc, .slice ua Y.fresh.length uc, .int .i64 Y.level, .int .i64 Y.rounds, .bool Y.done] 26))) := below_trans HB5.out ((Later.refl _).alloc _).below HB5.out.size
            clear hB5 hR5 hO5 hN5 HSt HR HK HN HB HW HB5
            rcases herr with rfl | rfl | rfl
            · have hyd := HOk.out rfl
              clear HOk
              rw [hyd] at HB6 ⊢
              clear hyd
              go_wp2
              go_ret
              exact ⟨rfl, HB6.out⟩
            · clear HOk
              go_wp2
              go_ret
              exact ⟨rfl, HB6.out⟩
            · clear HOk
              go_wp2
              go_ret
              exact ⟨rfl, HB6.out⟩
  · have hne : (er != 0) = true := by simpa using h0
    rw [hw3] at HB3
    clear h0 hB2 hR2 hO2 hN2 HBg HB1 hw3 hL3
    go_wp2
    go_ret
    exact ⟨rfl, HB3.out⟩

end Go.Proofs.YtjdmpdhinelpoaaGreatDoor
