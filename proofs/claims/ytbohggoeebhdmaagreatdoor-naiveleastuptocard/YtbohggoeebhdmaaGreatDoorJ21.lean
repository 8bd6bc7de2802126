import Derived.Test.YtbohggoeebhdmaaGreatDoorJ8
import Derived.Test.YtbohggoeebhdmaaGreatDoorJ20
import Derived.Test.YtbohggoeebhdmaaGreatDoorJ13
import Derived.Test.YtbohggoeebhdmaaGreatDoorJ5
import Derived.ProofKit
import Derived.SliceStrings
import Derived.Deep.Slices
import Derived.Deep.Strs
import Derived.Lib.SmallJoins
import Derived.SizedLaws
/- The walks of slices.Grow, slices.Concat at two lists of facts, fact.Join. -/
namespace Go.Proofs.YtbohggoeebhdmaaGreatDoor
open Go.RowKit Go.Sort Go.Shelf

theorem growC (w0 w : World) (hL : Later w0 w) (n : Nat) (hn : n ≤ 3518437208883) : Calls Tryz.prog 95 #[.slice none 0 0, .int .i64 n] w fun e w' =>
    ∃ v', e = .returned v' ∧ RowF w' w0.heap.size v' [] ∧ Later w w' ∧ ∀ k, v'.ownBlock = some k → w.heap.size ≤ k := by
  by_cases h0 : n = 0
  · subst h0
    exact (Any8.slices_Grow_room Tryz.growFacts none 0 0 0 w (Nat.le_refl _) (by omega) (by omega) (Nat.le_refl _)).mono fun e w' ⟨he, hw⟩ =>
      ⟨_, he, by rw [hw]; exact ⟨[], World.ownsRow_nil w _ _ _, fun i hi => by simp at hi⟩, by rw [hw]; exact Later.refl _, fun k hk => by simp [Value.ownBlock] at hk⟩
  · obtain ⟨i, i1, i2, i3, i4⟩ := infoFact
    refine (Any8.slices_Grow_grow Tryz.growFacts i _ i1 i2 (by omega) none 0 0 n [] w (Nat.le_refl _) (by omega) (by rw [i4]; omega) (by omega) (by simp) (fun _ => rfl) (fun a h => by cases h)).mono fun e w' ⟨he, hw⟩ => ⟨_, he, ?_, ?_, fun k hk => ?_⟩
    · rw [hw]
      have hge := grownCap_ge w (0 + n) 0 (Tryz.growFacts_ren.t 25)
      have hcm := grownCap_le_maxLen w (0 + n) 0 (Tryz.growFacts_ren.t 25) (by simp only [maxLen]; omega)
      refine ⟨[], World.ownsRow_made (base := w0.heap.size) (e := 54) (size := 2) w.drew _ _ hL.size hcm ?_, fun i hi => by simp at hi⟩
      simp only [Array.size_append, List.size_toArray, size_zeroCells]
      show 0 + (0 + n - 0) * 2 + (grownCap w (0 + n) 0 (Tryz.growFacts_ren.t 25) - (0 + n)) * 2 = _
      omega
    · rw [hw]; exact (Later.refl w).drew.alloc _
    · simp [Value.ownBlock] at hk; omega

set_option maxHeartbeats 1000000 in
theorem concat (w0 w : World) (hL : Later w0 w) (c cp : Nat) (va vb : Value) (la lb : List FactD) (ha : Facts w0 va la) (hb : Facts w0 vb lb) (hn : la.length + lb.length ≤ 3518437208883) (hc0 : w.cell? ⟨c, 0, none⟩ = some va) (hc1 : w.cell? ⟨c, 1, none⟩ = some vb) (hcb : c < w.heap.size) :
    Calls Tryz.prog 58 #[.slice (some ⟨c, 0, none⟩) 2 cp] w fun e w' => ∃ v', e = .returned v' ∧ RowF w' w0.heap.size v' (la ++ lb) ∧ Later w0 w' := by
  have HA := hide ha
  have HB := hide hb
  obtain ⟨a1, c1, rfl⟩ := sliceFacts ha
  obtain ⟨a2, c2, rfl⟩ := sliceFacts hb
  clear ha hb
  have s1 : ¬ ((la.length : Int) < 0) := by omega
  have s2 : ¬ ((la.length : Int) + (lb.length : Int) < 0) := by omega
  go_enter Tryz.func58, Tryz.ntmps58
  go_wp2
  refine wp_loop_rounds 3 ?_
  rw [rounds_succ]
  go_wp2
  rw [rounds_succ]
  go_wp2
  rw [rounds_succ]
  go_wp2_with fail
  rw [show ((la.length : Int) + (lb.length : Int)) = ((la.length + lb.length : Nat) : Int) by omega]
  refine (growC w0 w hL (la.length + lb.length) hn).mono ?_
  rintro e w1 ⟨v1, rfl, hR1, hL1, hk1⟩
  obtain ⟨v2, w2, run2, hR2, hL2, hg2, hk2⟩ := hR1.append (hL.trans hL1) HA.out (by simp; omega)
  obtain ⟨v3, w3, run3, hR3, hL3, hg3, hk3⟩ := hR2.append hL2 HB.out (by simp; omega)
  rw [List.nil_append] at hR3
  have y0 : w1.cell? ⟨c, 0, none⟩ = some (.slice a1 la.length c1) := by rw [hL1.cell (p := ⟨c, 0, none⟩) hcb]; exact hc0
  have y1 : w1.cell? ⟨c, 1, none⟩ = some (.slice a2 lb.length c2) := by rw [hL1.cell (p := ⟨c, 1, none⟩) hcb]; exact hc1
  have y2 : w2.cell? ⟨c, 1, none⟩ = some (.slice a2 lb.length c2) := by
    rw [World.cell?_of_block (w := w1) (hg2.block c (Nat.lt_of_lt_of_le hcb hL1.size) (fun e => by have := hk1 c e.symm; omega))]; exact y1
  have R2 := hide run2
  have R3 := hide run3
  have HR := hide hR3
  clear run2 run3 hR1 hR2 hR3 hg2 hg3
  go_wp2
  refine wp_loop_rounds 3 ?_
  rw [rounds_succ]
  go_wp2_with (at_builtin; refine wpList_append_run rfl (.tmp 31) (.tmp 32) 24 rfl _ _ _ _ rfl rfl R2.out ?_)
  rw [rounds_succ]
  go_wp2_with (at_builtin; refine wpList_append_run rfl (.tmp 31) (.tmp 32) 24 rfl _ _ _ _ rfl rfl R3.out ?_)
  rw [rounds_succ]
  go_wp2
  go_ret
  exact ⟨v3, rfl, HR.out, hL3⟩

set_option maxHeartbeats 400000 in
/-- fact.Join: the set of both lists' facts, in memory of its own. -/
theorem joinC (va vb : Value) (la lb : List FactD) (w : World) (ha : Facts w va la) (hb : Facts w vb lb) (hn : la.length + lb.length ≤ 3518437208883) :
    Calls Tryz.prog 26 #[va, vb] w fun e w' => ∃ v' s, e = .returned v' ∧ SetOf s (la ++ lb) ∧ OwnF w' w.heap.size v' s ∧ Later w w' := by
  have HA := hide ha
  have HB := hide hb
  obtain ⟨a1, c1, rfl⟩ := sliceFacts ha
  obtain ⟨a2, c2, rfl⟩ := sliceFacts hb
  clear ha hb
  go_enter Tryz.func26, Tryz.ntmps26
  go_wp2_with fail
  refine (concat w _ (by repeat (first | exact Later.refl _ | assumption | refine Later.drewN ?_ _ | refine Later.drew ?_ | refine Later.alloc ?_ _ | refine Later.grow ?_ _)) w.heap.size 2 _ _ la lb HA.out HB.out hn (by simp) (by simp) (by simp)).mono ?_
  rintro e w1 ⟨v1, rfl, hR, hL⟩
  have hr0 := rise w1 w.heap.size v1 (la ++ lb) hR (by simpa using hn)
  obtain ⟨a3, c3, rfl⟩ := ownsSlice hR.choose_spec.1
  rw [List.length_append] at hr0
  have hr := hide hr0
  clear hR hr0
  go_wp2_with fail
  refine hr.out.mono ?_
  rintro e w2 ⟨v2, s, rfl, hs, hO, hW⟩
  have HS := hide hs
  have HO := hide hO
  clear hs hO
  go_wp2
  go_ret
  exact ⟨v2, s, rfl, HS.out, HO.out.base hL.size, hW.later hL (Nat.le_refl _)⟩

end Go.Proofs.YtbohggoeebhdmaaGreatDoor

/- The document's answer: the walk of ref.Same, where the two lists hold the same. -/
namespace Go.Proofs.YtbohggoeebhdmaaGreatDoor
open Go.RowKit Go.Sort

set_option maxHeartbeats 1000000 in
theorem rSame (v1 v2 : Value) (l : List FactD) (w : World) (h1 : Facts w v1 l) (h2 : Facts w v2 l) :
    Calls Tryz.prog 14 #[v1, v2] w fun e w' => e = .returned (.bool true) ∧ Later w w' := by
  have mx := mixed
  have H1 := hide h1
  have H2 := hide h2
  obtain ⟨a, cap, rfl, hn, hz⟩ := h1.addr
  obtain ⟨a2, cap2, rfl, _, hz2⟩ := h2.addr
  clear h1 h2
  go_enter Tryz.func14, Tryz.ntmps14
  go_wp2
  go_loopw [13] (fun i wr => ∃ k : Nat, k ≤ l.length ∧ i = .int .i64 k ∧ Later w wr) (fun i _ => l.length - (intOf i).toNat)
  case atStart => exact ⟨0, by omega, rfl, Later.refl _⟩
  case round =>
    obtain ⟨k, hk, rfl, hL⟩ := hrel
    by_cases hlt : k < l.length
    · rcases hz with rfl | ⟨b, off, rfl⟩
      · simp at hlt
      rcases hz2 with rfl | ⟨b2, off2, rfl⟩
      · simp at hlt
      have hltz : (k : Int) < (l.length : Int) := by omega
      obtain ⟨ax, lx, cx, g1, g2, fx⟩ := (H1.out.later hL).grown hlt
      obtain ⟨ay, ly, cy, g3, g4, fy⟩ := (H2.out.later hL).grown hlt
      have hE : ∀ q os, Calls Tryz.prog 43 #[.agg #[.string (l.getD k noFact).1, .slice ax lx cx], .agg #[.string (l.getD k noFact).1, .slice ay ly cy]] (grow (wr.drewN q) os) fun e w'' => e = .returned (.bool true) ∧ Later (grow (wr.drewN q) os) w'' :=
        fun q os => (rEqual _ _ _ _ _ (fx.later ⟨q, os, rfl⟩) (fy.later ⟨q, os, rfl⟩)).mono fun e w' ⟨he, hw⟩ => ⟨by rw [he, sameF_iff.2 rfl], hw⟩
      have HE := hide hE
      clear hE fx fy
      generalize (l.getD k noFact).1 = nk at *
      go_wp2
      go_quiet_grown ((go_at_call 43; exact Calls.grown_of (HE.out _ _)))
      go_wp2
      go_roundw
      case rel => exact ⟨k + 1, by omega, by go_num, hL.trans ⟨_, _, rfl⟩⟩
      case measure => simp [intOf]; omega
    · go_wp2
      go_ret
      exact ⟨rfl, hL⟩

end Go.Proofs.YtbohggoeebhdmaaGreatDoor

/- The walk of NaiveLeast. -/
namespace Go.Proofs.YtbohggoeebhdmaaGreatDoor
open Go.RowKit Go.Sort Go.Maps

/-- All of a program that asks for nothing not to be so: one stratum. -/
theorem allP_plain {p : List RuleD} {l M : List FactB} (hno : ∀ r ∈ p, ∀ a ∈ r.body, a.no = false) (h : allP p l = (0, M)) : RightP p ∧ GoodS p l ∧ runGo p (p.map fun _ => 0) (countP (p.map fun _ => 0)) 0 l = (0, M) := by
  obtain ⟨hp, hl, τ, hτ, e, hr⟩ := allP_ok h
  refine ⟨hp, hl, ?_⟩
  have h1 : (strataP p).1 = p.map fun _ => 0 := by rw [strataP_plain (rightP_iff.2 hp) hno]
  rw [← e, h1] at hr
  exact hr

/-- Told more there is no less. -/
theorem all_least {p : List RuleD} {l l' m m' : List FactB} (hno : ∀ r ∈ p, ∀ a ∈ r.body, a.no = false) (hs : ∀ f ∈ l, f ∈ l') (h : allP p l = (0, m)) (h' : allP p l' = (0, m')) : ∀ f ∈ m, f ∈ m' := by
  obtain ⟨hp, hl, hr⟩ := allP_plain hno h
  obtain ⟨_, hl', hr'⟩ := allP_plain hno h'
  exact run_least hp hno hl hl' hs hr hr'

/-- Told what follows nothing more follows. -/
theorem all_again {p : List RuleD} {l m : List FactB} (hno : ∀ r ∈ p, ∀ a ∈ r.body, a.no = false) (h : allP p l = (0, m)) : ∃ e x, allP p m = (e, x) ∧ (e = 0 → x = m) ∧ (e = 0 ∨ e = 4) := by
  obtain ⟨hp, hl, hr⟩ := allP_plain hno h
  obtain ⟨_, _, hgm, _, _⟩ := all_model h
  obtain ⟨e, x, hx, h1, h2⟩ := run_again hp hno hl hr
  refine ⟨e, x, ?_, h1, h2⟩
  unfold allP
  rw [strataP_plain (rightP_iff.2 hp) hno, good_facts hgm]
  simpa using hx

theorem facts_nil5 (w : World) : Facts w (.slice none 0 0) [] := ⟨by simp, _, 0, rfl, fun h => absurd rfl h⟩

/-- What All answers is facts, whatever it tells. -/
theorem OnceT.told {w : World} {v : Value} {er : Int} {a : Int × List FactB} (h : OnceT w v er a) : Facts w v (if a.1 = 0 then a.2 else []) := by
  obtain ⟨_, h1, h2⟩ := h
  by_cases e : a.1 = 0
  · rw [if_pos e]; exact h2 e
  · rw [if_neg e, h1 e]; exact facts_nil5 w

set_option maxRecDepth 100000 in
set_option maxHeartbeats 4000000 in
theorem naiveLeastW (pv fv gv : Value) (p : List RuleD) (l more : List FactB) (w : World) (m : Int) (hm : w.cell? ⟨3, 0, none⟩ = some (.int .i64 m)) (hv : ruleK.sl Anyw w pv p) (hf : Facts w fv l) (hg : Facts w gv more) (hn : l.length + more.length ≤ 3518437208883) :
    Calls Tryz.prog 6 #[pv, fv, gv] w fun e w' => e = .returned (.bool true) ∧ Below w.heap.size w w' := by
  have HA := hide (alive5 w m hm)
  obtain ⟨pa, pc, rfl⟩ := Kind.slice hv
  obtain ⟨fa, fc, rfl⟩ := sliceFacts hf
  obtain ⟨ga, gc, rfl⟩ := sliceFacts hg
  have HV := hide hv
  have HF := hide hf
  have HG := hide hg
  have hl0 := hv.1.1
  clear hv hf hg hm
  go_enter Tryz.func6, Tryz.ntmps6
  go_wp2_with fail
  refine HA.out.mono ?_
  rintro e w1 ⟨rfl, hB1⟩
  have HB1 := hide hB1
  clear HA hB1
  go_wp2
  go_loopg [21] p.length (fun g i wr => ∃ j : Nat, j + g = p.length ∧ i = .int .i64 j ∧ Hid (∀ r ∈ p.take j, ∀ a ∈ r.body, a.no = false) ∧ Hid (Below w.heap.size w wr))
  case atStart => exact ⟨0, by omega, rfl, (fun r hr => by simp at hr), HB1⟩
  case round =>
    obtain ⟨j, hj, rfl, HN, HB⟩ := hrel
    clear HB1
    have hwr := HB.out.size
    by_cases hlt : j < p.length
    · obtain ⟨r, hr⟩ : ∃ x, p[j]? = some x := ⟨_, List.getElem?_eq_getElem hlt⟩
      obtain ⟨b1, o1, _, rfl, hb1, ⟨sv, su, rfl, hsv, hsu⟩, hcl⟩ := Kind.sl_at HV.out hr
      have d0 : wr.cell? ⟨b1, o1 + j * 4, none⟩ = some (.bool r.head.no) := by rw [HB.out.cell hb1]; exact hcl 0 _ rfl
      have d1 : wr.cell? ⟨b1, o1 + j * 4 + 1, none⟩ = some (.string (bs r.head.name)) := by rw [HB.out.cell hb1]; exact hcl 1 _ rfl
      have d2 : wr.cell? ⟨b1, o1 + j * 4 + 2, none⟩ = some sv := by rw [HB.out.cell hb1]; exact hcl 2 _ rfl
      have d3 : wr.cell? ⟨b1, o1 + j * 4 + 3, none⟩ = some su := by rw [HB.out.cell hb1]; exact hcl 3 _ rfl
      have hbr : b1 < wr.heap.size := by omega
      obtain ⟨a2, c2, rfl⟩ := Kind.slice hsv
      obtain ⟨a3, c3, rfl⟩ := Kind.slice hsu
      have HSU := hide hsu
      have hlb := hsu.1.1
      have HN1 : Hid ((∀ a ∈ r.body, a.no = false) → ∀ q ∈ p.take (j + 1), ∀ a ∈ q.body, a.no = false) := fun h q hq => by
        rw [List.take_add_one, hr] at hq
        rcases List.mem_append.1 hq with hq | hq
        · exact HN.out q hq
        · simp at hq; rw [hq]; exact h
      have HB1 := hide (HB.out.alloc hwr (.cells #[.bool r.head.no, .string (bs r.head.name), .slice a2 r.head.terms.length c2, .slice a3 r.body.length c3] 43))
      clear hcl hr hsv hsu HN HB
      generalize bs r.head.name = nm at *
      generalize r.head.no = no at *
      go_wp2
      go_loopg [28] r.body.length (fun g i wr2 => ∃ q : Nat, q + g = r.body.length ∧ i = .int .i64 q ∧ Hid (∀ a ∈ r.body.take q, a.no = false) ∧ Hid (Below w.heap.size w wr2))
      case atStart => exact ⟨0, by omega, rfl, (fun a ha => by simp at ha), HB1⟩
      case round =>
        obtain ⟨q, hq, rfl, HNq, HBq⟩ := hrel
        clear HB1 d0 d1 d2 d3
        have hwr2 := HBq.out.size
        by_cases hlq : q < r.body.length
        · obtain ⟨a, ha⟩ : ∃ x, r.body[q]? = some x := ⟨_, List.getElem?_eq_getElem hlq⟩
          obtain ⟨b2, o2, _, rfl, hb2, ⟨tv, rfl, htv⟩, hcl⟩ := Kind.sl_at HSU.out ha
          have d0 : wr.cell? ⟨b2, o2 + q * 3, none⟩ = some (.bool a.no) := by rw [HBq.out.cell hb2]; exact hcl 0 _ rfl
          have d1 : wr.cell? ⟨b2, o2 + q * 3 + 1, none⟩ = some (.string (bs a.name)) := by rw [HBq.out.cell hb2]; exact hcl 1 _ rfl
          have d2 : wr.cell? ⟨b2, o2 + q * 3 + 2, none⟩ = some tv := by rw [HBq.out.cell hb2]; exact hcl 2 _ rfl
          have hbr2 : b2 < wr.heap.size := by omega
          obtain ⟨a4, c4, rfl⟩ := Kind.slice htv
          cases hno : a.no
          · have HN2 : Hid (∀ x ∈ r.body.take (q + 1), x.no = false) := fun x hx => by
              rw [List.take_add_one, ha] at hx
              rcases List.mem_append.1 hx with hx | hx
              · exact HNq.out x hx
              · simp at hx; rw [hx]; exact hno
            rw [hno] at d0
            clear hcl ha htv HNq hno
            generalize bs a.name = na at *
            go_wp2
            go_roundg (r.body.length - (q + 1))
            case measure => omega
            case rel => exact ⟨q + 1, by omega, by go_num, HN2, HBq.out.alloc hwr2 _⟩
          · rw [hno] at d0
            clear hcl ha htv HNq hno
            generalize bs a.name = na at *
            go_wp2
            go_ret
            exact ⟨rfl, HBq.out.alloc hwr2 _⟩
        · have HN2 : Hid (∀ x ∈ p.take (j + 1), ∀ a ∈ x.body, a.no = false) := by
            refine HN1.out ?_
            have := HNq.out
            rw [List.take_of_length_le (by omega)] at this
            exact this
          go_wp2
          go_roundg (p.length - (j + 1))
          case measure => omega
          case rel => exact ⟨j + 1, by omega, by go_num, HN2, HBq⟩
    · have hN2 : ∀ x ∈ p, ∀ a ∈ x.body, a.no = false := by
        have := HN.out
        rw [List.take_of_length_le (by omega)] at this
        exact this
      have HN2 := hide hN2
      have HAll := hide (naiveAllC p l (.slice pa p.length pc) (.slice fa l.length fc) wr (Kind.sl_below HV.out HB.out) (HF.out.below HB.out))
      obtain ⟨er2, M, hAP⟩ : ∃ er M, allP p l = (er, M) := ⟨_, _, rfl⟩
      rw [hAP] at HAll
      have HAP := hide hAP
      clear hN2 HN hAP
      go_wp2_with fail
      refine HAll.out.mono ?_
      rintro e w2 ⟨v2, er', rfl, hT2, hB2⟩
      have hF2 := hT2.told
      dsimp only at hF2
      have HF2 := hide hF2
      obtain ⟨her, _⟩ := hT2
      dsimp only at her
      have her' := her.symm
      clear her
      subst her'
      have HB2 := hide (below_trans HB.out hB2 HB.out.size)
      obtain ⟨a2, n2, c2, rfl⟩ : ∃ a n c, v2 = .slice a n c := by obtain ⟨a, c, e⟩ := sliceFacts HF2.out; exact ⟨a, _, c, e⟩
      have HJ := hide (joinC (.slice fa l.length fc) (.slice ga more.length gc) l more w2 (HF.out.below HB2.out) (HG.out.below HB2.out) hn)
      clear hB2 hF2 HAll HB
      go_wp2_with fail
      refine HJ.out.mono ?_
      rintro e w3 ⟨v3, S, rfl, hS, hO3, hL3⟩
      have hlS := hS.2.2
      rw [List.length_append] at hlS
      have HF3 : Hid (Facts w3 v3 S) := hO3.facts (by omega)
      have HB3 := hide (below_trans HB2.out hL3.below HB2.out.size)
      have HF23 := hide (HF2.out.later hL3)
      have HSub : Hid (∀ f ∈ l, f ∈ S) := fun f hf => (hS.2.1 f).2 (List.mem_append_left _ hf)
      have HAl3 := hide (naiveAllC p S (.slice pa p.length pc) v3 w3 (Kind.sl_below HV.out HB3.out) HF3.out)
      obtain ⟨er3, N3, hAP3⟩ : ∃ er M, allP p S = (er, M) := ⟨_, _, rfl⟩
      rw [hAP3] at HAl3
      have HAP3 := hide hAP3
      obtain ⟨a3, c3, rfl⟩ := sliceFacts HF3.out
      clear hS hlS hO3 hL3 HF3 HF2 HB2 HJ hAP3
      go_wp2_with fail
      refine HAl3.out.mono ?_
      rintro e w4 ⟨v4, er', rfl, hT4, hB4⟩
      have hF4 := hT4.told
      dsimp only at hF4
      have HF4 := hide hF4
      obtain ⟨her, _⟩ := hT4
      dsimp only at her
      have her' := her.symm
      clear her
      subst her'
      have HB4 := hide (below_trans HB3.out hB4 HB3.out.size)
      have HF24 := hide (HF23.out.below hB4)
      obtain ⟨a4, n4, c4, rfl⟩ : ∃ a n c, v4 = .slice a n c := by obtain ⟨a, c, e⟩ := sliceFacts HF4.out; exact ⟨a, _, c, e⟩
      clear hB4 hF4 HAl3 HB3 HF23
      by_cases h2 : er2 = 0
      · subst h2
        by_cases h3 : er3 = 0
        · subst h3
          simp only [if_true] at HF4 HF24
          have hls := all_least HN2.out HSub.out HAP.out HAP3.out
          obtain ⟨e5, x5, hA5, hx5, he5⟩ := all_again HN2.out HAP.out
          obtain ⟨_, _, hgN, _, _⟩ := all_model HAP3.out
          have HAl5 := hide (naiveAllC p M (.slice pa p.length pc) (.slice a2 n2 c2) w4 (Kind.sl_below HV.out HB4.out) HF24.out)
          rw [hA5] at HAl5
          have HX5 := hide hx5
          have HLs := hide hls
          have HUp := hide hgN.up
          clear hls hA5 hgN hx5 HN2 HAP HAP3 HSub
          go_wp2_with fail
          refine HAl5.out.mono ?_
          rintro e w5 ⟨v5, er', rfl, hT5, hB5⟩
          have hF5 := hT5.told
          dsimp only at hF5
          have HF5 := hide hF5
          obtain ⟨her, _⟩ := hT5
          dsimp only at her
          have her' := her.symm
          clear her
          subst her'
          have HB5 := hide (below_trans HB4.out hB5 HB4.out.size)
          have HF25 := hide (HF24.out.below hB5)
          have HF45 := hide (HF4.out.below hB5)
          obtain ⟨a5, n5, c5, rfl⟩ : ∃ a n c, v5 = .slice a n c := by obtain ⟨a, c, e⟩ := sliceFacts HF5.out; exact ⟨a, _, c, e⟩
          have HLc := hide (lessC (.slice a2 n2 c2) (.slice a4 n4 c4) M N3 w5 HF25.out HF45.out HUp.out)
          rw [less_none HLs.out] at HLc
          clear hB5 hF5 HAl5 HB4 HF24 HF4 HF45 HUp HLs
          go_wp2_with fail
          refine HLc.out.mono ?_
          rintro e w6 ⟨v6, rfl, hO6, hL6⟩
          obtain ⟨a6, c6, rfl⟩ := sliceFacts (hO6.facts (by simp))
          have HB6 := hide (below_trans HB5.out hL6.below HB5.out.size)
          have HF26 := hide (HF25.out.later hL6)
          have HF56 := hide (HF5.out.later hL6)
          clear hO6 hL6 HLc HB5 HF25 HF5
          simp only [List.length_nil]
          rcases he5 with he5 | he5
          · subst he5
            have hx := HX5.out rfl
            subst hx
            simp only [if_true] at HF56
            have HSm := hide (rSame (.slice a5 n5 c5) (.slice a2 n2 c2) _ w6 HF56.out HF26.out)
            clear HX5 HF56 HF26
            go_wp2_with fail
            refine HSm.out.mono ?_
            rintro e w7 ⟨rfl, hL7⟩
            have HB7 := hide (below_trans HB6.out hL7.below HB6.out.size)
            clear hL7 HSm
            go_wp2
            go_ret
            exact ⟨rfl, HB7.out⟩
          · subst he5
            clear HX5 HF56 HF26
            go_wp2
            go_ret
            exact ⟨rfl, HB6.out⟩
        · have hne : (er3 != 0) = true := by simpa using h3
          clear HF4 HF24 HAP HAP3 HSub HN2
          go_wp2
          go_ret
          exact ⟨rfl, HB4.out⟩
      · have hne : (er2 != 0) = true := by simpa using h2
        clear HF4 HF24 HAP HAP3 HSub HN2
        go_wp2
        go_ret
        exact ⟨rfl, HB4.out⟩

end Go.Proofs.YtbohggoeebhdmaaGreatDoor

/- Programs among a call's arguments, opened: how they lie in memory, and that no list of theirs is longer than the form's reach, no text longer than Go's. -/
namespace Go.Proofs.YtbohggoeebhdmaaGreatDoor
open Go.RowKit Go.Sort Go.ChangeShapes Go.WideShapes Go.ChangeAt Go.Deep

variable {H : Type} {enc : TypeId × Value → H} {W : World}

theorem ownP : ownKnob Tryz.prog.godebug = none := by kernel_rfl
theorem laidOutP : laidOutB Tryz.prog = true := by kernel_rfl
theorem cellsStrP : Tryz.prog.cellsOf 9 = 1 := by kernel_rfl
theorem addr_plainP {a : Addr} {v : Value} (h : W.cell? (a.add 0) = some v) : ∃ b off, a = ⟨b, off, none⟩ := by
  obtain ⟨b, off, spot⟩ := a
  have hspot : spot = none := by simpa [Addr.add] using World.cell?_spot h
  subst hspot
  exact ⟨b, off, rfl⟩

/-- Each list within reach. -/
def Sized (t : TypeId) (d : DataW H) : Prop := (d.weights Tryz.prog t).all (· ≤ reachBytes) = true
/-- How a type's values are opened. -/
def Opens {α : Type} (enc : TypeId × Value → H) (W : World) (ty : TypeId) (K : Kind α) (ok : α → Prop) : Prop :=
  ∀ n cs x, DataW.trod enc Tryz.prog W 0 (fun _ => true) true n ty cs = some x → Sized ty x.1 → ∃ a, K.is Anyw W cs a ∧ ok a

theorem sized_all {e : TypeId} {l : List (DataW H)} (h : (DataW.weightsAll Tryz.prog e l).all (· ≤ reachBytes) = true) : ∀ d ∈ l, Sized e d := by
  induction l with
  | nil => intro d hd; cases hd
  | cons x r ih =>
    simp only [DataW.weightsAll, List.all_append, Bool.and_eq_true] at h
    intro d hd
    rcases List.mem_cons.1 hd with rfl | hd
    · exact h.1
    · exact ih h.2 d hd

set_option maxRecDepth 100000 in
theorem openSlB {α : Type} {K : Kind α} {T ty : TypeId} {ok : α → Prop} (hT : Tryz.prog.underlying T = some (.slice ty)) (hc : Tryz.prog.cellsOf ty = K.size) (hby : 16 ≤ Tryz.prog.bytesOf ty) (hsz : 0 < K.size) (E : Opens enc W ty K ok)
    {n : Nat} {v : Value} {x : DataW H × List MemPlace} (hf : DataW.trod enc Tryz.prog W 0 (fun _ => true) true n T [v] = some x) (hw : Sized T x.1) : ∃ l, K.sl Anyw W v l ∧ (∀ a ∈ l, ok a) ∧ l.length * Tryz.prog.bytesOf ty ≤ reachBytes := by
  rcases open_slice hT hf with ⟨hcs, _⟩ | ⟨a, len, cap, m, k, D, Pl, hcs, _, hl, hm, hmm, hx, hel⟩
  · simp only [List.cons.injEq, and_true] at hcs
    exact ⟨[], by rw [hcs]; exact K.sl_nil _ _ _ _, fun a ha => (by cases ha), by simp⟩
  · simp only [List.cons.injEq, and_true] at hcs
    simp only [if_true] at hmm
    subst hmm
    rw [hc] at hel
    have hd : x.1 = .slice ((List.range len).map D) ((List.range (m - len)).map fun j => D (len + j)) := by rw [hx]
    have hw2 : (decide ((len + (m - len)) * Tryz.prog.bytesOf ty ≤ reachBytes) && ((DataW.weightsAll Tryz.prog ty ((List.range len).map D)).all (· ≤ reachBytes) && (DataW.weightsAll Tryz.prog ty ((List.range (m - len)).map fun j => D (len + j))).all (· ≤ reachBytes))) = true := by
      have := hw
      unfold Sized at this
      rw [hd, DataW.weights, hT] at this
      simpa using this
    simp only [Bool.and_eq_true] at hw2
    have hlen : len ≤ 8796093022208 := by
      have h1 : (len + (m - len)) * Tryz.prog.bytesOf ty ≤ reachBytes := of_decide_eq_true hw2.1
      have h2 : len * 16 ≤ (len + (m - len)) * Tryz.prog.bytesOf ty := Nat.mul_le_mul (by omega) hby
      unfold reachBytes at h1
      omega
    have each : ∀ i : Fin len, ∃ z : α, ∃ cs', W.cells? 0 (a.add (i.1 * K.size)) K.size = some cs' ∧ K.is Anyw W cs' z ∧ ok z := fun i => by
      obtain ⟨cs', k1, k2⟩ := hel i.1 (by omega)
      obtain ⟨z, hz, hk⟩ := E _ _ _ k2 (sized_all hw2.2.1 _ (List.mem_map.2 ⟨i.1, List.mem_range.2 i.2, rfl⟩))
      exact ⟨z, cs', k1, hz, hk⟩
    refine ⟨List.ofFn fun i => Classical.choose (each i), ⟨⟨by simpa using hlen, ?_⟩, some a, m, by rw [hcs]; simp, fun hne => ?_⟩, fun z hz => ?_, ?_⟩
    · rw [hcs]; show len ≤ m; omega
    rotate_left
    rotate_left
    · have h1 : (len + (m - len)) * Tryz.prog.bytesOf ty ≤ reachBytes := of_decide_eq_true hw2.1
      rw [List.length_ofFn]
      exact Nat.le_trans (Nat.mul_le_mul_right _ (by omega)) h1
    rotate_left
    · rw [List.mem_ofFn] at hz
      obtain ⟨i, rfl⟩ := hz
      obtain ⟨_, _, _, hok⟩ := Classical.choose_spec (each i)
      exact hok
    have h0 : 0 < len := by
      refine Nat.pos_of_ne_zero fun e => hne ?_
      subst e; rfl
    have first : ∀ i : Fin len, ∀ cs', W.cells? 0 (a.add (i.1 * K.size)) K.size = some cs' → ∀ j u, cs'[j]? = some u → W.cell? ((a.add (i.1 * K.size)).add j) = some u := fun i cs' k1 j u hu => by
      obtain ⟨h1, _, hcell⟩ := World.cells?_some k1
      have hj : j < cs'.length := (List.getElem?_eq_some_iff.1 hu).1
      have := hcell j (by omega)
      rw [this]; exact hu
    have hplain : ∃ b off, a = ⟨b, off, none⟩ := by
      obtain ⟨cs', k0, k1, _⟩ := Classical.choose_spec (each ⟨0, h0⟩)
      have hl := K.len k1
      have hu : cs'[0]? = some (cs'[0]'(by omega)) := List.getElem?_eq_getElem (by omega)
      have := first ⟨0, h0⟩ cs' k0 0 _ hu
      exact addr_plainP (W := W) (v := cs'[0]'(by omega)) (by simpa [Addr.add] using this)
    obtain ⟨b, off, rfl⟩ := hplain
    have hlt : b < W.heap.size := by
      obtain ⟨cs', k0, k1, _⟩ := Classical.choose_spec (each ⟨0, h0⟩)
      have hl := K.len k1
      have hu : cs'[0]? = some (cs'[0]'(by omega)) := List.getElem?_eq_getElem (by omega)
      have := first ⟨0, h0⟩ cs' k0 0 _ hu
      rw [Addr.add_lit, Addr.add_lit] at this
      exact World.block_lt_of_cell? W _ this
    refine ⟨b, off, rfl, trivial, hlt, fun i z hi => ?_⟩
    have hi' : i < len := by simpa using (List.getElem?_eq_some_iff.1 hi).1
    rw [List.getElem?_ofFn, dif_pos hi'] at hi
    injection hi with hi
    subst hi
    obtain ⟨cs', k0, k1, _⟩ := Classical.choose_spec (each ⟨i, hi'⟩)
    refine ⟨cs', k1, fun j u hu => ?_⟩
    have := first ⟨i, hi'⟩ cs' k0 j u hu
    rw [Addr.add_lit, Addr.add_lit] at this
    exact this

theorem openSl {α : Type} {K : Kind α} {T ty : TypeId} {ok : α → Prop} (hT : Tryz.prog.underlying T = some (.slice ty)) (hc : Tryz.prog.cellsOf ty = K.size) (hby : 16 ≤ Tryz.prog.bytesOf ty) (hsz : 0 < K.size) (E : Opens enc W ty K ok)
    {n : Nat} {v : Value} {x : DataW H × List MemPlace} (hf : DataW.trod enc Tryz.prog W 0 (fun _ => true) true n T [v] = some x) (hw : Sized T x.1) : ∃ l, K.sl Anyw W v l ∧ ∀ a ∈ l, ok a := by
  obtain ⟨l, h1, h2, _⟩ := openSlB hT hc hby hsz E hf hw
  exact ⟨l, h1, h2⟩

/-- No text is longer than Go's. -/
def okT (t : TermD) : Prop := t.2.length ≤ maxLen
def okA (a : AtomD) : Prop := a.name.length ≤ maxLen ∧ ∀ t ∈ a.terms, okT t
def okR (r : RuleD) : Prop := okA r.head ∧ ∀ a ∈ r.body, okA a

theorem cellsTerm : Tryz.prog.cellsOf 101 = 2 := by kernel_rfl
theorem cellsTerms : Tryz.prog.cellsOf 38 = 1 := by kernel_rfl
theorem cellsAtom : Tryz.prog.cellsOf 40 = 3 := by kernel_rfl
theorem cellsAtoms : Tryz.prog.cellsOf 41 = 1 := by kernel_rfl
theorem cellsBool : Tryz.prog.cellsOf 4 = 1 := by kernel_rfl
theorem bytesTerm : Tryz.prog.bytesOf 101 = 24 := by kernel_rfl
theorem bytesAtom : Tryz.prog.bytesOf 40 = 48 := by kernel_rfl

theorem cellsRule : Tryz.prog.cellsOf 43 = 4 := by kernel_rfl
theorem bytesRule : Tryz.prog.bytesOf 43 = 72 := by kernel_rfl

set_option maxRecDepth 100000 in
theorem opensTerm : Opens enc W 101 termK okT := by
  intro n cs x h _
  obtain ⟨y0, y1, m, hx, hl, h0, h1⟩ := trod_struct2 Tryz.underlying101 h
  rw [cellsTerm] at hl
  match cs, hl with
  | [c0, c1], _ =>
    have e0 : Tryz.prog.cellsOf 4 = 1 := cellsBool
    have e1 : Tryz.prog.cellsOf 9 = 1 := cellsStrP
    simp only [e0, e1, List.drop_zero, List.drop_succ_cons, List.take_succ_cons, List.take_zero] at h0 h1
    obtain ⟨b, hb, _⟩ := DataW.trod_bool Tryz.underlying4 h0
    obtain ⟨s, hs, _, hsz⟩ := DataW.trod_string Tryz.underlying9 h1
    simp only [List.cons.injEq, and_true] at hb hs
    exact ⟨(b, raw s), by show [c0, c1] = _; rw [hb, hs, bs_raw], by show (raw s).length ≤ _; rw [length_raw]; exact hsz⟩

set_option maxRecDepth 100000 in
theorem opensAtom : Opens enc W 40 atomK okA := by
  intro n cs x h hw
  obtain ⟨y0, y1, y2, m, hx, hl, h0, h1, h2⟩ := trod_struct3 Tryz.underlying40 h
  rw [cellsAtom] at hl
  match cs, hl with
  | [c0, c1, c2], _ =>
    have e0 : Tryz.prog.cellsOf 4 = 1 := cellsBool
    have e1 : Tryz.prog.cellsOf 9 = 1 := cellsStrP
    have e2 : Tryz.prog.cellsOf 38 = 1 := cellsTerms
    simp only [e0, e1, e2, List.drop_zero, List.drop_succ_cons, List.take_succ_cons, List.take_zero] at h0 h1 h2
    obtain ⟨b, hb, _⟩ := DataW.trod_bool Tryz.underlying4 h0
    obtain ⟨s, hs, _, hsz⟩ := DataW.trod_string Tryz.underlying9 h1
    simp only [List.cons.injEq, and_true] at hb hs
    have hw2 : Sized 38 y2.1 := by
      unfold Sized at hw ⊢
      rw [hx, DataW.weights, Tryz.underlying40] at hw
      simp only [List.map_cons, List.map_nil, DataW.weightsEach, List.all_append, Bool.and_eq_true] at hw
      exact hw.2.2.1
    obtain ⟨l, hl, hlk⟩ := openSl Tryz.underlying38 cellsTerm (by rw [bytesTerm]; decide) (by decide) opensTerm h2 hw2
    exact ⟨⟨b, raw s, l⟩, ⟨c2, by show [c0, c1, c2] = _; rw [hb, hs, bs_raw], hl⟩, by show (raw s).length ≤ _; rw [length_raw]; exact hsz, hlk⟩

set_option maxRecDepth 100000 in
theorem opensRule : Opens enc W 43 ruleK okR := by
  intro n cs x h hw
  obtain ⟨y0, y1, m, hx, hl, h0, h1⟩ := trod_struct2 Tryz.underlying43 h
  rw [cellsRule] at hl
  match cs, hl with
  | [c0, c1, c2, c3], _ =>
    have e0 : Tryz.prog.cellsOf 40 = 3 := cellsAtom
    have e1 : Tryz.prog.cellsOf 41 = 1 := cellsAtoms
    simp only [e0, e1, List.drop_zero, List.drop_succ_cons, List.take_succ_cons, List.take_zero] at h0 h1
    have hws : Sized 40 y0.1 ∧ Sized 41 y1.1 := by
      unfold Sized at hw ⊢
      rw [hx, DataW.weights, Tryz.underlying43] at hw
      simp only [List.map_cons, List.map_nil, DataW.weightsEach, List.all_append, Bool.and_eq_true] at hw
      exact ⟨hw.1, hw.2.1⟩
    obtain ⟨a, ⟨v, ev, hv⟩, hak⟩ := opensAtom _ _ _ h0 hws.1
    obtain ⟨l, hl, hlk⟩ := openSl Tryz.underlying41 cellsAtom (by rw [bytesAtom]; decide) (by decide) opensAtom h1 hws.2
    simp only [List.cons.injEq, and_true] at ev
    exact ⟨⟨a, l⟩, ⟨v, c3, by show [c0, c1, c2, c3] = _; rw [ev.1, ev.2.1, ev.2.2], hv, hl⟩, hak, hlk⟩

set_option maxRecDepth 100000 in
theorem openRules {b0 : Nat} {v : Value} {d : DataW H} {p : List MemPlace} (hv : Value.okWide Tryz.prog W .any b0 23 v) (h : DataW.Trod enc Tryz.prog W 0 (fun _ => true) true 23 v d p) (hw : Sized 23 d) : ∃ l, ruleK.sl Anyw W v l ∧ ∀ r ∈ l, okR r := by
  obtain ⟨a0, len0, cap0, rfl⟩ := okWide_slice Tryz.underlying23 hv
  obtain ⟨fuel, hf⟩ := h
  exact openSl Tryz.underlying23 cellsRule (by rw [bytesRule]; decide) (by decide) opensRule (x := (d, p)) (by simpa [Value.cells] using hf) hw

/-- What the form's reach says of an argument. -/
theorem sized_at {ts : List TypeId} {ds : List (DataW H)} (h : (DataW.weightsEach Tryz.prog ts ds).all (· ≤ reachBytes) = true) {j : Nat} {t : TypeId} {d : DataW H} (ht : ts[j]? = some t) (hd : ds[j]? = some d) : Sized t d :=
  List.all_eq_true.2 fun k hk => List.all_eq_true.1 h _ (DataW.weights_mem_each ht hd k hk)

end Go.Proofs.YtbohggoeebhdmaaGreatDoor
