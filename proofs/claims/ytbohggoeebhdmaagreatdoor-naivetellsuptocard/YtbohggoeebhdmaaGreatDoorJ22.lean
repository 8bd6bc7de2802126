/- Texts of this claim, one behind the other. -/
import Derived.Test.YtbohggoeebhdmaaGreatDoorJ8
import Derived.Test.YtbohggoeebhdmaaGreatDoorJ21
import Derived.Test.YtbohggoeebhdmaaGreatDoorJ13
import Derived.Test.YtbohggoeebhdmaaGreatDoorJ20
import Derived.Test.YtbohggoeebhdmaaGreatDoorJ5
/- The walks of slices.Grow, slices.Concat at two lists of facts, fact.Join. -/
namespace Go.Proofs.YtbohggoeebhdmaaGreatDoor
open Go.RowKit Go.Sort Go.Shelf

theorem growC (w0 w : World) (hL : Later w0 w) (n : Nat) (hn : n ≤ 3518437208883) : Calls Tryz.prog 95 #[.slice none 0 0, .int .i64 n] w fun e w' =>
    ∃ v', e = .returned v' ∧ RowF w' w0.heap.size v' [] ∧ Later w w' ∧ ∀ k, v'.ownBlock = some k → w.heap.size ≤ k := by
  by_cases h0 : n = 0
  · subst h0
    exact (Any8.slices_Grow_room Tryz.growFacts none 0 0 0 w (Nat.le_refl _) (by omega) (by omega) (Nat.le_refl _)).mono fun e w' ⟨he, hw⟩ =>
      ⟨_, he, by rw [hw]; exact ⟨[], World.ownsRow_nil w _ _ _, fun i hi => by simp at hi⟩, by rw [hw]; exact Later.refl _, fun k hk => by simp [Value.ownBlock] at hk⟩
  · obtain ⟨i, i1, i2, i3, i4⟩ := infoFact
    refine (Any8.slices_Grow_grow Tryz.growFacts i _ i1 i2 (by omega) none 0 0 n [] w (Nat.le_refl _) (by omega) (by rw [i4]; omega) (by omega) (by simp) (fun _ => rfl) (fun a h => by cases h)).mono fun e w' ⟨he, hw⟩ => ⟨_, he, ?_, ?_, fun k hk => ?_⟩
    · rw [hw]
      have hge := grownCap_ge w (0 + n) 0 (Tryz.growFacts_ren.t 25)
      have hcm := grownCap_le_maxLen w (0 + n) 0 (Tryz.growFacts_ren.t 25) (by simp only [maxLen]; omega)
      refine ⟨[], World.ownsRow_made (base := w0.heap.size) (e := 54) (size := 2) w.drew _ _ hL.size hcm ?_, fun i hi => by simp at hi⟩
      simp only [Array.size_append, List.size_toArray, size_zeroCells]
      show 0 + (0 + n - 0) * 2 + (grownCap w (0 + n) 0 (Tryz.growFacts_ren.t 25) - (0 + n)) * 2 = _
      omega
    · rw [hw]; exact (Later.refl w).drew.alloc _
    · simp [Value.ownBlock] at hk; omega

set_option maxHeartbeats 1000000 in
theorem concat (w0 w : World) (hL : Later w0 w) (c cp : Nat) (va vb : Value) (la lb : List FactD) (ha : Facts w0 va la) (hb : Facts w0 vb lb) (hn : la.length + lb.length ≤ 3518437208883) (hc0 : w.cell? ⟨c, 0, none⟩ = some va) (hc1 : w.cell? ⟨c, 1, none⟩ = some vb) (hcb : c < w.heap.size) :
    Calls Tryz.prog 58 #[.slice (some ⟨c, 0, none⟩) 2 cp] w fun e w' => ∃ v', e = .returned v' ∧ RowF w' w0.heap.size v' (la ++ lb) ∧ Later w0 w' := by
  have HA := hide ha
  have HB := hide hb
  obtain ⟨a1, c1, rfl⟩ := sliceFacts ha
  obtain ⟨a2, c2, rfl⟩ := sliceFacts hb
  clear ha hb
  have s1 : ¬ ((la.length : Int) < 0) := by omega
  have s2 : ¬ ((la.length : Int) + (lb.length : Int) < 0) := by omega
  go_enter Tryz.func58, Tryz.ntmps58
  go_wp2
  refine wp_loop_rounds 3 ?_
  rw [rounds_succ]
  go_wp2
  rw [rounds_succ]
  go_wp2
  rw [rounds_succ]
  go_wp2_with fail
  rw [show ((la.length : Int) + (lb.length : Int)) = ((la.length + lb.length : Nat) : Int) by omega]
  refine (growC w0 w hL (la.length + lb.length) hn).mono ?_
  rintro e w1 ⟨v1, rfl, hR1, hL1, hk1⟩
  obtain ⟨v2, w2, run2, hR2, hL2, hg2, hk2⟩ := hR1.append (hL.trans hL1) HA.out (by simp; omega)
  obtain ⟨v3, w3, run3, hR3, hL3, hg3, hk3⟩ := hR2.append hL2 HB.out (by simp; omega)
  rw [List.nil_append] at hR3
  have y0 : w1.cell? ⟨c, 0, none⟩ = some (.slice a1 la.length c1) := by rw [hL1.cell (p := ⟨c, 0, none⟩) hcb]; exact hc0
  have y1 : w1.cell? ⟨c, 1, none⟩ = some (.slice a2 lb.length c2) := by rw [hL1.cell (p := ⟨c, 1, none⟩) hcb]; exact hc1
  have y2 : w2.cell? ⟨c, 1, none⟩ = some (.slice a2 lb.length c2) := by
    rw [World.cell?_of_block (w := w1) (hg2.block c (Nat.lt_of_lt_of_le hcb hL1.size) (fun e => by have := hk1 c e.symm; omega))]; exact y1
  have R2 := hide run2
  have R3 := hide run3
  have HR := hide hR3
  clear run2 run3 hR1 hR2 hR3 hg2 hg3
  go_wp2
  refine wp_loop_rounds 3 ?_
  rw [rounds_succ]
  go_wp2_with (at_builtin; refine wpList_append_run rfl (.tmp 31) (.tmp 32) 24 rfl _ _ _ _ rfl rfl R2.out ?_)
  rw [rounds_succ]
  go_wp2_with (at_builtin; refine wpList_append_run rfl (.tmp 31) (.tmp 32) 24 rfl _ _ _ _ rfl rfl R3.out ?_)
  rw [rounds_succ]
  go_wp2
  go_ret
  exact ⟨v3, rfl, HR.out, hL3⟩

set_option maxHeartbeats 400000 in
/-- fact.Join: the set of both lists' facts, in memory of its own. -/
theorem joinC (va vb : Value) (la lb : List FactD) (w : World) (ha : Facts w va la) (hb : Facts w vb lb) (hn : la.length + lb.length ≤ 3518437208883) :
    Calls Tryz.prog 26 #[va, vb] w fun e w' => ∃ v' s, e = .returned v' ∧ SetOf s (la ++ lb) ∧ OwnF w' w.heap.size v' s ∧ Later w w' := by
  have HA := hide ha
  have HB := hide hb
  obtain ⟨a1, c1, rfl⟩ := sliceFacts ha
  obtain ⟨a2, c2, rfl⟩ := sliceFacts hb
  clear ha hb
  go_enter Tryz.func26, Tryz.ntmps26
  go_wp2_with fail
  refine (concat w _ (by repeat (first | exact Later.refl _ | assumption | refine Later.drewN ?_ _ | refine Later.drew ?_ | refine Later.alloc ?_ _ | refine Later.grow ?_ _)) w.heap.size 2 _ _ la lb HA.out HB.out hn (by simp) (by simp) (by simp)).mono ?_
  rintro e w1 ⟨v1, rfl, hR, hL⟩
  have hr0 := rise w1 w.heap.size v1 (la ++ lb) hR (by simpa using hn)
  obtain ⟨a3, c3, rfl⟩ := ownsSlice hR.choose_spec.1
  rw [List.length_append] at hr0
  have hr := hide hr0
  clear hR hr0
  go_wp2_with fail
  refine hr.out.mono ?_
  rintro e w2 ⟨v2, s, rfl, hs, hO, hW⟩
  have HS := hide hs
  have HO := hide hO
  clear hs hO
  go_wp2
  go_ret
  exact ⟨v2, s, rfl, HS.out, HO.out.base hL.size, hW.later hL (Nat.le_refl _)⟩

end Go.Proofs.YtbohggoeebhdmaaGreatDoor

/- The document's answer: the walk of ref.Same, where the two lists hold the same. -/
namespace Go.Proofs.YtbohggoeebhdmaaGreatDoor
open Go.RowKit Go.Sort

set_option maxHeartbeats 1000000 in
theorem rSame (v1 v2 : Value) (l : List FactD) (w : World) (h1 : Facts w v1 l) (h2 : Facts w v2 l) :
    Calls Tryz.prog 14 #[v1, v2] w fun e w' => e = .returned (.bool true) ∧ Later w w' := by
  have mx := mixed
  have H1 := hide h1
  have H2 := hide h2
  obtain ⟨a, cap, rfl, hn, hz⟩ := h1.addr
  obtain ⟨a2, cap2, rfl, _, hz2⟩ := h2.addr
  clear h1 h2
  go_enter Tryz.func14, Tryz.ntmps14
  go_wp2
  go_loopw [13] (fun i wr => ∃ k : Nat, k ≤ l.length ∧ i = .int .i64 k ∧ Later w wr) (fun i _ => l.length - (intOf i).toNat)
  case atStart => exact ⟨0, by omega, rfl, Later.refl _⟩
  case round =>
    obtain ⟨k, hk, rfl, hL⟩ := hrel
    by_cases hlt : k < l.length
    · rcases hz with rfl | ⟨b, off, rfl⟩
      · simp at hlt
      rcases hz2 with rfl | ⟨b2, off2, rfl⟩
      · simp at hlt
      have hltz : (k : Int) < (l.length : Int) := by omega
      obtain ⟨ax, lx, cx, g1, g2, fx⟩ := (H1.out.later hL).grown hlt
      obtain ⟨ay, ly, cy, g3, g4, fy⟩ := (H2.out.later hL).grown hlt
      have hE : ∀ q os, Calls Tryz.prog 43 #[.agg #[.string (l.getD k noFact).1, .slice ax lx cx], .agg #[.string (l.getD k noFact).1, .slice ay ly cy]] (grow (wr.drewN q) os) fun e w'' => e = .returned (.bool true) ∧ Later (grow (wr.drewN q) os) w'' :=
        fun q os => (rEqual _ _ _ _ _ (fx.later ⟨q, os, rfl⟩) (fy.later ⟨q, os, rfl⟩)).mono fun e w' ⟨he, hw⟩ => ⟨by rw [he, sameF_iff.2 rfl], hw⟩
      have HE := hide hE
      clear hE fx fy
      generalize (l.getD k noFact).1 = nk at *
      go_wp2
      go_quiet_grown ((go_at_call 43; exact Calls.grown_of (HE.out _ _)))
      go_wp2
      go_roundw
      case rel => exact ⟨k + 1, by omega, by go_num, hL.trans ⟨_, _, rfl⟩⟩
      case measure => simp [intOf]; omega
    · go_wp2
      go_ret
      exact ⟨rfl, hL⟩

end Go.Proofs.YtbohggoeebhdmaaGreatDoor

/- The walk of NaiveNeeded. -/
namespace Go.Proofs.YtbohggoeebhdmaaGreatDoor
open Go.RowKit Go.Sort Go.Maps

theorem heads_up {r : RuleD} {fs x : List FactB} (h : headsP r fs = some x) : Up x := by
  unfold headsP at h
  cases hA : allB (fun _ => fs) r.body with
  | none => rw [hA] at h; cases h
  | some R => rw [hA] at h; cases h; exact setF_up _

/-- What is made by the rules so far, together with what was told. -/
structure MadeS (p : List RuleD) (l M : List FactB) (j : Nat) (S : List FactB) : Prop where
  up : Up S
  sub : ∀ f ∈ S, f ∈ M
  mem : ∀ f, f ∈ S ↔ f ∈ l ∨ ∃ r ∈ p.take j, ∃ x, headsP r M = some x ∧ f ∈ x
  all : ∀ r ∈ p.take j, ∃ x, headsP r M = some x

theorem MadeS.next {p : List RuleD} {l M S s x : List FactB} {j : Nat} {r : RuleD} (h : MadeS p l M j S) (hr : p[j]? = some r) (hx : headsP r M = some x) (hxM : ∀ f ∈ x, f ∈ M) (hs : SetOf s (S ++ x)) : MadeS p l M (j + 1) s := by
  have ht : p.take (j + 1) = p.take j ++ [r] := by rw [List.take_add_one, hr]; rfl
  refine ⟨hs.1, fun f hf => ?_, fun f => ?_, fun q hq => ?_⟩
  · rcases List.mem_append.1 ((hs.2.1 f).1 hf) with hf | hf
    · exact h.sub f hf
    · exact hxM f hf
  · rw [hs.2.1, List.mem_append, h.mem, ht]
    constructor
    · rintro ((hf | ⟨q, hq, y, hy, hf⟩) | hf)
      · exact Or.inl hf
      · exact Or.inr ⟨q, List.mem_append_left _ hq, y, hy, hf⟩
      · exact Or.inr ⟨r, by simp, x, hx, hf⟩
    · rintro (hf | ⟨q, hq, y, hy, hf⟩)
      · exact Or.inl (Or.inl hf)
      · rcases List.mem_append.1 hq with hq | hq
        · exact Or.inl (Or.inr ⟨q, hq, y, hy, hf⟩)
        · have e : q = r := by simpa using hq
          subst e
          rw [hx] at hy
          cases hy
          exact Or.inr hf
  · rw [ht] at hq
    rcases List.mem_append.1 hq with hq | hq
    · exact h.all q hq
    · have e : q = r := by simpa using hq
      subst e
      exact ⟨x, hx⟩

theorem MadeS.whole {p : List RuleD} {l M S : List FactB} {j : Nat} (h : MadeS p l M j S) (hj : p.length ≤ j) (hA : allP p l = (0, M)) : S = M := by
  obtain ⟨hp, hl, τ, hτ, _, hr⟩ := allP_ok hA
  have ht : p.take j = p := List.take_of_length_le hj
  have hall := h.all
  have hmem := h.mem
  rw [ht] at hall hmem
  have hn := run_needed hp hτ hl hr hall
  exact up_ext h.up (run_way hp hτ hl hr).1.up fun f => by rw [hmem, hn]

set_option maxRecDepth 100000 in
set_option maxHeartbeats 4000000 in
theorem naiveNeededW (pv fv : Value) (p : List RuleD) (l : List FactB) (w : World) (m : Int) (hm : w.cell? ⟨3, 0, none⟩ = some (.int .i64 m)) (hv : ruleK.sl Anyw w pv p) (hf : Facts w fv l) :
    Calls Tryz.prog 5 #[pv, fv] w fun e w' => e = .returned (.bool true) ∧ Below w.heap.size w w' := by
  have HA := hide (alive5 w m hm)
  obtain ⟨pa, pc, rfl⟩ := Kind.slice hv
  obtain ⟨fa, fc, rfl⟩ := sliceFacts hf
  have HV := hide hv
  have HF := hide hf
  clear hv hf hm
  go_enter Tryz.func5, Tryz.ntmps5
  go_wp2_with fail
  refine HA.out.mono ?_
  rintro e w1 ⟨rfl, hB1⟩
  have HB1 := hide hB1
  have HAll := hide (naiveAllC p l (.slice pa p.length pc) (.slice fa l.length fc) w1 (Kind.sl_below HV.out hB1) (HF.out.below hB1))
  obtain ⟨er, M, hAP⟩ : ∃ er M, allP p l = (er, M) := ⟨_, _, rfl⟩
  rw [hAP] at HAll
  have HAP := hide hAP
  clear hB1 HA hAP
  go_wp2_with fail
  refine HAll.out.mono ?_
  rintro e w2 ⟨v2, er', rfl, ⟨her, hT1, hT2⟩, hB2⟩
  dsimp only at her hT1 hT2
  have her' := her.symm
  clear her
  subst her'
  have HB2 := hide (below_trans HB1.out hB2 HB1.out.size)
  clear hB2 HAll HB1
  by_cases h0 : er = 0
  · subst h0
    obtain ⟨hp, hgl, hgM, hsub, hcl⟩ := all_model HAP.out
    have hF2 := hT2 rfl
    have HF2 := hide hF2
    have HO := hide (ofC (.slice fa l.length fc) l w2 (HF.out.below HB2.out))
    obtain ⟨a2, c2, rfl⟩ := sliceFacts hF2
    have HRP := hide hp
    have h16 := hp.few
    have hlf := hgl.few
    have HGM := hide hgM
    have HGL := hide hgl
    have HCl := hide hcl
    have HSub := hide hsub
    clear hT1 hT2 hF2 hp hgl hgM hsub hcl
    go_wp2_with fail
    refine HO.out.mono ?_
    rintro e w3 ⟨v3, s, rfl, hS, hO3, hL3⟩
    have es : s = l := by rw [setF_of hS.1 hS.2.1, setF_up_self HGL.out.up]
    subst es
    have HF3 : Hid (Facts w3 v3 s) := hO3.facts (by omega)
    have HB3 := hide (below_trans HB2.out hL3.below HB2.out.size)
    have HF23 := hide (HF2.out.later hL3)
    have HMd : Hid (MadeS p s M 0 s) := ⟨HGL.out.up, HSub.out, fun f => by simp, fun r hr => by simp at hr⟩
    obtain ⟨a3, c3, rfl⟩ := sliceFacts HF3.out
    clear hS hO3 hL3 HO HF2 HB2 HSub
    go_wp2
    go_loopg [7, 26] p.length (fun g v7 i wr => ∃ j : Nat, j + g = p.length ∧ i = .int .i64 j ∧ ∃ S, Hid (Facts wr v7 S) ∧ Hid (MadeS p s M j S) ∧ Hid (Below w.heap.size w wr) ∧ Hid (Below w3.heap.size w3 wr))
    case atStart => exact ⟨0, by omega, rfl, s, HF3, HMd, HB3, Below.refl _ _⟩
    case round =>
      clear HB3 HF3 HMd
      obtain ⟨j, hj, rfl, S, HFr, HMd, HBr, HBr3⟩ := hrel
      obtain ⟨va, vc, hva⟩ := sliceFacts HFr.out
      subst hva
      by_cases hlt : j < p.length
      · obtain ⟨r, hr⟩ : ∃ x, p[j]? = some x := ⟨_, List.getElem?_eq_getElem hlt⟩
        have hrm : r ∈ p := List.mem_of_getElem? hr
        obtain ⟨b1, o1, _, rfl, hb1, ⟨tv, bv, rfl, htv, hbv⟩, hc⟩ := Kind.sl_at HV.out hr
        have d0 : wr.cell? ⟨b1, o1 + j * 4, none⟩ = some (.bool r.head.no) := by rw [HBr.out.cell (p := ⟨b1, o1 + j * 4, none⟩) hb1]; exact hc 0 _ rfl
        have d1 : wr.cell? ⟨b1, o1 + j * 4 + 1, none⟩ = some (.string (bs r.head.name)) := by rw [HBr.out.cell (p := ⟨b1, o1 + j * 4 + 1, none⟩) hb1]; exact hc 1 _ rfl
        have d2 : wr.cell? ⟨b1, o1 + j * 4 + 2, none⟩ = some tv := by rw [HBr.out.cell (p := ⟨b1, o1 + j * 4 + 2, none⟩) hb1]; exact hc 2 _ rfl
        have d3 : wr.cell? ⟨b1, o1 + j * 4 + 3, none⟩ = some bv := by rw [HBr.out.cell (p := ⟨b1, o1 + j * 4 + 3, none⟩) hb1]; exact hc 3 _ rfl
        obtain ⟨ta, tc, rfl⟩ := Kind.slice htv
        obtain ⟨ba, bc, rfl⟩ := Kind.slice hbv
        obtain ⟨wb, hwb⟩ : ∃ wb, wb = wr.alloc (.cells #[.bool r.head.no, .string (bs r.head.name), .slice ta r.head.terms.length tc, .slice ba r.body.length bc] 43) := ⟨_, rfl⟩
        have hLb : Later wr wb := by rw [hwb]; exact (Later.refl _).alloc _
        have hBb : Below w.heap.size w wb := below_trans HBr.out hLb.below HBr.out.size
        have hBb3 : Below w3.heap.size w3 wb := below_trans HBr3.out hLb.below HBr3.out.size
        have HH := hide (headsC r (.slice ta r.head.terms.length tc) (.slice ba r.body.length bc) (.slice a2 M.length c2) M wb (Kind.sl_below htv hBb) (Kind.sl_below hbv hBb) (HF23.out.below hBb3) (short_right HRP.out HGM.out r hrm))
        have h0 := errW_right HRP.out HGM.out r hrm
        have hclr := HCl.out r hrm
        have HBb := hide hBb
        have HBb3 := hide hBb3
        have HWb := hide hwb
        have HR := hide hr
        have HFb := hide (HFr.out.later hLb)
        clear hc hr htv hbv hLb hBb hBb3 hwb hrm
        generalize bs r.head.name = nm at *
        generalize hno : r.head.no = no at *
        clear hno
        go_wp2_with fail
        rw [← HWb.out]
        refine HH.out.mono ?_
        rintro e w5 ⟨v5, er, rfl, hT5, hB5⟩
        unfold HeadsT at hT5
        rw [if_neg (by simp [h0])] at hT5
        have HB5 := hide (below_trans HBb.out hB5 HBb.out.size)
        have HB53 := hide (below_trans HBb3.out hB5 HBb3.out.size)
        have HF5S := hide (HFb.out.below hB5)
        clear hB5 HH HWb HBb HBb3 h0 HFb HFr
        cases hh : headsP r M with
        | none =>
          rw [hh] at hT5
          obtain ⟨rfl, rfl⟩ := hT5
          clear hh hclr
          go_wp2
          go_ret
          exact ⟨rfl, HB5.out⟩
        | some x =>
          rw [hh] at hT5
          obtain ⟨rfl, hF5⟩ := hT5
          have hx := hclr x hh
          have hlx : x.length ≤ 200 := Nat.le_trans (up_le (heads_up hh) hx) HGM.out.few
          have hlS : S.length ≤ 200 := Nat.le_trans (up_le HMd.out.up HMd.out.sub) HGM.out.few
          have HJ := hide (joinC (.slice va S.length vc) v5 S x w5 HF5S.out hF5 (by omega))
          have HN := hide (fun s' hs' => MadeS.next (s := s') HMd.out HR.out hh hx hs')
          obtain ⟨a5, c5, rfl⟩ := sliceFacts hF5
          clear hh hclr hF5 hx
          go_wp2_with fail
          refine HJ.out.mono ?_
          rintro e w6 ⟨v6, s6, rfl, hS6, hO6, hL6⟩
          have HMd6 := hide (HN.out s6 hS6)
          have hl6 := hS6.2.2
          rw [List.length_append] at hl6
          have HF6 : Hid (Facts w6 v6 s6) := hO6.facts (by omega)
          have HB6 := hide (below_trans HB5.out hL6.below HB5.out.size)
          have HB63 := hide (below_trans HB53.out hL6.below HB53.out.size)
          obtain ⟨a6, c6, rfl⟩ := sliceFacts HF6.out
          clear hO6 hL6 hS6 hl6 HJ HN
          go_wp2
          go_roundg (p.length - (j + 1))
          case measure => omega
          case rel => exact ⟨j + 1, by omega, by go_num, s6, HF6, HMd6, HB6, HB63⟩
      · have e2 := HMd.out.whole (by omega) HAP.out
        have hFM : Facts wr (.slice va S.length vc) M := by
          have h := HFr.out
          generalize Value.slice va S.length vc = v at h ⊢
          rw [e2] at h
          exact h
        have HSm := hide (rSame (.slice va S.length vc) (.slice a2 M.length c2) M wr hFM (HF23.out.below HBr3.out))
        clear e2 hFM
        go_wp2_with fail
        refine HSm.out.mono ?_
        rintro e w7 ⟨rfl, hL7⟩
        have HB7 := hide (below_trans HBr.out hL7.below HBr.out.size)
        clear hL7 HSm
        go_wp2
        go_ret
        exact ⟨rfl, HB7.out⟩
  · have hne : (er != 0) = true := by simpa using h0
    by_cases h1 : er = 0
    · exact absurd h1 h0
    · have e2 := hT1 h0
      subst e2
      clear hT1 hT2 HAP
      go_wp2
      go_ret
      exact ⟨rfl, HB2.out⟩

end Go.Proofs.YtbohggoeebhdmaaGreatDoor

/- Rows of rules that a call owns, what they lead to from before it. Nothing of the program but types' numbers. -/
namespace Go.Proofs.YtbohggoeebhdmaaGreatDoor
open Go.RowKit Go.Sort

theorem infoRule4 : ∃ i, Tryz.prog.info? 43 = some i ∧ i.zero = some (.agg #[.bool false, .string ByteArray.empty, .slice none 0 0, .slice none 0 0]) ∧ i.size = 4 ∧ i.bytes = 72 := ⟨Tryz.t43, by kernel_rfl, by kernel_rfl, by kernel_rfl, by kernel_rfl⟩

/-- A row of rules of a call's own; what they lead to was there in w0. -/
def RowU (w0 : World) (lo : Nat) (w : World) (v : Value) (l : List RuleD) : Prop :=
  ∃ xs, w.ownsRow lo 43 4 v l.length xs ∧ ∀ i a, l[i]? = some a → ∃ c, ruleK.is Anyw w0 c a ∧ ∀ j u, c[j]? = some u → xs[i * 4 + j]? = some u

theorem RowU.nil (w0 : World) (lo : Nat) (w : World) : RowU w0 lo w (.slice none 0 0) [] := ⟨[], World.ownsRow_nil w _ _ _, fun i a h => by simp at h⟩

theorem RowU.slice {w0 w : World} {lo : Nat} {v : Value} {l : List RuleD} (h : RowU w0 lo w v l) : ∃ a cap, v = .slice a l.length cap := by
  obtain ⟨xs, ho, _⟩ := h
  rcases ho.2 with ⟨rfl, e⟩ | ⟨g, cap, cur, rfl, _⟩
  · exact ⟨none, 0, by rw [e]⟩
  · exact ⟨_, cap, rfl⟩

theorem RowU.lo {w0 w : World} {lo : Nat} {v : Value} {l : List RuleD} (h : RowU w0 lo w v l) : ∀ k, v.ownBlock = some k → lo ≤ k ∧ k < w.heap.size := fun k e => by
  obtain ⟨xs, ho, _⟩ := h; exact ho.lt k e

/-- One rule more. -/
theorem RowU.more {w0 w : World} {lo : Nat} {v : Value} {l : List RuleD} (h : RowU w0 lo w v l) (hs : lo ≤ w.heap.size) {c : List Value} {a : RuleD} (hc : ruleK.is Anyw w0 c a) (hl : (l.length + 1) * 72 ≤ 140737488355328) :
    ∃ v' w', (Builtin.append_ #[23, 23] 23 #[v, .slice (some ⟨w.heap.size, 0, none⟩) 1 1]).run Tryz.prog (w.alloc (.cells c.toArray 43)) = .ok v' w' ∧ RowU w0 lo w' v' (l ++ [a]) ∧ (w.alloc (.cells c.toArray 43)).grownBy w' v.ownBlock ∧ w.drawn ≤ w'.drawn := by
  obtain ⟨i, i1, i2, i3, i4⟩ := infoRule4
  obtain ⟨xs, ho, hx⟩ := h
  have hcl : c.length = 4 := ruleK.len hc
  have hnews : ∀ j u, c[j]? = some u → (w.alloc (.cells c.toArray 43)).cell? ((⟨w.heap.size, 0, none⟩ : Addr).add j) = some u := by
    intro j u hu
    rw [Addr.add_lit, Nat.zero_add, cell_of_row _ w.heap.size j c.toArray 43 (0, 0) (heap_alloc_new w _)]
    simpa using hu
  obtain ⟨v', w', hrun, r1, r2, r3, _⟩ := append_own (P := Tryz.prog) (w.alloc (.cells c.toArray 43)) lo 23 23 43 i _ 4 72 Tryz.underlying23 i1 i2 i3 i4 rfl (by omega) v l.length xs (ho.alloc _) ⟨w.heap.size, 0, none⟩ 1 1 c (by rw [hcl]) hnews
    (ruleK.one hc) (by simp only [maxLen]; omega) hl (by simp; omega)
  refine ⟨v', w', hrun, ⟨xs ++ c, by simpa using r1, fun j y hj => ?_⟩, r2, r3⟩
  have hxl : xs.length = l.length * 4 := ho.1
  by_cases hjl : j < l.length
  · rw [List.getElem?_append_left hjl] at hj
    obtain ⟨d, d1, d2⟩ := hx j y hj
    refine ⟨d, d1, fun q u hu => ?_⟩
    have := d2 q u hu
    rw [List.getElem?_append_left (List.getElem?_eq_some_iff.1 this).1]; exact this
  · rw [List.getElem?_append_right (by omega)] at hj
    have hj' : j = l.length := by
      have := (List.getElem?_eq_some_iff.1 hj).1
      simp at this; omega
    subst hj'
    simp at hj
    subst hj
    refine ⟨c, hc, fun q u hu => ?_⟩
    rw [List.getElem?_append_right (by omega), hxl, Nat.add_sub_cancel_left]; exact hu

theorem RowU.sl {w0 w : World} {lo : Nat} {v : Value} {l : List RuleD} (h : RowU w0 lo w v l) (hb : Below w0.heap.size w0 w) (hl : l.length ≤ 8796093022208) : ruleK.sl Anyw w v l := by
  obtain ⟨xs, ho, hx⟩ := h
  rcases ho.2 with ⟨rfl, e⟩ | ⟨g, cap, cur, rfl, hbg, hg, hnc, _⟩
  · have : l = [] := List.eq_nil_of_length_eq_zero e
    subst this
    exact ruleK.sl_nil _ _ _ _
  · refine ⟨⟨hl, hnc⟩, _, cap, rfl, fun _ => ⟨g, 0, rfl, trivial, (Array.getElem?_eq_some_iff.1 hg).1, fun i x hi => ?_⟩⟩
    obtain ⟨c, c1, c2⟩ := hx i x hi
    refine ⟨c, ruleK.kept c1 hb.size fun k hk _ => hb.block k hk, fun j u hu => ?_⟩
    have := ho.cells (g := g) rfl _ u (c2 j u hu)
    rw [Addr.add_lit] at this
    rw [Nat.add_assoc]; exact this

theorem RowU.one {w0 w : World} {lo : Nat} {c : List Value} {a : RuleD} (hc : ruleK.is Anyw w0 c a) (hs : lo ≤ w.heap.size) : RowU w0 lo (w.alloc (.cells c.toArray 43)) (.slice (some ⟨w.heap.size, 0, none⟩) 1 1) [a] := by
  have hcl : c.length = 4 := ruleK.len hc
  refine ⟨c, ⟨by rw [hcl]; rfl, Or.inr ⟨w.heap.size, 1, c.toArray, rfl, hs, heap_alloc_new _ _, by simp, by simp [maxLen], by simp [hcl], by show c.take 4 = c; rw [← hcl]; simp⟩⟩, fun i x hi => ?_⟩
  cases i with
  | zero =>
    simp at hi
    subst hi
    exact ⟨c, hc, fun j u hu => by rw [Nat.zero_mul, Nat.zero_add]; exact hu⟩
  | succ i => simp at hi

/-- Apart from block b, that lies behind what was there and ahead of the row. -/
theorem RowU.slB {w0 w : World} {lo b : Nat} {v : Value} {l : List RuleD} (h : RowU w0 lo w v l) (hb : Below w0.heap.size w0 w) (hl : l.length ≤ 8796093022208) (h1 : w0.heap.size ≤ b) (h2 : b < lo) : ruleK.sl (fun k => k ≠ b) w v l := by
  obtain ⟨xs, ho, hx⟩ := h
  rcases ho.2 with ⟨rfl, e⟩ | ⟨g, cap, cur, rfl, hbg, hg, hnc, _⟩
  · have : l = [] := List.eq_nil_of_length_eq_zero e
    subst this
    exact ruleK.sl_nil _ _ _ _
  · refine ⟨⟨hl, hnc⟩, _, cap, rfl, fun _ => ⟨g, 0, rfl, by show g ≠ b; omega, (Array.getElem?_eq_some_iff.1 hg).1, fun i x hi => ?_⟩⟩
    obtain ⟨c, c1, c2⟩ := hx i x hi
    refine ⟨c, ruleK.kept (ruleK.mono c1 fun k hk _ => (by omega : k ≠ b)) hb.size fun k hk _ => hb.block k hk, fun j u hu => ?_⟩
    have := ho.cells (g := g) rfl _ u (c2 j u hu)
    rw [Addr.add_lit] at this
    rw [Nat.add_assoc]; exact this

end Go.Proofs.YtbohggoeebhdmaaGreatDoor
