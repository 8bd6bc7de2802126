/- Texts of this claim, one behind the other. -/
import Derived.Test.YtbohggoeebhdmaaGreatDoorJ20
import Derived.Test.YtbohggoeebhdmaaGreatDoorJ22
import Derived.Test.YtbohggoeebhdmaaGreatDoorJ14
import Derived.ProofKit
import Derived.SliceStrings
import Derived.Deep.Slices
import Derived.Lib.SmallJoins
import Derived.SizedLaws
/- The walk of NaiveRules. -/
namespace Go.Proofs.YtbohggoeebhdmaaGreatDoor
open Go.RowKit Go.Sort Go.Maps

theorem turned_rule {l : List RuleD} {i : Nat} {a : RuleD} (h : l[l.length - 1 - i]? = some a) (hi : i < l.length) : l.reverse.take (i + 1) = l.reverse.take i ++ [a] := by
  rw [List.take_add_one]
  congr 1
  rw [List.getElem?_reverse hi, h]; rfl

theorem fitF_turned (p : List RuleD) (f : FactB) : fitF p.reverse f = fitF p f := by
  unfold fitF; rw [List.all_reverse]

theorem fitFrom_congr {p q : List RuleD} (h : ∀ f, fitF p f = fitF q f) (l : List FactB) : ∀ n k, fitFrom p l n k = fitFrom q l n k
  | 0, _ => rfl
  | n + 1, k => by unfold fitFrom; rw [h, fitFrom_congr h l n]

theorem facts_turned (p : List RuleD) (l : List FactB) : factsP p.reverse l = factsP p l := by
  unfold factsP; rw [fitFrom_congr (fitF_turned p)]

/-- Rules in whatever order. -/
theorem all_turned5 {p : List RuleD} {l : List FactB} (hp : RightP p) (h4 : (allP p l).1 ≠ 4) (h4' : (allP p.reverse l).1 ≠ 4) : allP p.reverse l = allP p l := by
  obtain ⟨hs, ht⟩ := strata_turned hp
  unfold allP at h4 h4' ⊢
  rw [hs] at h4' ⊢
  rw [facts_turned] at h4' ⊢
  by_cases h : (strataP p).2.1 ≠ 0
  · rw [if_pos h, if_pos h]
  · rw [if_neg h] at h4 h4' ⊢
    rw [if_neg h]
    by_cases h2 : (factsP p l).1 ≠ 0
    · rw [if_pos h2, if_pos h2]
    · rw [if_neg h2] at h4 h4' ⊢
      rw [if_neg h2]
      obtain ⟨τ, hτ, e1, e2⟩ := ht (by simpa using h)
      rw [e1] at h4 ⊢
      rw [e2] at h4' ⊢
      have hc : countP (p.reverse.map fun r => τ r.head.name) = countP (p.map fun r => τ r.head.name) := countP_congr fun s => by simp [List.mem_map]
      rw [hc] at h4' ⊢
      exact (run_same hp (fun r => List.mem_reverse.symm) (fun r => τ r.head.name) _ 0 (facts_good (by simpa using h2)) h4 h4').symm

theorem facts_none (w : World) : Facts w (.slice none 0 0) [] := ⟨by simp, _, 0, rfl, fun h => absurd rfl h⟩

/-- What All answers is facts, whatever it tells. -/
theorem OnceT.facts {w : World} {v : Value} {er : Int} {a : Int × List FactB} (h : OnceT w v er a) : Facts w v (if a.1 = 0 then a.2 else []) := by
  obtain ⟨_, h1, h2⟩ := h
  by_cases e : a.1 = 0
  · rw [if_pos e]; exact h2 e
  · rw [if_neg e, h1 e]; exact facts_none w

set_option maxRecDepth 100000 in
set_option maxHeartbeats 4000000 in
theorem naiveRulesW (pv fv : Value) (p : List RuleD) (l : List FactB) (w : World) (m : Int) (hm : w.cell? ⟨3, 0, none⟩ = some (.int .i64 m)) (hv : ruleK.sl Anyw w pv p) (hf : Facts w fv l) (hpl : p.length * 72 ≤ 140737488355328) :
    Calls Tryz.prog 7 #[pv, fv] w fun e w' => e = .returned (.bool true) ∧ Below w.heap.size w w' := by
  have HA := hide (alive5 w m hm)
  obtain ⟨pa, pc, rfl⟩ := Kind.slice hv
  obtain ⟨fa, fc, rfl⟩ := sliceFacts hf
  have HV := hide hv
  have HF := hide hf
  have hpl0 := hv.1.1
  clear hv hf hm
  go_enter Tryz.func7, Tryz.ntmps7
  go_wp2_with fail
  refine HA.out.mono ?_
  rintro e w1 ⟨rfl, hB1⟩
  have HB1 := hide hB1
  have HV1 := hide (Kind.sl_below HV.out hB1)
  have HF1 := hide (HF.out.below hB1)
  clear HA hB1 HV HF
  go_wp2
  go_loopg [5, 15] p.length (fun g o i wr => ∃ j : Nat, j + g = p.length ∧ i = .int .i64 j ∧ Hid (RowU w1 w1.heap.size wr o (p.reverse.take j)) ∧ Hid (Later w1 wr))
  case atStart => exact ⟨0, by omega, rfl, RowU.nil _ _ _, Later.refl _⟩
  case round =>
    obtain ⟨j, hj, rfl, HO, HL⟩ := hrel
    obtain ⟨ao, no', co, rfl⟩ : ∃ a n c, u5 = .slice a n c := by obtain ⟨a, c, e⟩ := RowU.slice HO.out; exact ⟨a, _, c, e⟩
    by_cases hlt : j < p.length
    · obtain ⟨t, ht⟩ : ∃ x, p[p.length - 1 - j]? = some x := ⟨_, List.getElem?_eq_getElem (by omega)⟩
      obtain ⟨b2, o2, c, rfl, hb2, hcis, hc⟩ := Kind.sl_at HV1.out ht
      have hcis' := hcis
      obtain ⟨sv, bv, rfl, hsv, hbv⟩ := hcis
      have d0 : wr.cell? ⟨b2, o2 + (p.length - 1 - j) * 4, none⟩ = some (.bool t.head.no) := by rw [HL.out.cell hb2]; exact hc 0 _ rfl
      have d1 : wr.cell? ⟨b2, o2 + (p.length - 1 - j) * 4 + 1, none⟩ = some (.string (bs t.head.name)) := by rw [HL.out.cell hb2]; exact hc 1 _ rfl
      have d2 : wr.cell? ⟨b2, o2 + (p.length - 1 - j) * 4 + 2, none⟩ = some sv := by rw [HL.out.cell hb2]; exact hc 2 _ rfl
      have d3 : wr.cell? ⟨b2, o2 + (p.length - 1 - j) * 4 + 3, none⟩ = some bv := by rw [HL.out.cell hb2]; exact hc 3 _ rfl
      have hbr : b2 < wr.heap.size := Nat.lt_of_lt_of_le hb2 HL.out.size
      have hlen : (p.reverse.take j).length = j := by rw [List.length_take, List.length_reverse]; omega
      obtain ⟨v', w4, hrun, hO4, hg4, hd4⟩ := HO.out.more HL.out.size hcis' (by rw [hlen]; omega)
      rw [← turned_rule ht hlt] at hO4
      have HL4 := hide (HL.out.more hg4 hd4 fun k e => (RowU.lo HO.out k e).1)
      obtain ⟨sva, svc, rfl⟩ := Kind.slice hsv
      obtain ⟨bva, bvc, rfl⟩ := Kind.slice hbv
      have HR4 := hide hrun
      have HO4 := hide hO4
      have e1 : ((p.length : Int) - 1 - (j : Int)) = ((p.length - 1 - j : Nat) : Int) := by omega
      have e2 : ((p.length - 1 - j : Nat) : Int) < (p.length : Int) := by omega
      have e3 : IntKind.i64.wrap ((p.length : Int) - 1) = (p.length : Int) - 1 := by simp [IntKind.wrap, IntKind.bits, IntKind.signed]; omega
      have e4 : IntKind.i64.wrap ((p.length - 1 - j : Nat) : Int) = ((p.length - 1 - j : Nat) : Int) := by simp [IntKind.wrap, IntKind.bits, IntKind.signed]; omega
      clear hc ht hsv hbv hcis' hrun hO4 hg4 hd4 hlen
      generalize bs t.head.name = nm at *
      generalize hno : t.head.no = no at *
      clear hno
      generalize hkk : p.length - 1 - j = kk at *
      clear hkk
      go_wp2_with (at_builtin; refine wpList_append_run rfl (.tmp 18) (.tmp 27) 23 rfl _ _ _ _ rfl rfl HR4.out ?_)
      go_roundg (p.length - (j + 1))
      case measure => omega
      case rel => exact ⟨j + 1, by omega, by go_num, HO4, HL4⟩
    · have e : j = p.length := by omega
      have hrev : p.reverse.take j = p.reverse := by rw [e, List.take_of_length_le (by simp)]
      have hRA := HO.out
      rw [hrev] at hRA
      have hBr : Below w.heap.size w wr := below_trans HB1.out HL.out.below HB1.out.size
      have HT := hide (hRA.sl HL.out.below (by simpa using hpl0))
      have HVr := hide (Kind.sl_later HV1.out HL.out)
      have HFr := hide (HF1.out.later HL.out)
      have HAll := hide (naiveAllC p l (.slice pa p.length pc) (.slice fa l.length fc) wr HVr.out HFr.out)
      have HBr := hide hBr
      clear hrev hRA hBr e HO HL HV1 HF1 HB1
      go_wp2_with fail
      refine HAll.out.mono ?_
      rintro e w2 ⟨v2, er2, rfl, hT2, hB2⟩
      have HAl2 := hide (naiveAllC p.reverse l (.slice ao no' co) (.slice fa l.length fc) w2 (Kind.sl_below HT.out hB2) (HFr.out.below hB2))
      have HB2 := hide (below_trans HBr.out hB2 HBr.out.size)
      have HV2 := hide (Kind.sl_below HVr.out hB2)
      have HT2 := hide hT2
      have HF2 := hide hT2.facts
      obtain ⟨a2, n2, c2, rfl⟩ : ∃ a n c, v2 = .slice a n c := by obtain ⟨a, c, e⟩ := sliceFacts HF2.out; exact ⟨a, _, c, e⟩
      clear HAll hT2 hB2 HBr HVr HFr HT
      go_wp2_with fail
      refine HAl2.out.mono ?_
      rintro e w3 ⟨v3, er3, rfl, hT3, hB3⟩
      have HWr := hide (wrongC p (.slice pa p.length pc) w3 (Kind.sl_below HV2.out hB3))
      have HB3 := hide (below_trans HB2.out hB3 HB2.out.size)
      have HF23 := hide (HF2.out.below hB3)
      have HT3 := hide hT3
      have HF3 := hide hT3.facts
      obtain ⟨a3, n3, c3, rfl⟩ : ∃ a n c, v3 = .slice a n c := by obtain ⟨a, c, e⟩ := sliceFacts HF3.out; exact ⟨a, _, c, e⟩
      obtain ⟨x, k, hxk⟩ : ∃ x k, wrongP p = (x, k) := ⟨_, _, rfl⟩
      rw [hxk] at HWr
      have HXK := hide hxk
      clear hxk HAl2 hT3 hB3 HB2 HV2 HF2
      go_wp2_with fail
      refine HWr.out.mono ?_
      rintro e w4 ⟨rfl, hB4⟩
      dsimp only
      have HB4 := hide (below_trans HB3.out hB4 HB3.out.size)
      have HF24 := hide (HF23.out.below hB4)
      have HF34 := hide (HF3.out.below hB4)
      have hfe := errOf x (k : Nat)
      clear hB4 HWr HB3 HF23 HF3
      by_cases h0 : x = 0
      · subst h0
        by_cases h1 : er2 = 4
        · subst h1
          clear HF24 HF34 HXK HT2 HT3
          go_wp2
          go_ret
          exact ⟨rfl, HB4.out⟩
        · have q1 : (er2 == 4) = false := by simpa using h1
          by_cases h2 : er3 = 4
          · subst h2
            clear HF24 HF34 HXK HT2 HT3
            go_wp2
            go_ret
            exact ⟨rfl, HB4.out⟩
          · have q2 : (er3 == 4) = false := by simpa using h2
            have hp : RightP p := rightP_iff.1 (by rw [HXK.out])
            have hE : allP p.reverse l = allP p l := all_turned5 hp (by rw [← HT2.out.1]; exact h1) (by rw [← HT3.out.1]; exact h2)
            have h32 : er3 = er2 := by rw [HT2.out.1, HT3.out.1, hE]
            have hF3 := HF34.out
            rw [hE] at hF3
            subst h32
            have HSm := hide (rSame (.slice a2 n2 c2) (.slice a3 n3 c3) _ w4 HF24.out hF3)
            clear HF24 HF34 HXK HT2 HT3 hp hE hF3 q2 h2
            go_wp2_with fail
            refine HSm.out.mono ?_
            rintro e w5 ⟨rfl, hL5⟩
            have HB5 := hide (below_trans HB4.out hL5.below HB4.out.size)
            clear hL5 HSm
            go_wp2
            go_ret
            exact ⟨rfl, HB5.out⟩
      · have hne : (x != 0) = true := by simpa using h0
        clear HF24 HF34 HXK HT2 HT3
        go_wp2
        go_ret
        exact ⟨rfl, HB4.out⟩

end Go.Proofs.YtbohggoeebhdmaaGreatDoor

/- The walk of NaiveLeast. -/
namespace Go.Proofs.YtbohggoeebhdmaaGreatDoor
open Go.RowKit Go.Sort Go.Maps

/-- All of a program that asks for nothing not to be so: one stratum. -/
theorem allP_plain {p : List RuleD} {l M : List FactB} (hno : ∀ r ∈ p, ∀ a ∈ r.body, a.no = false) (h : allP p l = (0, M)) : RightP p ∧ GoodS p l ∧ runGo p (p.map fun _ => 0) (countP (p.map fun _ => 0)) 0 l = (0, M) := by
  obtain ⟨hp, hl, τ, hτ, e, hr⟩ := allP_ok h
  refine ⟨hp, hl, ?_⟩
  have h1 : (strataP p).1 = p.map fun _ => 0 := by rw [strataP_plain (rightP_iff.2 hp) hno]
  rw [← e, h1] at hr
  exact hr

/-- Told more there is no less. -/
theorem all_least {p : List RuleD} {l l' m m' : List FactB} (hno : ∀ r ∈ p, ∀ a ∈ r.body, a.no = false) (hs : ∀ f ∈ l, f ∈ l') (h : allP p l = (0, m)) (h' : allP p l' = (0, m')) : ∀ f ∈ m, f ∈ m' := by
  obtain ⟨hp, hl, hr⟩ := allP_plain hno h
  obtain ⟨_, hl', hr'⟩ := allP_plain hno h'
  exact run_least hp hno hl hl' hs hr hr'

/-- Told what follows nothing more follows. -/
theorem all_again {p : List RuleD} {l m : List FactB} (hno : ∀ r ∈ p, ∀ a ∈ r.body, a.no = false) (h : allP p l = (0, m)) : ∃ e x, allP p m = (e, x) ∧ (e = 0 → x = m) ∧ (e = 0 ∨ e = 4) := by
  obtain ⟨hp, hl, hr⟩ := allP_plain hno h
  obtain ⟨_, _, hgm, _, _⟩ := all_model h
  obtain ⟨e, x, hx, h1, h2⟩ := run_again hp hno hl hr
  refine ⟨e, x, ?_, h1, h2⟩
  unfold allP
  rw [strataP_plain (rightP_iff.2 hp) hno, good_facts hgm]
  simpa using hx

theorem facts_nil5 (w : World) : Facts w (.slice none 0 0) [] := ⟨by simp, _, 0, rfl, fun h => absurd rfl h⟩

/-- What All answers is facts, whatever it tells. -/
theorem OnceT.told {w : World} {v : Value} {er : Int} {a : Int × List FactB} (h : OnceT w v er a) : Facts w v (if a.1 = 0 then a.2 else []) := by
  obtain ⟨_, h1, h2⟩ := h
  by_cases e : a.1 = 0
  · rw [if_pos e]; exact h2 e
  · rw [if_neg e, h1 e]; exact facts_nil5 w

set_option maxRecDepth 100000 in
set_option maxHeartbeats 4000000 in
theorem naiveLeastW (pv fv gv : Value) (p : List RuleD) (l more : List FactB) (w : World) (m : Int) (hm : w.cell? ⟨3, 0, none⟩ = some (.int .i64 m)) (hv : ruleK.sl Anyw w pv p) (hf : Facts w fv l) (hg : Facts w gv more) (hn : l.length + more.length ≤ 3518437208883) :
    Calls Tryz.prog 6 #[pv, fv, gv] w fun e w' => e = .returned (.bool true) ∧ Below w.heap.size w w' := by
  have HA := hide (alive5 w m hm)
  obtain ⟨pa, pc, rfl⟩ := Kind.slice hv
  obtain ⟨fa, fc, rfl⟩ := sliceFacts hf
  obtain ⟨ga, gc, rfl⟩ := sliceFacts hg
  have HV := hide hv
  have HF := hide hf
  have HG := hide hg
  have hl0 := hv.1.1
  clear hv hf hg hm
  go_enter Tryz.func6, Tryz.ntmps6
  go_wp2_with fail
  refine HA.out.mono ?_
  rintro e w1 ⟨rfl, hB1⟩
  have HB1 := hide hB1
  clear HA hB1
  go_wp2
  go_loopg [21] p.length (fun g i wr => ∃ j : Nat, j + g = p.length ∧ i = .int .i64 j ∧ Hid (∀ r ∈ p.take j, ∀ a ∈ r.body, a.no = false) ∧ Hid (Below w.heap.size w wr))
  case atStart => exact ⟨0, by omega, rfl, (fun r hr => by simp at hr), HB1⟩
  case round =>
    obtain ⟨j, hj, rfl, HN, HB⟩ := hrel
    clear HB1
    have hwr := HB.out.size
    by_cases hlt : j < p.length
    · obtain ⟨r, hr⟩ : ∃ x, p[j]? = some x := ⟨_, List.getElem?_eq_getElem hlt⟩
      obtain ⟨b1, o1, _, rfl, hb1, ⟨sv, su, rfl, hsv, hsu⟩, hcl⟩ := Kind.sl_at HV.out hr
      have d0 : wr.cell? ⟨b1, o1 + j * 4, none⟩ = some (.bool r.head.no) := by rw [HB.out.cell hb1]; exact hcl 0 _ rfl
      have d1 : wr.cell? ⟨b1, o1 + j * 4 + 1, none⟩ = some (.string (bs r.head.name)) := by rw [HB.out.cell hb1]; exact hcl 1 _ rfl
      have d2 : wr.cell? ⟨b1, o1 + j * 4 + 2, none⟩ = some sv := by rw [HB.out.cell hb1]; exact hcl 2 _ rfl
      have d3 : wr.cell? ⟨b1, o1 + j * 4 + 3, none⟩ = some su := by rw [HB.out.cell hb1]; exact hcl 3 _ rfl
      have hbr : b1 < wr.heap.size := by omega
      obtain ⟨a2, c2, rfl⟩ := Kind.slice hsv
      obtain ⟨a3, c3, rfl⟩ := Kind.slice hsu
      have HSU := hide hsu
      have hlb := hsu.1.1
      have HN1 : Hid ((∀ a ∈ r.body, a.no = false) → ∀ q ∈ p.take (j + 1), ∀ a ∈ q.body, a.no = false) := fun h q hq => by
        rw [List.take_add_one, hr] at hq
        rcases List.mem_append.1 hq with hq | hq
        · exact HN.out q hq
        · simp at hq; rw [hq]; exact h
      have HB1 := hide (HB.out.alloc hwr (.cells #[.bool r.head.no, .string (bs r.head.name), .slice a2 r.head.terms.length c2, .slice a3 r.body.length c3] 43))
      clear hcl hr hsv hsu HN HB
      generalize bs r.head.name = nm at *
      generalize r.head.no = no at *
      go_wp2
      go_loopg [28] r.body.length (fun g i wr2 => ∃ q : Nat, q + g = r.body.length ∧ i = .int .i64 q ∧ Hid (∀ a ∈ r.body.take q, a.no = false) ∧ Hid (Below w.heap.size w wr2))
      case atStart => exact ⟨0, by omega, rfl, (fun a ha => by simp at ha), HB1⟩
      case round =>
        obtain ⟨q, hq, rfl, HNq, HBq⟩ := hrel
        clear HB1 d0 d1 d2 d3
        have hwr2 := HBq.out.size
        by_cases hlq : q < r.body.length
        · obtain ⟨a, ha⟩ : ∃ x, r.body[q]? = some x := ⟨_, List.getElem?_eq_getElem hlq⟩
          obtain ⟨b2, o2, _, rfl, hb2, ⟨tv, rfl, htv⟩, hcl⟩ := Kind.sl_at HSU.out ha
          have d0 : wr.cell? ⟨b2, o2 + q * 3, none⟩ = some (.bool a.no) := by rw [HBq.out.cell hb2]; exact hcl 0 _ rfl
          have d1 : wr.cell? ⟨b2, o2 + q * 3 + 1, none⟩ = some (.string (bs a.name)) := by rw [HBq.out.cell hb2]; exact hcl 1 _ rfl
          have d2 : wr.cell? ⟨b2, o2 + q * 3 + 2, none⟩ = some tv := by rw [HBq.out.cell hb2]; exact hcl 2 _ rfl
          have hbr2 : b2 < wr.heap.size := by omega
          obtain ⟨a4, c4, rfl⟩ := Kind.slice htv
          cases hno : a.no
          · have HN2 : Hid (∀ x ∈ r.body.take (q + 1), x.no = false) := fun x hx => by
              rw [List.take_add_one, ha] at hx
              rcases List.mem_append.1 hx with hx | hx
              · exact HNq.out x hx
              · simp at hx; rw [hx]; exact hno
            rw [hno] at d0
            clear hcl ha htv HNq hno
            generalize bs a.name = na at *
            go_wp2
            go_roundg (r.body.length - (q + 1))
            case measure => omega
            case rel => exact ⟨q + 1, by omega, by go_num, HN2, HBq.out.alloc hwr2 _⟩
          · rw [hno] at d0
            clear hcl ha htv HNq hno
            generalize bs a.name = na at *
            go_wp2
            go_ret
            exact ⟨rfl, HBq.out.alloc hwr2 _⟩
        · have HN2 : Hid (∀ x ∈ p.take (j + 1), ∀ a ∈ x.body, a.no = false) := by
            refine HN1.out ?_
            have := HNq.out
            rw [List.take_of_length_le (by omega)] at this
            exact this
          go_wp2
          go_roundg (p.length - (j + 1))
          case measure => omega
          case rel => exact ⟨j + 1, by omega, by go_num, HN2, HBq⟩
    · have hN2 : ∀ x ∈ p, ∀ a ∈ x.body, a.no = false := by
        have := HN.out
        rw [List.take_of_length_le (by omega)] at this
        exact this
      have HN2 := hide hN2
      have HAll := hide (naiveAllC p l (.slice pa p.length pc) (.slice fa l.length fc) wr (Kind.sl_below HV.out HB.out) (HF.out.below HB.out))
      obtain ⟨er2, M, hAP⟩ : ∃ er M, allP p l = (er, M) := ⟨_, _, rfl⟩
      rw [hAP] at HAll
      have HAP := hide hAP
      clear hN2 HN hAP
      go_wp2_with fail
      refine HAll.out.mono ?_
      rintro e w2 ⟨v2, er', rfl, hT2, hB2⟩
      have hF2 := hT2.told
      dsimp only at hF2
      have HF2 := hide hF2
      obtain ⟨her, _⟩ := hT2
      dsimp only at her
      have her' := her.symm
      clear her
      subst her'
      have HB2 := hide (below_trans HB.out hB2 HB.out.size)
      obtain ⟨a2, n2, c2, rfl⟩ : ∃ a n c, v2 = .slice a n c := by obtain ⟨a, c, e⟩ := sliceFacts HF2.out; exact ⟨a, _, c, e⟩
      have HJ := hide (joinC (.slice fa l.length fc) (.slice ga more.length gc) l more w2 (HF.out.below HB2.out) (HG.out.below HB2.out) hn)
      clear hB2 hF2 HAll HB
      go_wp2_with fail
      refine HJ.out.mono ?_
      rintro e w3 ⟨v3, S, rfl, hS, hO3, hL3⟩
      have hlS := hS.2.2
      rw [List.length_append] at hlS
      have HF3 : Hid (Facts w3 v3 S) := hO3.facts (by omega)
      have HB3 := hide (below_trans HB2.out hL3.below HB2.out.size)
      have HF23 := hide (HF2.out.later hL3)
      have HSub : Hid (∀ f ∈ l, f ∈ S) := fun f hf => (hS.2.1 f).2 (List.mem_append_left _ hf)
      have HAl3 := hide (naiveAllC p S (.slice pa p.length pc) v3 w3 (Kind.sl_below HV.out HB3.out) HF3.out)
      obtain ⟨er3, N3, hAP3⟩ : ∃ er M, allP p S = (er, M) := ⟨_, _, rfl⟩
      rw [hAP3] at HAl3
      have HAP3 := hide hAP3
      obtain ⟨a3, c3, rfl⟩ := sliceFacts HF3.out
      clear hS hlS hO3 hL3 HF3 HF2 HB2 HJ hAP3
      go_wp2_with fail
      refine HAl3.out.mono ?_
      rintro e w4 ⟨v4, er', rfl, hT4, hB4⟩
      have hF4 := hT4.told
      dsimp only at hF4
      have HF4 := hide hF4
      obtain ⟨her, _⟩ := hT4
      dsimp only at her
      have her' := her.symm
      clear her
      subst her'
      have HB4 := hide (below_trans HB3.out hB4 HB3.out.size)
      have HF24 := hide (HF23.out.below hB4)
      obtain ⟨a4, n4, c4, rfl⟩ : ∃ a n c, v4 = .slice a n c := by obtain ⟨a, c, e⟩ := sliceFacts HF4.out; exact ⟨a, _, c, e⟩
      clear hB4 hF4 HAl3 HB3 HF23
      by_cases h2 : er2 = 0
      · subst h2
        by_cases h3 : er3 = 0
        · subst h3
          simp only [if_true] at HF4 HF24
          have hls := all_least HN2.out HSub.out HAP.out HAP3.out
          obtain ⟨e5, x5, hA5, hx5, he5⟩ := all_again HN2.out HAP.out
          obtain ⟨_, _, hgN, _, _⟩ := all_model HAP3.out
          have HAl5 := hide (naiveAllC p M (.slice pa p.length pc) (.slice a2 n2 c2) w4 (Kind.sl_below HV.out HB4.out) HF24.out)
          rw [hA5] at HAl5
          have HX5 := hide hx5
          have HLs := hide hls
          have HUp := hide hgN.up
          clear hls hA5 hgN hx5 HN2 HAP HAP3 HSub
          go_wp2_with fail
          refine HAl5.out.mono ?_
          rintro e w5 ⟨v5, er', rfl, hT5, hB5⟩
          have hF5 := hT5.told
          dsimp only at hF5
          have HF5 := hide hF5
          obtain ⟨her, _⟩ := hT5
          dsimp only at her
          have her' := her.symm
          clear her
          subst her'
          have HB5 := hide (below_trans HB4.out hB5 HB4.out.size)
          have HF25 := hide (HF24.out.below hB5)
          have HF45 := hide (HF4.out.below hB5)
          obtain ⟨a5, n5, c5, rfl⟩ : ∃ a n c, v5 = .slice a n c := by obtain ⟨a, c, e⟩ := sliceFacts HF5.out; exact ⟨a, _, c, e⟩
          have HLc := hide (lessC (.slice a2 n2 c2) (.slice a4 n4 c4) M N3 w5 HF25.out HF45.out HUp.out)
          rw [less_none HLs.out] at HLc
          clear hB5 hF5 HAl5 HB4 HF24 HF4 HF45 HUp HLs
          go_wp2_with fail
          refine HLc.out.mono ?_
          rintro e w6 ⟨v6, rfl, hO6, hL6⟩
          obtain ⟨a6, c6, rfl⟩ := sliceFacts (hO6.facts (by simp))
          have HB6 := hide (below_trans HB5.out hL6.below HB5.out.size)
          have HF26 := hide (HF25.out.later hL6)
          have HF56 := hide (HF5.out.later hL6)
          clear hO6 hL6 HLc HB5 HF25 HF5
          simp only [List.length_nil]
          rcases he5 with he5 | he5
          · subst he5
            have hx := HX5.out rfl
            subst hx
            simp only [if_true] at HF56
            have HSm := hide (rSame (.slice a5 n5 c5) (.slice a2 n2 c2) _ w6 HF56.out HF26.out)
            clear HX5 HF56 HF26
            go_wp2_with fail
            refine HSm.out.mono ?_
            rintro e w7 ⟨rfl, hL7⟩
            have HB7 := hide (below_trans HB6.out hL7.below HB6.out.size)
            clear hL7 HSm
            go_wp2
            go_ret
            exact ⟨rfl, HB7.out⟩
          · subst he5
            clear HX5 HF56 HF26
            go_wp2
            go_ret
            exact ⟨rfl, HB6.out⟩
        · have hne : (er3 != 0) = true := by simpa using h3
          clear HF4 HF24 HAP HAP3 HSub HN2
          go_wp2
          go_ret
          exact ⟨rfl, HB4.out⟩
      · have hne : (er2 != 0) = true := by simpa using h2
        clear HF4 HF24 HAP HAP3 HSub HN2
        go_wp2
        go_ret
        exact ⟨rfl, HB4.out⟩

end Go.Proofs.YtbohggoeebhdmaaGreatDoor

/- The document's answer: the walks of ref.Small, Sign, Word, Named, Wrong. -/
namespace Go.Proofs.YtbohggoeebhdmaaGreatDoor
open Go.RowKit Go.Sort

set_option maxHeartbeats 400000 in
theorem rSmall (x : Int) (w : World) : Calls Tryz.prog 114 #[.int .u8 x] w fun e w' => e = .returned (.bool (smallB x)) ∧ w' = w := by
  go_enter Tryz.func114, Tryz.ntmps114
  go_wp2
  all_goals
    go_ret
    refine ⟨ret_bool ?_, rfl⟩
    rw [Bool.eq_iff_iff]
    simp [smallB]
    omega

set_option maxHeartbeats 400000 in
theorem rSign (x : Int) (w : World) : Calls Tryz.prog 145 #[.int .u8 x] w fun e w' => e = .returned (.bool (signB x)) ∧ w' = w := by
  cases hs : smallB x
  · go_enter Tryz.func145, Tryz.ntmps145
    go_wp2_with (go_at_call 114; refine (rSmall _ _).mono ?_; rintro e w' ⟨rfl, rfl⟩; rw [hs])
    all_goals
      go_ret
      refine ⟨ret_bool ?_, rfl⟩
      rw [Bool.eq_iff_iff]
      simp [signB, hs]
      omega
  · go_enter Tryz.func145, Tryz.ntmps145
    go_wp2_with (go_at_call 114; refine (rSmall _ _).mono ?_; rintro e w' ⟨rfl, rfl⟩; rw [hs])
    go_ret
    exact ⟨ret_bool (by simp [signB, hs]), rfl⟩

theorem bytesOf (s : ByteArray) (w : World) : ∃ cp arr fr, (convert 9 154 (.string s)).run Tryz.prog w = .ok (.slice (some ⟨w.heap.size, 0, none⟩) s.size cp) (w.drew.alloc (.cells arr 5 fr)) ∧
    ∀ (j : Nat) (h : j < s.size), (w.drew.alloc (.cells arr 5 fr)).cell? ⟨w.heap.size, j, none⟩ = some (.int .u8 (s[j].toNat : Int)) := by
  refine ⟨_, _, _, run_bytes_of_string (P := Tryz.prog) w 9 154 5 s Tryz.underlying9 Tryz.underlying154 Tryz.underlying5, fun j h => ?_⟩
  rw [show w.heap.size = w.drew.heap.size from rfl, World.cell?_alloc_mark]
  rw [bytesRow_at s _ j h]
  rfl

/-- Signs alone, not too many. -/
def wordB (s : ByteArray) : Bool := restB s 0 && decide (0 < s.size ∧ s.size ≤ 12)

set_option maxHeartbeats 1000000 in
theorem rWord (s : ByteArray) (w : World) (hs : s.size ≤ 9223372036854775807) : Calls Tryz.prog 113 #[.string s] w fun e w' => e = .returned (.bool (wordB s)) ∧ Later w w' := by
  obtain ⟨cp, arr, fr, hcv, hcell⟩ := bytesOf s w
  have HC := hide hcell
  clear hcell
  unfold wordB
  go_enter Tryz.func113, Tryz.ntmps113
  go_wp2
  go_loop [8] (fun i => ∃ k : Nat, k ≤ s.size ∧ i = .int .i64 k ∧ Hid (restB s 0 = restB s k)) (fun i => s.size - (intOf i).toNat)
  case atStart => exact ⟨0, by omega, rfl, (rfl : _ = _)⟩
  case round =>
    obtain ⟨k, hk, rfl, HE⟩ := hrel
    by_cases hlt : k < s.size
    · have hcl : (w.alloc (.cells arr 5 fr)).cell? ⟨w.heap.size, k, none⟩ = some (.int .u8 (s[k].toNat : Int)) := HC.out k hlt
      have hltz : (k : Int) < (s.size : Int) := by omega
      have ha := restB_step hlt
      generalize (s[k].toNat : Int) = ch at *
      cases hc : signB ch
      · have F : Hid (restB s 0 = false) := by show _ = _; rw [HE.out, ha, hc]; rfl
        clear ha
        go_wp2_with (go_at_call 145; refine (rSign _ _).mono ?_; rintro e w' ⟨rfl, rfl⟩; rw [hc])
        go_ret
        exact ⟨ret_bool (by rw [F.out]; rfl), (by repeat (first | exact Later.refl _ | assumption | refine Later.drewN ?_ _ | refine Later.drew ?_ | refine Later.alloc ?_ _ | refine Later.grow ?_ _))⟩
      · have F : Hid (restB s 0 = restB s (k + 1)) := by show _ = _; rw [HE.out, ha, hc]; rfl
        clear ha
        go_wp2_with (go_at_call 145; refine (rSign _ _).mono ?_; rintro e w' ⟨rfl, rfl⟩; rw [hc])
        go_round
        case rel => exact ⟨k + 1, by omega, by go_num, F⟩
        case measure => simp [intOf]; omega
    · have F : Hid (restB s 0 = true) := by show _ = _; rw [HE.out, restB_end (by omega)]
      by_cases h0 : 0 < s.size
      · have h0z : (0 : Int) < (s.size : Int) := by omega
        go_wp2
        all_goals
          go_ret
          exact ⟨ret_bool (by rw [F.out, Bool.eq_iff_iff]; simp; omega), (by repeat (first | exact Later.refl _ | assumption | refine Later.drewN ?_ _ | refine Later.drew ?_ | refine Later.alloc ?_ _ | refine Later.grow ?_ _))⟩
      · have h0z : ¬ (0 : Int) < (s.size : Int) := by omega
        go_wp2
        go_ret
        exact ⟨ret_bool rfl, (by repeat (first | exact Later.refl _ | assumption | refine Later.drewN ?_ _ | refine Later.drew ?_ | refine Later.alloc ?_ _ | refine Later.grow ?_ _))⟩

theorem small_sign {x : Int} (h : smallB x = true) : signB x = true := by simp [signB, h]

theorem wordB_no {s : ByteArray} (h : wordB s = false) : namedB s = false := by
  unfold wordB at h
  by_cases hr : 0 < s.size ∧ s.size ≤ 12
  · rw [decide_eq_true hr, Bool.and_true, restB_step hr.1] at h
    rw [namedB_in hr.1 hr.2]
    cases hb : smallB s[0].toNat
    · rfl
    · rw [small_sign hb, Bool.true_and] at h
      rw [h]; rfl
  · unfold namedB; rw [decide_eq_false hr]; rfl

theorem wordB_yes {s : ByteArray} (h : wordB s = true) : ∃ h0 : 0 < s.size, namedB s = smallB s[0].toNat := by
  unfold wordB at h
  rw [Bool.and_eq_true, decide_eq_true_eq] at h
  refine ⟨h.2.1, ?_⟩
  rw [namedB_in h.2.1 h.2.2]
  have h1 := h.1
  rw [restB_step h.2.1, Bool.and_eq_true] at h1
  rw [h1.2, Bool.and_true]

set_option maxHeartbeats 400000 in
theorem rNamed (s : ByteArray) (w : World) (hs : s.size ≤ 9223372036854775807) : Calls Tryz.prog 67 #[.string s] w fun e w' => e = .returned (.bool (namedB s)) ∧ Later w w' := by
  cases hw : wordB s
  · have hn := wordB_no hw
    rw [hn]
    go_enter Tryz.func67, Tryz.ntmps67
    go_wp2_with (go_at_call 113; refine (rWord _ _ hs).mono ?_; rintro e w1 ⟨rfl, hL⟩; rw [hw])
    go_ret
    exact ⟨rfl, hL⟩
  · obtain ⟨h0, hn⟩ := wordB_yes hw
    rw [hn]
    have h0z : (0 : Int) < (s.size : Int) := by omega
    go_enter Tryz.func67, Tryz.ntmps67
    go_wp2_with (first
      | (go_at_call 113; refine (rWord _ _ hs).mono ?_; rintro e w1 ⟨rfl, hL⟩; rw [hw])
      | (go_at_call 114; refine (rSmall _ _).mono ?_; rintro e w2 ⟨rfl, rfl⟩))
    go_ret
    exact ⟨rfl, by assumption⟩

/-- Texts as long as Go's may be. -/
def okF (f : FactD) : Prop := f.1.size ≤ 9223372036854775807 ∧ ∀ s ∈ f.2, s.size ≤ 9223372036854775807

theorem okF_getD {f : FactD} (h : okF f) (k : Nat) : (f.2.getD k ByteArray.empty).size ≤ 9223372036854775807 := by
  rw [List.getD_eq_getElem?_getD]
  cases e : f.2[k]? with
  | none => simp
  | some s => exact h.2 s (List.mem_of_getElem? e)

set_option maxHeartbeats 1000000 in
theorem rWrong (v : Value) (f : FactD) (w : World) (h : FactV w v f) (hok : okF f) :
    Calls Tryz.prog 71 #[v] w fun e w' => e = .returned (.int .i64 (wrongF f)) ∧ Later w w' := by
  obtain ⟨s, rfl, l0, a, c, rfl, hc⟩ := h
  have HC := hide hc
  have HOK := hide hok
  have hn0 := hok.1
  clear hc hok
  obtain ⟨n, x⟩ := f
  unfold wrongF
  dsimp only at *
  cases hn : namedB n
  · go_enter Tryz.func71, Tryz.ntmps71
    go_wp2_with (go_at_call 67; refine (rNamed _ _ hn0).mono ?_; rintro e w1 ⟨rfl, hL⟩; rw [hn])
    go_ret
    exact ⟨rfl, ((Later.refl _).alloc _).trans hL⟩
  · by_cases h4 : 4 < x.length
    · rw [if_pos h4]
      go_enter Tryz.func71, Tryz.ntmps71
      go_wp2_with fail
      refine (rNamed _ _ hn0).mono ?_
      rintro e w1 ⟨rfl, hL⟩
      rw [hn]
      have z1 : w1.cell? ⟨w.heap.size, 1, none⟩ = some (.slice a x.length c) := by rw [hL.cell (by simp)]; simp
      go_wp2
      go_ret
      exact ⟨rfl, ((Later.refl _).alloc _).trans hL⟩
    · rw [if_neg h4]
      simp only [Bool.not_true, Bool.false_eq_true, if_false]
      generalize hres : (if noName x 0 = true then (7 : Int) else 0) = r
      have HRES := hide hres
      clear hres
      go_enter Tryz.func71, Tryz.ntmps71
      go_wp2_with fail
      refine (rNamed _ _ hn0).mono ?_
      rintro e w1 ⟨rfl, hL⟩
      rw [hn]
      have hL0 : Later w w1 := ((Later.refl _).alloc _).trans hL
      have z1 : w1.cell? ⟨w.heap.size, 1, none⟩ = some (.slice a x.length c) := by rw [hL.cell (by simp)]; simp
      go_wp2
      go_loopw [16] (fun i wr => ∃ k : Nat, k ≤ x.length ∧ i = .int .i64 k ∧ Later w1 wr ∧ Hid (noName x 0 = noName x k)) (fun i _ => x.length - (intOf i).toNat)
      case atStart => exact ⟨0, by omega, rfl, Later.refl _, (rfl : _ = _)⟩
      case round =>
        obtain ⟨k, hk, rfl, hLr, HE⟩ := hrel
        by_cases hlt : k < x.length
        · obtain ⟨b, off, rfl, hb, hcell⟩ := HC.out (by intro e; rw [e] at hlt; simp at hlt)
          have hltz : (k : Int) < (x.length : Int) := by omega
          have g1 := hcell k hlt
          rw [← (hL0.trans hLr).cell (p := ⟨b, off + k, none⟩) hb] at g1
          have hs := noName_step hlt
          have hsz := okF_getD HOK.out k
          dsimp only at hsz
          clear hcell
          generalize x.getD k ByteArray.empty = s at *
          cases hns : namedB s
          · have F : Hid (noName x 0 = true) := by show _ = _; rw [HE.out, hs, hns]; rfl
            clear hs
            go_wp2_with (go_at_call 67; refine (rNamed _ _ hsz).mono ?_; rintro e w2 ⟨rfl, hL2⟩; rw [hns])
            go_ret
            exact ⟨ret_int (by rw [← HRES.out, F.out]; rfl), hL0.trans (hLr.trans hL2)⟩
          · have F : Hid (noName x 0 = noName x (k + 1)) := by show _ = _; rw [HE.out, hs, hns]; rfl
            clear hs
            go_wp2_with (go_at_call 67; refine (rNamed _ _ hsz).mono ?_; rintro e w2 ⟨rfl, hL2⟩; rw [hns])
            go_roundw
            case rel => exact ⟨k + 1, by omega, by go_num, hLr.trans hL2, F⟩
            case measure => simp [intOf]; omega
        · have F : Hid (noName x 0 = false) := by show _ = _; rw [HE.out, noName_end (by omega)]
          go_wp2
          go_ret
          exact ⟨ret_int (by rw [← HRES.out, F.out]; rfl), hL0.trans hLr⟩

end Go.Proofs.YtbohggoeebhdmaaGreatDoor

/- Facts and lists of facts among a call's arguments, opened. -/
namespace Go.Proofs.YtbohggoeebhdmaaGreatDoor
open Go.RowKit Go.Sort Go.ChangeShapes Go.WideShapes Go.ChangeAt

theorem cellsFact : Tryz.prog.cellsOf 54 = 2 := by kernel_rfl
theorem cellsStr : Tryz.prog.cellsOf 9 = 1 := by kernel_rfl
theorem cellsStrs : Tryz.prog.cellsOf 52 = 1 := by kernel_rfl
theorem ownT : ownKnob Tryz.prog.godebug = none := by kernel_rfl
theorem laidOutT : laidOutB Tryz.prog = true := by kernel_rfl

variable {H : Type} {enc : TypeId × Value → H} {W : World}

theorem addr_plain {a : Addr} {i : Nat} {v : Value} (h : W.cell? (a.add i) = some v) (hi : i = 0) : ∃ b off, a = ⟨b, off, none⟩ := by
  subst hi
  obtain ⟨b, off, spot⟩ := a
  have hspot : spot = none := by simpa [Addr.add] using World.cell?_spot h
  subst hspot
  exact ⟨b, off, rfl⟩

/-- A slice of texts, read: its texts. -/
theorem trodStrs {n : Nat} {v : Value} {x : DataW H × List MemPlace} (h : DataW.trod enc Tryz.prog W 0 (fun _ => true) true n 52 [v] = some x) (hb : ∀ es sp, x.1 = .slice es sp → es.length ≤ 8796093022208) : ∃ l, Strs W v l ∧ ∀ s ∈ l, s.size ≤ 9223372036854775807 := by
  rcases open_strings Tryz.underlying52 Tryz.underlying9 cellsStr h with ⟨hcs, hx⟩ | ⟨a, len, cap, ss, hcs, _, hl, hm, hz, hx, hcell, hws⟩
  · simp only [List.cons.injEq, and_true] at hcs
    exact ⟨[], ⟨by simp, none, 0, by simpa using hcs, fun e => absurd rfl e⟩, fun s hs => by cases hs⟩
  · simp only [List.cons.injEq, and_true] at hcs
    simp only [if_true] at hz
    have hlen : (ss.take len).length = len := by rw [List.length_take]; omega
    have hbd := hb _ _ (by rw [hx])
    rw [strs, List.length_map] at hbd
    refine ⟨ss.take len, ⟨hbd, some a, cap, by rw [hlen]; exact hcs, fun hne => ?_⟩, fun s hs => by simpa [maxLen] using hws s (List.mem_of_mem_take hs)⟩
    have h0 : 0 < len := by
      refine Nat.pos_of_ne_zero fun e => hne ?_
      rw [e]; rfl
    obtain ⟨b, off, rfl⟩ := addr_plain (hcell 0 (by omega)) rfl
    refine ⟨b, off, rfl, World.block_lt_of_cell? W _ (hcell 0 (by omega)), fun i hi => ?_⟩
    rw [hlen] at hi
    have := hcell i (by omega)
    rw [Addr.add_lit] at this
    rw [this, List.getD_eq_getElem?_getD, List.getD_eq_getElem?_getD, List.getElem?_take, if_pos hi]

set_option maxRecDepth 100000 in
/-- A fact, read. -/
theorem trodFact {n : Nat} {cs : List Value} {x : DataW H × List MemPlace} (h : DataW.trod enc Tryz.prog W 0 (fun _ => true) true n 54 cs = some x) (hb : ∀ y es sp, x.1 = .agg [y, .slice es sp] → es.length ≤ 8796093022208) : ∃ f c0 c1, cs = [c0, c1] ∧ FactV W (.agg #[c0, c1]) f ∧ okF f := by
  obtain ⟨y0, y1, m, hx, hl, h0, h1⟩ := trod_struct2 Tryz.underlying54 h
  rw [cellsFact] at hl
  match cs, hl with
  | [c0, c1], _ =>
    have e0 : Tryz.prog.cellsOf 9 = 1 := cellsStr
    have e1 : Tryz.prog.cellsOf 52 = 1 := cellsStrs
    simp only [e0, e1, List.drop_zero, List.drop_succ_cons, List.take_succ_cons, List.take_zero] at h0 h1
    obtain ⟨s, hs, hy0, hsz⟩ := DataW.trod_string Tryz.underlying9 h0
    simp only [List.cons.injEq, and_true] at hs
    obtain ⟨l, hl, hlk⟩ := trodStrs h1 (fun es sp e => hb y0.1 es sp (by rw [hx]; simp [e]))
    exact ⟨(s, l), c0, c1, rfl, ⟨c1, by rw [hs], hl⟩, by simpa [maxLen] using hsz, hlk⟩

set_option maxRecDepth 100000 in
theorem openFact {b0 : Nat} {v : Value} {d : DataW H} {p : List MemPlace} (hv : Value.okWide Tryz.prog W .any b0 54 v) (h : DataW.Trod enc Tryz.prog W 0 (fun _ => true) true 54 v d p) (hb : ∀ y es sp, d = .agg [y, .slice es sp] → es.length ≤ 8796093022208) : ∃ f, FactV W v f ∧ okF f := by
  obtain ⟨cs, rfl, hsz⟩ := okWide_struct Tryz.underlying54 hv
  obtain ⟨fuel, hf⟩ := h
  obtain ⟨f, c0, c1, e, hF, hk⟩ := trodFact (by simpa [Value.cells] using hf) hb
  refine ⟨f, ?_, hk⟩
  have : cs = #[c0, c1] := by cases cs; simp_all
  rw [this]; exact hF

end Go.Proofs.YtbohggoeebhdmaaGreatDoor
