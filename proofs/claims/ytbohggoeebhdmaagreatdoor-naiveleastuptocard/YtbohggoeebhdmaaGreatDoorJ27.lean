/- Texts of this claim, one behind the other. -/
import Derived.Test.YtbohggoeebhdmaaGreatDoorJ5
import Derived.Test.YtbohggoeebhdmaaGreatDoorJ13
import Derived.Test.YtbohggoeebhdmaaGreatDoorJ20
import Derived.Shelf.Spec.SlicesGrow
import Derived.Test.YtbohggoeebhdmaaGreatDoorProg
/- Rows of rules that a call owns, what they lead to from before it. Nothing of the program but types' numbers. -/
namespace Go.Proofs.YtbohggoeebhdmaaGreatDoor
open Go.RowKit Go.Sort

theorem infoRule4 : ∃ i, Tryz.prog.info? 43 = some i ∧ i.zero = some (.agg #[.bool false, .string ByteArray.empty, .slice none 0 0, .slice none 0 0]) ∧ i.size = 4 ∧ i.bytes = 72 := ⟨Tryz.t43, by kernel_rfl, by kernel_rfl, by kernel_rfl, by kernel_rfl⟩

/-- A row of rules of a call's own; what they lead to was there in w0. -/
def RowU (w0 : World) (lo : Nat) (w : World) (v : Value) (l : List RuleD) : Prop :=
  ∃ xs, w.ownsRow lo 43 4 v l.length xs ∧ ∀ i a, l[i]? = some a → ∃ c, ruleK.is Anyw w0 c a ∧ ∀ j u, c[j]? = some u → xs[i * 4 + j]? = some u

theorem RowU.nil (w0 : World) (lo : Nat) (w : World) : RowU w0 lo w (.slice none 0 0) [] := ⟨[], World.ownsRow_nil w _ _ _, fun i a h => by simp at h⟩

theorem RowU.slice {w0 w : World} {lo : Nat} {v : Value} {l : List RuleD} (h : RowU w0 lo w v l) : ∃ a cap, v = .slice a l.length cap := by
  obtain ⟨xs, ho, _⟩ := h
  rcases ho.2 with ⟨rfl, e⟩ | ⟨g, cap, cur, rfl, _⟩
  · exact ⟨none, 0, by rw [e]⟩
  · exact ⟨_, cap, rfl⟩

theorem RowU.lo {w0 w : World} {lo : Nat} {v : Value} {l : List RuleD} (h : RowU w0 lo w v l) : ∀ k, v.ownBlock = some k → lo ≤ k ∧ k < w.heap.size := fun k e => by
  obtain ⟨xs, ho, _⟩ := h; exact ho.lt k e

/-- One rule more. -/
theorem RowU.more {w0 w : World} {lo : Nat} {v : Value} {l : List RuleD} (h : RowU w0 lo w v l) (hs : lo ≤ w.heap.size) {c : List Value} {a : RuleD} (hc : ruleK.is Anyw w0 c a) (hl : (l.length + 1) * 72 ≤ 140737488355328) :
    ∃ v' w', (Builtin.append_ #[23, 23] 23 #[v, .slice (some ⟨w.heap.size, 0, none⟩) 1 1]).run Tryz.prog (w.alloc (.cells c.toArray 43)) = .ok v' w' ∧ RowU w0 lo w' v' (l ++ [a]) ∧ (w.alloc (.cells c.toArray 43)).grownBy w' v.ownBlock ∧ w.drawn ≤ w'.drawn := by
  obtain ⟨i, i1, i2, i3, i4⟩ := infoRule4
  obtain ⟨xs, ho, hx⟩ := h
  have hcl : c.length = 4 := ruleK.len hc
  have hnews : ∀ j u, c[j]? = some u → (w.alloc (.cells c.toArray 43)).cell? ((⟨w.heap.size, 0, none⟩ : Addr).add j) = some u := by
    intro j u hu
    rw [Addr.add_lit, Nat.zero_add, cell_of_row _ w.heap.size j c.toArray 43 (0, 0) (heap_alloc_new w _)]
    simpa using hu
  obtain ⟨v', w', hrun, r1, r2, r3, _⟩ := append_own (P := Tryz.prog) (w.alloc (.cells c.toArray 43)) lo 23 23 43 i _ 4 72 Tryz.underlying23 i1 i2 i3 i4 rfl (by omega) v l.length xs (ho.alloc _) ⟨w.heap.size, 0, none⟩ 1 1 c (by rw [hcl]) hnews
    (ruleK.one hc) (by simp only [maxLen]; omega) hl (by simp; omega)
  refine ⟨v', w', hrun, ⟨xs ++ c, by simpa using r1, fun j y hj => ?_⟩, r2, r3⟩
  have hxl : xs.length = l.length * 4 := ho.1
  by_cases hjl : j < l.length
  · rw [List.getElem?_append_left hjl] at hj
    obtain ⟨d, d1, d2⟩ := hx j y hj
    refine ⟨d, d1, fun q u hu => ?_⟩
    have := d2 q u hu
    rw [List.getElem?_append_left (List.getElem?_eq_some_iff.1 this).1]; exact this
  · rw [List.getElem?_append_right (by omega)] at hj
    have hj' : j = l.length := by
      have := (List.getElem?_eq_some_iff.1 hj).1
      simp at this; omega
    subst hj'
    simp at hj
    subst hj
    refine ⟨c, hc, fun q u hu => ?_⟩
    rw [List.getElem?_append_right (by omega), hxl, Nat.add_sub_cancel_left]; exact hu

theorem RowU.sl {w0 w : World} {lo : Nat} {v : Value} {l : List RuleD} (h : RowU w0 lo w v l) (hb : Below w0.heap.size w0 w) (hl : l.length ≤ 8796093022208) : ruleK.sl Anyw w v l := by
  obtain ⟨xs, ho, hx⟩ := h
  rcases ho.2 with ⟨rfl, e⟩ | ⟨g, cap, cur, rfl, hbg, hg, hnc, _⟩
  · have : l = [] := List.eq_nil_of_length_eq_zero e
    subst this
    exact ruleK.sl_nil _ _ _ _
  · refine ⟨⟨hl, hnc⟩, _, cap, rfl, fun _ => ⟨g, 0, rfl, trivial, (Array.getElem?_eq_some_iff.1 hg).1, fun i x hi => ?_⟩⟩
    obtain ⟨c, c1, c2⟩ := hx i x hi
    refine ⟨c, ruleK.kept c1 hb.size fun k hk _ => hb.block k hk, fun j u hu => ?_⟩
    have := ho.cells (g := g) rfl _ u (c2 j u hu)
    rw [Addr.add_lit] at this
    rw [Nat.add_assoc]; exact this

theorem RowU.one {w0 w : World} {lo : Nat} {c : List Value} {a : RuleD} (hc : ruleK.is Anyw w0 c a) (hs : lo ≤ w.heap.size) : RowU w0 lo (w.alloc (.cells c.toArray 43)) (.slice (some ⟨w.heap.size, 0, none⟩) 1 1) [a] := by
  have hcl : c.length = 4 := ruleK.len hc
  refine ⟨c, ⟨by rw [hcl]; rfl, Or.inr ⟨w.heap.size, 1, c.toArray, rfl, hs, heap_alloc_new _ _, by simp, by simp [maxLen], by simp [hcl], by show c.take 4 = c; rw [← hcl]; simp⟩⟩, fun i x hi => ?_⟩
  cases i with
  | zero =>
    simp at hi
    subst hi
    exact ⟨c, hc, fun j u hu => by rw [Nat.zero_mul, Nat.zero_add]; exact hu⟩
  | succ i => simp at hi

/-- Apart from block b, that lies behind what was there and ahead of the row. -/
theorem RowU.slB {w0 w : World} {lo b : Nat} {v : Value} {l : List RuleD} (h : RowU w0 lo w v l) (hb : Below w0.heap.size w0 w) (hl : l.length ≤ 8796093022208) (h1 : w0.heap.size ≤ b) (h2 : b < lo) : ruleK.sl (fun k => k ≠ b) w v l := by
  obtain ⟨xs, ho, hx⟩ := h
  rcases ho.2 with ⟨rfl, e⟩ | ⟨g, cap, cur, rfl, hbg, hg, hnc, _⟩
  · have : l = [] := List.eq_nil_of_length_eq_zero e
    subst this
    exact ruleK.sl_nil _ _ _ _
  · refine ⟨⟨hl, hnc⟩, _, cap, rfl, fun _ => ⟨g, 0, rfl, by show g ≠ b; omega, (Array.getElem?_eq_some_iff.1 hg).1, fun i x hi => ?_⟩⟩
    obtain ⟨c, c1, c2⟩ := hx i x hi
    refine ⟨c, ruleK.kept (ruleK.mono c1 fun k hk _ => (by omega : k ≠ b)) hb.size fun k hk _ => hb.block k hk, fun j u hu => ?_⟩
    have := ho.cells (g := g) rfl _ u (c2 j u hu)
    rw [Addr.add_lit] at this
    rw [Nat.add_assoc]; exact this

end Go.Proofs.YtbohggoeebhdmaaGreatDoor

/- The document's answer: the walk of ref.Same, where the two lists hold the same. -/
namespace Go.Proofs.YtbohggoeebhdmaaGreatDoor
open Go.RowKit Go.Sort

set_option maxHeartbeats 1000000 in
theorem rSame (v1 v2 : Value) (l : List FactD) (w : World) (h1 : Facts w v1 l) (h2 : Facts w v2 l) :
    Calls Tryz.prog 14 #[v1, v2] w fun e w' => e = .returned (.bool true) ∧ Later w w' := by
  have mx := mixed
  have H1 := hide h1
  have H2 := hide h2
  obtain ⟨a, cap, rfl, hn, hz⟩ := h1.addr
  obtain ⟨a2, cap2, rfl, _, hz2⟩ := h2.addr
  clear h1 h2
  go_enter Tryz.func14, Tryz.ntmps14
  go_wp2
  go_loopw [13] (fun i wr => ∃ k : Nat, k ≤ l.length ∧ i = .int .i64 k ∧ Later w wr) (fun i _ => l.length - (intOf i).toNat)
  case atStart => exact ⟨0, by omega, rfl, Later.refl _⟩
  case round =>
    obtain ⟨k, hk, rfl, hL⟩ := hrel
    by_cases hlt : k < l.length
    · rcases hz with rfl | ⟨b, off, rfl⟩
      · simp at hlt
      rcases hz2 with rfl | ⟨b2, off2, rfl⟩
      · simp at hlt
      have hltz : (k : Int) < (l.length : Int) := by omega
      obtain ⟨ax, lx, cx, g1, g2, fx⟩ := (H1.out.later hL).grown hlt
      obtain ⟨ay, ly, cy, g3, g4, fy⟩ := (H2.out.later hL).grown hlt
      have hE : ∀ q os, Calls Tryz.prog 43 #[.agg #[.string (l.getD k noFact).1, .slice ax lx cx], .agg #[.string (l.getD k noFact).1, .slice ay ly cy]] (grow (wr.drewN q) os) fun e w'' => e = .returned (.bool true) ∧ Later (grow (wr.drewN q) os) w'' :=
        fun q os => (rEqual _ _ _ _ _ (fx.later ⟨q, os, rfl⟩) (fy.later ⟨q, os, rfl⟩)).mono fun e w' ⟨he, hw⟩ => ⟨by rw [he, sameF_iff.2 rfl], hw⟩
      have HE := hide hE
      clear hE fx fy
      generalize (l.getD k noFact).1 = nk at *
      go_wp2
      go_quiet_grown ((go_at_call 43; exact Calls.grown_of (HE.out _ _)))
      go_wp2
      go_roundw
      case rel => exact ⟨k + 1, by omega, by go_num, hL.trans ⟨_, _, rfl⟩⟩
      case measure => simp [intOf]; omega
    · go_wp2
      go_ret
      exact ⟨rfl, hL⟩

end Go.Proofs.YtbohggoeebhdmaaGreatDoor

/- The walk of NaiveRules. -/
namespace Go.Proofs.YtbohggoeebhdmaaGreatDoor
open Go.RowKit Go.Sort Go.Maps

theorem turned_rule {l : List RuleD} {i : Nat} {a : RuleD} (h : l[l.length - 1 - i]? = some a) (hi : i < l.length) : l.reverse.take (i + 1) = l.reverse.take i ++ [a] := by
  rw [List.take_add_one]
  congr 1
  rw [List.getElem?_reverse hi, h]; rfl

theorem fitF_turned (p : List RuleD) (f : FactB) : fitF p.reverse f = fitF p f := by
  unfold fitF; rw [List.all_reverse]

theorem fitFrom_congr {p q : List RuleD} (h : ∀ f, fitF p f = fitF q f) (l : List FactB) : ∀ n k, fitFrom p l n k = fitFrom q l n k
  | 0, _ => rfl
  | n + 1, k => by unfold fitFrom; rw [h, fitFrom_congr h l n]

theorem facts_turned (p : List RuleD) (l : List FactB) : factsP p.reverse l = factsP p l := by
  unfold factsP; rw [fitFrom_congr (fitF_turned p)]

/-- Rules in whatever order. -/
theorem all_turned5 {p : List RuleD} {l : List FactB} (hp : RightP p) (h4 : (allP p l).1 ≠ 4) (h4' : (allP p.reverse l).1 ≠ 4) : allP p.reverse l = allP p l := by
  obtain ⟨hs, ht⟩ := strata_turned hp
  unfold allP at h4 h4' ⊢
  rw [hs] at h4' ⊢
  rw [facts_turned] at h4' ⊢
  by_cases h : (strataP p).2.1 ≠ 0
  · rw [if_pos h, if_pos h]
  · rw [if_neg h] at h4 h4' ⊢
    rw [if_neg h]
    by_cases h2 : (factsP p l).1 ≠ 0
    · rw [if_pos h2, if_pos h2]
    · rw [if_neg h2] at h4 h4' ⊢
      rw [if_neg h2]
      obtain ⟨τ, hτ, e1, e2⟩ := ht (by simpa using h)
      rw [e1] at h4 ⊢
      rw [e2] at h4' ⊢
      have hc : countP (p.reverse.map fun r => τ r.head.name) = countP (p.map fun r => τ r.head.name) := countP_congr fun s => by simp [List.mem_map]
      rw [hc] at h4' ⊢
      exact (run_same hp (fun r => List.mem_reverse.symm) (fun r => τ r.head.name) _ 0 (facts_good (by simpa using h2)) h4 h4').symm

theorem facts_none (w : World) : Facts w (.slice none 0 0) [] := ⟨by simp, _, 0, rfl, fun h => absurd rfl h⟩

/-- What All answers is facts, whatever it tells. -/
theorem OnceT.facts {w : World} {v : Value} {er : Int} {a : Int × List FactB} (h : OnceT w v er a) : Facts w v (if a.1 = 0 then a.2 else []) := by
  obtain ⟨_, h1, h2⟩ := h
  by_cases e : a.1 = 0
  · rw [if_pos e]; exact h2 e
  · rw [if_neg e, h1 e]; exact facts_none w

set_option maxRecDepth 100000 in
set_option maxHeartbeats 4000000 in
theorem naiveRulesW (pv fv : Value) (p : List RuleD) (l : List FactB) (w : World) (m : Int) (hm : w.cell? ⟨3, 0, none⟩ = some (.int .i64 m)) (hv : ruleK.sl Anyw w pv p) (hf : Facts w fv l) (hpl : p.length * 72 ≤ 140737488355328) :
    Calls Tryz.prog 7 #[pv, fv] w fun e w' => e = .returned (.bool true) ∧ Below w.heap.size w w' := by
  have HA := hide (alive5 w m hm)
  obtain ⟨pa, pc, rfl⟩ := Kind.slice hv
  obtain ⟨fa, fc, rfl⟩ := sliceFacts hf
  have HV := hide hv
  have HF := hide hf
  have hpl0 := hv.1.1
  clear hv hf hm
  go_enter Tryz.func7, Tryz.ntmps7
  go_wp2_with fail
  refine HA.out.mono ?_
  rintro e w1 ⟨rfl, hB1⟩
  have HB1 := hide hB1
  have HV1 := hide (Kind.sl_below HV.out hB1)
  have HF1 := hide (HF.out.below hB1)
  clear HA hB1 HV HF
  go_wp2
  go_loopg [5, 15] p.length (fun g o i wr => ∃ j : Nat, j + g = p.length ∧ i = .int .i64 j ∧ Hid (RowU w1 w1.heap.size wr o (p.reverse.take j)) ∧ Hid (Later w1 wr))
  case atStart => exact ⟨0, by omega, rfl, RowU.nil _ _ _, Later.refl _⟩
  case round =>
    obtain ⟨j, hj, rfl, HO, HL⟩ := hrel
    obtain ⟨ao, no', co, rfl⟩ : ∃ a n c, u5 = .slice a n c := by obtain ⟨a, c, e⟩ := RowU.slice HO.out; exact ⟨a, _, c, e⟩
    by_cases hlt : j < p.length
    · obtain ⟨t, ht⟩ : ∃ x, p[p.length - 1 - j]? = some x := ⟨_, List.getElem?_eq_getElem (by omega)⟩
      obtain ⟨b2, o2, c, rfl, hb2, hcis, hc⟩ := Kind.sl_at HV1.out ht
      have hcis' := hcis
      obtain ⟨sv, bv, rfl, hsv, hbv⟩ := hcis
      have d0 : wr.cell? ⟨b2, o2 + (p.length - 1 - j) * 4, none⟩ = some (.bool t.head.no) := by rw [HL.out.cell hb2]; exact hc 0 _ rfl
      have d1 : wr.cell? ⟨b2, o2 + (p.length - 1 - j) * 4 + 1, none⟩ = some (.string (bs t.head.name)) := by rw [HL.out.cell hb2]; exact hc 1 _ rfl
      have d2 : wr.cell? ⟨b2, o2 + (p.length - 1 - j) * 4 + 2, none⟩ = some sv := by rw [HL.out.cell hb2]; exact hc 2 _ rfl
      have d3 : wr.cell? ⟨b2, o2 + (p.length - 1 - j) * 4 + 3, none⟩ = some bv := by rw [HL.out.cell hb2]; exact hc 3 _ rfl
      have hbr : b2 < wr.heap.size := Nat.lt_of_lt_of_le hb2 HL.out.size
      have hlen : (p.reverse.take j).length = j := by rw [List.length_take, List.length_reverse]; omega
      obtain ⟨v', w4, hrun, hO4, hg4, hd4⟩ := HO.out.more HL.out.size hcis' (by rw [hlen]; omega)
      rw [← turned_rule ht hlt] at hO4
      have HL4 := hide (HL.out.more hg4 hd4 fun k e => (RowU.lo HO.out k e).1)
      obtain ⟨sva, svc, rfl⟩ := Kind.slice hsv
      obtain ⟨bva, bvc, rfl⟩ := Kind.slice hbv
      have HR4 := hide hrun
      have HO4 := hide hO4
      have e1 : ((p.length : Int) - 1 - (j : Int)) = ((p.length - 1 - j : Nat) : Int) := by omega
      have e2 : ((p.length - 1 - j : Nat) : Int) < (p.length : Int) := by omega
      have e3 : IntKind.i64.wrap ((p.length : Int) - 1) = (p.length : Int) - 1 := by simp [IntKind.wrap, IntKind.bits, IntKind.signed]; omega
      have e4 : IntKind.i64.wrap ((p.length - 1 - j : Nat) : Int) = ((p.length - 1 - j : Nat) : Int) := by simp [IntKind.wrap, IntKind.bits, IntKind.signed]; omega
      clear hc ht hsv hbv hcis' hrun hO4 hg4 hd4 hlen
      generalize bs t.head.name = nm at *
      generalize hno : t.head.no = no at *
      clear hno
      generalize hkk : p.length - 1 - j = kk at *
      clear hkk
      go_wp2_with (at_builtin; refine wpList_append_run rfl (.tmp 18) (.tmp 27) 23 rfl _ _ _ _ rfl rfl HR4.out ?_)
      go_roundg (p.length - (j + 1))
      case measure => omega
      case rel => exact ⟨j + 1, by omega, by go_num, HO4, HL4⟩
    · have e : j = p.length := by omega
      have hrev : p.reverse.take j = p.reverse := by rw [e, List.take_of_length_le (by simp)]
      have hRA := HO.out
      rw [hrev] at hRA
      have hBr : Below w.heap.size w wr := below_trans HB1.out HL.out.below HB1.out.size
      have HT := hide (hRA.sl HL.out.below (by simpa using hpl0))
      have HVr := hide (Kind.sl_later HV1.out HL.out)
      have HFr := hide (HF1.out.later HL.out)
      have HAll := hide (naiveAllC p l (.slice pa p.length pc) (.slice fa l.length fc) wr HVr.out HFr.out)
      have HBr := hide hBr
      clear hrev hRA hBr e HO HL HV1 HF1 HB1
      go_wp2_with fail
      refine HAll.out.mono ?_
      rintro e w2 ⟨v2, er2, rfl, hT2, hB2⟩
      have HAl2 := hide (naiveAllC p.reverse l (.slice ao no' co) (.slice fa l.length fc) w2 (Kind.sl_below HT.out hB2) (HFr.out.below hB2))
      have HB2 := hide (below_trans HBr.out hB2 HBr.out.size)
      have HV2 := hide (Kind.sl_below HVr.out hB2)
      have HT2 := hide hT2
      have HF2 := hide hT2.facts
      obtain ⟨a2, n2, c2, rfl⟩ : ∃ a n c, v2 = .slice a n c := by obtain ⟨a, c, e⟩ := sliceFacts HF2.out; exact ⟨a, _, c, e⟩
      clear HAll hT2 hB2 HBr HVr HFr HT
      go_wp2_with fail
      refine HAl2.out.mono ?_
      rintro e w3 ⟨v3, er3, rfl, hT3, hB3⟩
      have HWr := hide (wrongC p (.slice pa p.length pc) w3 (Kind.sl_below HV2.out hB3))
      have HB3 := hide (below_trans HB2.out hB3 HB2.out.size)
      have HF23 := hide (HF2.out.below hB3)
      have HT3 := hide hT3
      have HF3 := hide hT3.facts
      obtain ⟨a3, n3, c3, rfl⟩ : ∃ a n c, v3 = .slice a n c := by obtain ⟨a, c, e⟩ := sliceFacts HF3.out; exact ⟨a, _, c, e⟩
      obtain ⟨x, k, hxk⟩ : ∃ x k, wrongP p = (x, k) := ⟨_, _, rfl⟩
      rw [hxk] at HWr
      have HXK := hide hxk
      clear hxk HAl2 hT3 hB3 HB2 HV2 HF2
      go_wp2_with fail
      refine HWr.out.mono ?_
      rintro e w4 ⟨rfl, hB4⟩
      dsimp only
      have HB4 := hide (below_trans HB3.out hB4 HB3.out.size)
      have HF24 := hide (HF23.out.below hB4)
      have HF34 := hide (HF3.out.below hB4)
      have hfe := errOf x (k : Nat)
      clear hB4 HWr HB3 HF23 HF3
      by_cases h0 : x = 0
      · subst h0
        by_cases h1 : er2 = 4
        · subst h1
          clear HF24 HF34 HXK HT2 HT3
          go_wp2
          go_ret
          exact ⟨rfl, HB4.out⟩
        · have q1 : (er2 == 4) = false := by simpa using h1
          by_cases h2 : er3 = 4
          · subst h2
            clear HF24 HF34 HXK HT2 HT3
            go_wp2
            go_ret
            exact ⟨rfl, HB4.out⟩
          · have q2 : (er3 == 4) = false := by simpa using h2
            have hp : RightP p := rightP_iff.1 (by rw [HXK.out])
            have hE : allP p.reverse l = allP p l := all_turned5 hp (by rw [← HT2.out.1]; exact h1) (by rw [← HT3.out.1]; exact h2)
            have h32 : er3 = er2 := by rw [HT2.out.1, HT3.out.1, hE]
            have hF3 := HF34.out
            rw [hE] at hF3
            subst h32
            have HSm := hide (rSame (.slice a2 n2 c2) (.slice a3 n3 c3) _ w4 HF24.out hF3)
            clear HF24 HF34 HXK HT2 HT3 hp hE hF3 q2 h2
            go_wp2_with fail
            refine HSm.out.mono ?_
            rintro e w5 ⟨rfl, hL5⟩
            have HB5 := hide (below_trans HB4.out hL5.below HB4.out.size)
            clear hL5 HSm
            go_wp2
            go_ret
            exact ⟨rfl, HB5.out⟩
      · have hne : (x != 0) = true := by simpa using h0
        clear HF24 HF34 HXK HT2 HT3
        go_wp2
        go_ret
        exact ⟨rfl, HB4.out⟩

end Go.Proofs.YtbohggoeebhdmaaGreatDoor

/-
  DERIVED: THE SHELF's CONTRACTS AT THIS DUMP, IN PLAIN WORDS (tools/lay-plain.mjs out of 'TryzGrowLay.lean', which tools/lay-shelf.mjs wrote): THE SAME DECLARATIONS UNDER THE SAME NAMES: 'import', 'namespace', 'open', 'def', 'theorem' AND NOTHING ELSE: no command of the shelf's: FOR A HAND-IN. Each laying: the table of numbers ('.._ren') and one theorem, a field a fact of the dump's own or the kernel's comparison; each contract: ONE APPLICATION.
-/
namespace Go.Proofs
open Go.Shelf
def Tryz.growFacts_ren : Go.Shelf.Ren := ⟨fun | 4 => 95 | n => n, fun | 22 => 24 | 25 => 54 | 3 => 3 | 4 => 4 | 9 => 9 | 20 => 20 | 0 => 0 | n => n, fun | n => n⟩
theorem Tryz.growFacts : Go.Proofs.Lays8.n4 Tryz.prog Tryz.growFacts_ren := {
  mixed := by kernel_rfl
  f4 := ⟨Tryz.f95.name, by decide, Tryz.func95.trans (congrArg some (by kernel_rfl))⟩
  t0 := Tryz.underlying0
  a0 := Tryz.isAgg0
  z0 := Tryz.sizeOf0
  v0 := Tryz.zeroValue0
  t3 := Tryz.underlying3
  a3 := Tryz.isAgg3
  z3 := Tryz.sizeOf3
  v3 := Tryz.zeroValue3
  t4 := Tryz.underlying4
  a4 := Tryz.isAgg4
  z4 := Tryz.sizeOf4
  v4 := Tryz.zeroValue4
  t9 := Tryz.underlying9
  a9 := Tryz.isAgg9
  z9 := Tryz.sizeOf9
  v9 := Tryz.zeroValue9
  t20 := Tryz.underlying20
  a20 := Tryz.isAgg20
  z20 := Tryz.sizeOf20
  v20 := Tryz.zeroValue20
  t22 := Tryz.underlying24
  a22 := Tryz.isAgg24
  z22 := Tryz.sizeOf24
  v22 := Tryz.zeroValue24 }
end Go.Proofs
