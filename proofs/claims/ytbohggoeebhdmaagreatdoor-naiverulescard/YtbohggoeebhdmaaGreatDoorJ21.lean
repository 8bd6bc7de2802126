import Derived.Test.YtbohggoeebhdmaaGreatDoorJ13
import Derived.Test.YtbohggoeebhdmaaGreatDoorJ20
import Derived.Test.YtbohggoeebhdmaaGreatDoorJ5
import Derived.ProofKit
import Derived.SliceStrings
import Derived.Deep.Slices
import Derived.Deep.Strs
import Derived.Lib.SmallJoins
import Derived.SizedLaws
import Derived.Test.YtbohggoeebhdmaaGreatDoorJ9
/- The document's answer: the walk of ref.Same, where the two lists hold the same. -/
namespace Go.Proofs.YtbohggoeebhdmaaGreatDoor
open Go.RowKit Go.Sort

set_option maxHeartbeats 1000000 in
theorem rSame (v1 v2 : Value) (l : List FactD) (w : World) (h1 : Facts w v1 l) (h2 : Facts w v2 l) :
    Calls Tryz.prog 14 #[v1, v2] w fun e w' => e = .returned (.bool true) ∧ Later w w' := by
  have mx := mixed
  have H1 := hide h1
  have H2 := hide h2
  obtain ⟨a, cap, rfl, hn, hz⟩ := h1.addr
  obtain ⟨a2, cap2, rfl, _, hz2⟩ := h2.addr
  clear h1 h2
  go_enter Tryz.func14, Tryz.ntmps14
  go_wp2
  go_loopw [13] (fun i wr => ∃ k : Nat, k ≤ l.length ∧ i = .int .i64 k ∧ Later w wr) (fun i _ => l.length - (intOf i).toNat)
  case atStart => exact ⟨0, by omega, rfl, Later.refl _⟩
  case round =>
    obtain ⟨k, hk, rfl, hL⟩ := hrel
    by_cases hlt : k < l.length
    · rcases hz with rfl | ⟨b, off, rfl⟩
      · simp at hlt
      rcases hz2 with rfl | ⟨b2, off2, rfl⟩
      · simp at hlt
      have hltz : (k : Int) < (l.length : Int) := by omega
      obtain ⟨ax, lx, cx, g1, g2, fx⟩ := (H1.out.later hL).grown hlt
      obtain ⟨ay, ly, cy, g3, g4, fy⟩ := (H2.out.later hL).grown hlt
      have hE : ∀ q os, Calls Tryz.prog 43 #[.agg #[.string (l.getD k noFact).1, .slice ax lx cx], .agg #[.string (l.getD k noFact).1, .slice ay ly cy]] (grow (wr.drewN q) os) fun e w'' => e = .returned (.bool true) ∧ Later (grow (wr.drewN q) os) w'' :=
        fun q os => (rEqual _ _ _ _ _ (fx.later ⟨q, os, rfl⟩) (fy.later ⟨q, os, rfl⟩)).mono fun e w' ⟨he, hw⟩ => ⟨by rw [he, sameF_iff.2 rfl], hw⟩
      have HE := hide hE
      clear hE fx fy
      generalize (l.getD k noFact).1 = nk at *
      go_wp2
      go_quiet_grown ((go_at_call 43; exact Calls.grown_of (HE.out _ _)))
      go_wp2
      go_roundw
      case rel => exact ⟨k + 1, by omega, by go_num, hL.trans ⟨_, _, rfl⟩⟩
      case measure => simp [intOf]; omega
    · go_wp2
      go_ret
      exact ⟨rfl, hL⟩

end Go.Proofs.YtbohggoeebhdmaaGreatDoor

/- The walk of NaiveRules. -/
namespace Go.Proofs.YtbohggoeebhdmaaGreatDoor
open Go.RowKit Go.Sort Go.Maps

theorem turned_rule {l : List RuleD} {i : Nat} {a : RuleD} (h : l[l.length - 1 - i]? = some a) (hi : i < l.length) : l.reverse.take (i + 1) = l.reverse.take i ++ [a] := by
  rw [List.take_add_one]
  congr 1
  rw [List.getElem?_reverse hi, h]; rfl

theorem fitF_turned (p : List RuleD) (f : FactB) : fitF p.reverse f = fitF p f := by
  unfold fitF; rw [List.all_reverse]

theorem fitFrom_congr {p q : List RuleD} (h : ∀ f, fitF p f = fitF q f) (l : List FactB) : ∀ n k, fitFrom p l n k = fitFrom q l n k
  | 0, _ => rfl
  | n + 1, k => by unfold fitFrom; rw [h, fitFrom_congr h l n]

theorem facts_turned (p : List RuleD) (l : List FactB) : factsP p.reverse l = factsP p l := by
  unfold factsP; rw [fitFrom_congr (fitF_turned p)]

/-- Rules in whatever order. -/
theorem all_turned5 {p : List RuleD} {l : List FactB} (hp : RightP p) (h4 : (allP p l).1 ≠ 4) (h4' : (allP p.reverse l).1 ≠ 4) : allP p.reverse l = allP p l := by
  obtain ⟨hs, ht⟩ := strata_turned hp
  unfold allP at h4 h4' ⊢
  rw [hs] at h4' ⊢
  rw [facts_turned] at h4' ⊢
  by_cases h : (strataP p).2.1 ≠ 0
  · rw [if_pos h, if_pos h]
  · rw [if_neg h] at h4 h4' ⊢
    rw [if_neg h]
    by_cases h2 : (factsP p l).1 ≠ 0
    · rw [if_pos h2, if_pos h2]
    · rw [if_neg h2] at h4 h4' ⊢
      rw [if_neg h2]
      obtain ⟨τ, hτ, e1, e2⟩ := ht (by simpa using h)
      rw [e1] at h4 ⊢
      rw [e2] at h4' ⊢
      have hc : countP (p.reverse.map fun r => τ r.head.name) = countP (p.map fun r => τ r.head.name) := countP_congr fun s => by simp [List.mem_map]
      rw [hc] at h4' ⊢
      exact (run_same hp (fun r => List.mem_reverse.symm) (fun r => τ r.head.name) _ 0 (facts_good (by simpa using h2)) h4 h4').symm

theorem facts_none (w : World) : Facts w (.slice none 0 0) [] := ⟨by simp, _, 0, rfl, fun h => absurd rfl h⟩

/-- What All answers is facts, whatever it tells. -/
theorem OnceT.facts {w : World} {v : Value} {er : Int} {a : Int × List FactB} (h : OnceT w v er a) : Facts w v (if a.1 = 0 then a.2 else []) := by
  obtain ⟨_, h1, h2⟩ := h
  by_cases e : a.1 = 0
  · rw [if_pos e]; exact h2 e
  · rw [if_neg e, h1 e]; exact facts_none w

set_option maxRecDepth 100000 in
set_option maxHeartbeats 4000000 in
theorem naiveRulesW (pv fv : Value) (p : List RuleD) (l : List FactB) (w : World) (m : Int) (hm : w.cell? ⟨3, 0, none⟩ = some (.int .i64 m)) (hv : ruleK.sl Anyw w pv p) (hf : Facts w fv l) (hpl : p.length * 72 ≤ 140737488355328) :
    Calls Tryz.prog 7 #[pv, fv] w fun e w' => e = .returned (.bool true) ∧ Below w.heap.size w w' := by
  have HA := hide (alive5 w m hm)
  obtain ⟨pa, pc, rfl⟩ := Kind.slice hv
  obtain ⟨fa, fc, rfl⟩ := sliceFacts hf
  have HV := hide hv
  have HF := hide hf
  have hpl0 := hv.1.1
  clear hv hf hm
  go_enter Tryz.func7, Tryz.ntmps7
  go_wp2_with fail
  refine HA.out.mono ?_
  rintro e w1 ⟨rfl, hB1⟩
  have HB1 := hide hB1
  have HV1 := hide (Kind.sl_below HV.out hB1)
  have HF1 := hide (HF.out.below hB1)
  clear HA hB1 HV HF
  go_wp2
  go_loopg [5, 15] p.length (fun g o i wr => ∃ j : Nat, j + g = p.length ∧ i = .int .i64 j ∧ Hid (RowU w1 w1.heap.size wr o (p.reverse.take j)) ∧ Hid (Later w1 wr))
  case atStart => exact ⟨0, by omega, rfl, RowU.nil _ _ _, Later.refl _⟩
  case round =>
    obtain ⟨j, hj, rfl, HO, HL⟩ := hrel
    obtain ⟨ao, no', co, rfl⟩ : ∃ a n c, u5 = .slice a n c := by obtain ⟨a, c, e⟩ := RowU.slice HO.out; exact ⟨a, _, c, e⟩
    by_cases hlt : j < p.length
    · obtain ⟨t, ht⟩ : ∃ x, p[p.length - 1 - j]? = some x := ⟨_, List.getElem?_eq_getElem (by omega)⟩
      obtain ⟨b2, o2, c, rfl, hb2, hcis, hc⟩ := Kind.sl_at HV1.out ht
      have hcis' := hcis
      obtain ⟨sv, bv, rfl, hsv, hbv⟩ := hcis
      have d0 : wr.cell? ⟨b2, o2 + (p.length - 1 - j) * 4, none⟩ = some (.bool t.head.no) := by rw [HL.out.cell hb2]; exact hc 0 _ rfl
      have d1 : wr.cell? ⟨b2, o2 + (p.length - 1 - j) * 4 + 1, none⟩ = some (.string (bs t.head.name)) := by rw [HL.out.cell hb2]; exact hc 1 _ rfl
      have d2 : wr.cell? ⟨b2, o2 + (p.length - 1 - j) * 4 + 2, none⟩ = some sv := by rw [HL.out.cell hb2]; exact hc 2 _ rfl
      have d3 : wr.cell? ⟨b2, o2 + (p.length - 1 - j) * 4 + 3, none⟩ = some bv := by rw [HL.out.cell hb2]; exact hc 3 _ rfl
      have hbr : b2 < wr.heap.size := Nat.lt_of_lt_of_le hb2 HL.out.size
      have hlen : (p.reverse.take j).length = j := by rw [List.length_take, List.length_reverse]; omega
      obtain ⟨v', w4, hrun, hO4, hg4, hd4⟩ := HO.out.more HL.out.size hcis' (by rw [hlen]; omega)
      rw [← turned_rule ht hlt] at hO4
      have HL4 := hide (HL.out.more hg4 hd4 fun k e => (RowU.lo HO.out k e).1)
      obtain ⟨sva, svc, rfl⟩ := Kind.slice hsv
      obtain ⟨bva, bvc, rfl⟩ := Kind.slice hbv
      have HR4 := hide hrun
      have HO4 := hide hO4
      have e1 : ((p.length : Int) - 1 - (j : Int)) = ((p.length - 1 - j : Nat) : Int) := by omega
      have e2 : ((p.length - 1 - j : Nat) : Int) < (p.length : Int) := by omega
      have e3 : IntKind.i64.wrap ((p.length : Int) - 1) = (p.length : Int) - 1 := by simp [IntKind.wrap, IntKind.bits, IntKind.signed]; omega
      have e4 : IntKind.i64.wrap ((p.length - 1 - j : Nat) : Int) = ((p.length - 1 - j : Nat) : Int) := by simp [IntKind.wrap, IntKind.bits, IntKind.signed]; omega
      clear hc ht hsv hbv hcis' hrun hO4 hg4 hd4 hlen
      generalize bs t.head.name = nm at *
      generalize hno : t.head.no = no at *
      clear hno
      generalize hkk : p.length - 1 - j = kk at *
      clear hkk
      go_wp2_with (at_builtin; refine wpList_append_run rfl (.tmp 18) (.tmp 27) 23 rfl _ _ _ _ rfl rfl HR4.out ?_)
      go_roundg (p.length - (j + 1))
      case measure => omega
      case rel => exact ⟨j + 1, by omega, by go_num, HO4, HL4⟩
    · have e : j = p.length := by omega
      have hrev : p.reverse.take j = p.reverse := by rw [e, List.take_of_length_le (by simp)]
      have hRA := HO.out
      rw [hrev] at hRA
      have hBr : Below w.heap.size w wr := below_trans HB1.out HL.out.below HB1.out.size
      have HT := hide (hRA.sl HL.out.below (by simpa using hpl0))
      have HVr := hide (Kind.sl_later HV1.out HL.out)
      have HFr := hide (HF1.out.later HL.out)
      have HAll := hide (naiveAllC p l (.slice pa p.length pc) (.slice fa l.length fc) wr HVr.out HFr.out)
      have HBr := hide hBr
      clear hrev hRA hBr e HO HL HV1 HF1 HB1
      go_wp2_with fail
      refine HAll.out.mono ?_
      rintro e w2 ⟨v2, er2, rfl, hT2, hB2⟩
      have HAl2 := hide (naiveAllC p.reverse l (.slice ao no' co) (.slice fa l.length fc) w2 (Kind.sl_below HT.out hB2) (HFr.out.below hB2))
      have HB2 := hide (below_trans HBr.out hB2 HBr.out.size)
      have HV2 := hide (Kind.sl_below HVr.out hB2)
      have HT2 := hide hT2
      have HF2 := hide hT2.facts
      obtain ⟨a2, n2, c2, rfl⟩ : ∃ a n c, v2 = .slice a n c := by obtain ⟨a, c, e⟩ := sliceFacts HF2.out; exact ⟨a, _, c, e⟩
      clear HAll hT2 hB2 HBr HVr HFr HT
      go_wp2_with fail
      refine HAl2.out.mono ?_
      rintro e w3 ⟨v3, er3, rfl, hT3, hB3⟩
      have HWr := hide (wrongC p (.slice pa p.length pc) w3 (Kind.sl_below HV2.out hB3))
      have HB3 := hide (below_trans HB2.out hB3 HB2.out.size)
      have HF23 := hide (HF2.out.below hB3)
      have HT3 := hide hT3
      have HF3 := hide hT3.facts
      obtain ⟨a3, n3, c3, rfl⟩ : ∃ a n c, v3 = .slice a n c := by obtain ⟨a, c, e⟩ := sliceFacts HF3.out; exact ⟨a, _, c, e⟩
      obtain ⟨x, k, hxk⟩ : ∃ x k, wrongP p = (x, k) := ⟨_, _, rfl⟩
      rw [hxk] at HWr
      have HXK := hide hxk
      clear hxk HAl2 hT3 hB3 HB2 HV2 HF2
      go_wp2_with fail
      refine HWr.out.mono ?_
      rintro e w4 ⟨rfl, hB4⟩
      dsimp only
      have HB4 := hide (below_trans HB3.out hB4 HB3.out.size)
      have HF24 := hide (HF23.out.below hB4)
      have HF34 := hide (HF3.out.below hB4)
      have hfe := errOf x (k : Nat)
      clear hB4 HWr HB3 HF23 HF3
      by_cases h0 : x = 0
      · subst h0
        by_cases h1 : er2 = 4
        · subst h1
          clear HF24 HF34 HXK HT2 HT3
          go_wp2
          go_ret
          exact ⟨rfl, HB4.out⟩
        · have q1 : (er2 == 4) = false := by simpa using h1
          by_cases h2 : er3 = 4
          · subst h2
            clear HF24 HF34 HXK HT2 HT3
            go_wp2
            go_ret
            exact ⟨rfl, HB4.out⟩
          · have q2 : (er3 == 4) = false := by simpa using h2
            have hp : RightP p := rightP_iff.1 (by rw [HXK.out])
            have hE : allP p.reverse l = allP p l := all_turned5 hp (by rw [← HT2.out.1]; exact h1) (by rw [← HT3.out.1]; exact h2)
            have h32 : er3 = er2 := by rw [HT2.out.1, HT3.out.1, hE]
            have hF3 := HF34.out
            rw [hE] at hF3
            subst h32
            have HSm := hide (rSame (.slice a2 n2 c2) (.slice a3 n3 c3) _ w4 HF24.out hF3)
            clear HF24 HF34 HXK HT2 HT3 hp hE hF3 q2 h2
            go_wp2_with fail
            refine HSm.out.mono ?_
            rintro e w5 ⟨rfl, hL5⟩
            have HB5 := hide (below_trans HB4.out hL5.below HB4.out.size)
            clear hL5 HSm
            go_wp2
            go_ret
            exact ⟨rfl, HB5.out⟩
      · have hne : (x != 0) = true := by simpa using h0
        clear HF24 HF34 HXK HT2 HT3
        go_wp2
        go_ret
        exact ⟨rfl, HB4.out⟩

end Go.Proofs.YtbohggoeebhdmaaGreatDoor

/- Programs among a call's arguments, opened: how they lie in memory, and that no list of theirs is longer than the form's reach, no text longer than Go's. -/
namespace Go.Proofs.YtbohggoeebhdmaaGreatDoor
open Go.RowKit Go.Sort Go.ChangeShapes Go.WideShapes Go.ChangeAt Go.Deep

variable {H : Type} {enc : TypeId × Value → H} {W : World}

theorem ownP : ownKnob Tryz.prog.godebug = none := by kernel_rfl
theorem laidOutP : laidOutB Tryz.prog = true := by kernel_rfl
theorem cellsStrP : Tryz.prog.cellsOf 9 = 1 := by kernel_rfl
theorem addr_plainP {a : Addr} {v : Value} (h : W.cell? (a.add 0) = some v) : ∃ b off, a = ⟨b, off, none⟩ := by
  obtain ⟨b, off, spot⟩ := a
  have hspot : spot = none := by simpa [Addr.add] using World.cell?_spot h
  subst hspot
  exact ⟨b, off, rfl⟩

/-- Each list within reach. -/
def Sized (t : TypeId) (d : DataW H) : Prop := (d.weights Tryz.prog t).all (· ≤ reachBytes) = true
/-- How a type's values are opened. -/
def Opens {α : Type} (enc : TypeId × Value → H) (W : World) (ty : TypeId) (K : Kind α) (ok : α → Prop) : Prop :=
  ∀ n cs x, DataW.trod enc Tryz.prog W 0 (fun _ => true) true n ty cs = some x → Sized ty x.1 → ∃ a, K.is Anyw W cs a ∧ ok a

theorem sized_all {e : TypeId} {l : List (DataW H)} (h : (DataW.weightsAll Tryz.prog e l).all (· ≤ reachBytes) = true) : ∀ d ∈ l, Sized e d := by
  induction l with
  | nil => intro d hd; cases hd
  | cons x r ih =>
    simp only [DataW.weightsAll, List.all_append, Bool.and_eq_true] at h
    intro d hd
    rcases List.mem_cons.1 hd with rfl | hd
    · exact h.1
    · exact ih h.2 d hd

set_option maxRecDepth 100000 in
theorem openSlB {α : Type} {K : Kind α} {T ty : TypeId} {ok : α → Prop} (hT : Tryz.prog.underlying T = some (.slice ty)) (hc : Tryz.prog.cellsOf ty = K.size) (hby : 16 ≤ Tryz.prog.bytesOf ty) (hsz : 0 < K.size) (E : Opens enc W ty K ok)
    {n : Nat} {v : Value} {x : DataW H × List MemPlace} (hf : DataW.trod enc Tryz.prog W 0 (fun _ => true) true n T [v] = some x) (hw : Sized T x.1) : ∃ l, K.sl Anyw W v l ∧ (∀ a ∈ l, ok a) ∧ l.length * Tryz.prog.bytesOf ty ≤ reachBytes := by
  rcases open_slice hT hf with ⟨hcs, _⟩ | ⟨a, len, cap, m, k, D, Pl, hcs, _, hl, hm, hmm, hx, hel⟩
  · simp only [List.cons.injEq, and_true] at hcs
    exact ⟨[], by rw [hcs]; exact K.sl_nil _ _ _ _, fun a ha => (by cases ha), by simp⟩
  · simp only [List.cons.injEq, and_true] at hcs
    simp only [if_true] at hmm
    subst hmm
    rw [hc] at hel
    have hd : x.1 = .slice ((List.range len).map D) ((List.range (m - len)).map fun j => D (len + j)) := by rw [hx]
    have hw2 : (decide ((len + (m - len)) * Tryz.prog.bytesOf ty ≤ reachBytes) && ((DataW.weightsAll Tryz.prog ty ((List.range len).map D)).all (· ≤ reachBytes) && (DataW.weightsAll Tryz.prog ty ((List.range (m - len)).map fun j => D (len + j))).all (· ≤ reachBytes))) = true := by
      have := hw
      unfold Sized at this
      rw [hd, DataW.weights, hT] at this
      simpa using this
    simp only [Bool.and_eq_true] at hw2
    have hlen : len ≤ 8796093022208 := by
      have h1 : (len + (m - len)) * Tryz.prog.bytesOf ty ≤ reachBytes := of_decide_eq_true hw2.1
      have h2 : len * 16 ≤ (len + (m - len)) * Tryz.prog.bytesOf ty := Nat.mul_le_mul (by omega) hby
      unfold reachBytes at h1
      omega
    have each : ∀ i : Fin len, ∃ z : α, ∃ cs', W.cells? 0 (a.add (i.1 * K.size)) K.size = some cs' ∧ K.is Anyw W cs' z ∧ ok z := fun i => by
      obtain ⟨cs', k1, k2⟩ := hel i.1 (by omega)
      obtain ⟨z, hz, hk⟩ := E _ _ _ k2 (sized_all hw2.2.1 _ (List.mem_map.2 ⟨i.1, List.mem_range.2 i.2, rfl⟩))
      exact ⟨z, cs', k1, hz, hk⟩
    refine ⟨List.ofFn fun i => Classical.choose (each i), ⟨⟨by simpa using hlen, ?_⟩, some a, m, by rw [hcs]; simp, fun hne => ?_⟩, fun z hz => ?_, ?_⟩
    · rw [hcs]; show len ≤ m; omega
    rotate_left
    rotate_left
    · have h1 : (len + (m - len)) * Tryz.prog.bytesOf ty ≤ reachBytes := of_decide_eq_true hw2.1
      rw [List.length_ofFn]
      exact Nat.le_trans (Nat.mul_le_mul_right _ (by omega)) h1
    rotate_left
    · rw [List.mem_ofFn] at hz
      obtain ⟨i, rfl⟩ := hz
      obtain ⟨_, _, _, hok⟩ := Classical.choose_spec (each i)
      exact hok
    have h0 : 0 < len := by
      refine Nat.pos_of_ne_zero fun e => hne ?_
      subst e; rfl
    have first : ∀ i : Fin len, ∀ cs', W.cells? 0 (a.add (i.1 * K.size)) K.size = some cs' → ∀ j u, cs'[j]? = some u → W.cell? ((a.add (i.1 * K.size)).add j) = some u := fun i cs' k1 j u hu => by
      obtain ⟨h1, _, hcell⟩ := World.cells?_some k1
      have hj : j < cs'.length := (List.getElem?_eq_some_iff.1 hu).1
      have := hcell j (by omega)
      rw [this]; exact hu
    have hplain : ∃ b off, a = ⟨b, off, none⟩ := by
      obtain ⟨cs', k0, k1, _⟩ := Classical.choose_spec (each ⟨0, h0⟩)
      have hl := K.len k1
      have hu : cs'[0]? = some (cs'[0]'(by omega)) := List.getElem?_eq_getElem (by omega)
      have := first ⟨0, h0⟩ cs' k0 0 _ hu
      exact addr_plainP (W := W) (v := cs'[0]'(by omega)) (by simpa [Addr.add] using this)
    obtain ⟨b, off, rfl⟩ := hplain
    have hlt : b < W.heap.size := by
      obtain ⟨cs', k0, k1, _⟩ := Classical.choose_spec (each ⟨0, h0⟩)
      have hl := K.len k1
      have hu : cs'[0]? = some (cs'[0]'(by omega)) := List.getElem?_eq_getElem (by omega)
      have := first ⟨0, h0⟩ cs' k0 0 _ hu
      rw [Addr.add_lit, Addr.add_lit] at this
      exact World.block_lt_of_cell? W _ this
    refine ⟨b, off, rfl, trivial, hlt, fun i z hi => ?_⟩
    have hi' : i < len := by simpa using (List.getElem?_eq_some_iff.1 hi).1
    rw [List.getElem?_ofFn, dif_pos hi'] at hi
    injection hi with hi
    subst hi
    obtain ⟨cs', k0, k1, _⟩ := Classical.choose_spec (each ⟨i, hi'⟩)
    refine ⟨cs', k1, fun j u hu => ?_⟩
    have := first ⟨i, hi'⟩ cs' k0 j u hu
    rw [Addr.add_lit, Addr.add_lit] at this
    exact this

theorem openSl {α : Type} {K : Kind α} {T ty : TypeId} {ok : α → Prop} (hT : Tryz.prog.underlying T = some (.slice ty)) (hc : Tryz.prog.cellsOf ty = K.size) (hby : 16 ≤ Tryz.prog.bytesOf ty) (hsz : 0 < K.size) (E : Opens enc W ty K ok)
    {n : Nat} {v : Value} {x : DataW H × List MemPlace} (hf : DataW.trod enc Tryz.prog W 0 (fun _ => true) true n T [v] = some x) (hw : Sized T x.1) : ∃ l, K.sl Anyw W v l ∧ ∀ a ∈ l, ok a := by
  obtain ⟨l, h1, h2, _⟩ := openSlB hT hc hby hsz E hf hw
  exact ⟨l, h1, h2⟩

/-- No text is longer than Go's. -/
def okT (t : TermD) : Prop := t.2.length ≤ maxLen
def okA (a : AtomD) : Prop := a.name.length ≤ maxLen ∧ ∀ t ∈ a.terms, okT t
def okR (r : RuleD) : Prop := okA r.head ∧ ∀ a ∈ r.body, okA a

theorem cellsTerm : Tryz.prog.cellsOf 101 = 2 := by kernel_rfl
theorem cellsTerms : Tryz.prog.cellsOf 38 = 1 := by kernel_rfl
theorem cellsAtom : Tryz.prog.cellsOf 40 = 3 := by kernel_rfl
theorem cellsAtoms : Tryz.prog.cellsOf 41 = 1 := by kernel_rfl
theorem cellsBool : Tryz.prog.cellsOf 4 = 1 := by kernel_rfl
theorem bytesTerm : Tryz.prog.bytesOf 101 = 24 := by kernel_rfl
theorem bytesAtom : Tryz.prog.bytesOf 40 = 48 := by kernel_rfl

theorem cellsRule : Tryz.prog.cellsOf 43 = 4 := by kernel_rfl
theorem bytesRule : Tryz.prog.bytesOf 43 = 72 := by kernel_rfl

set_option maxRecDepth 100000 in
theorem opensTerm : Opens enc W 101 termK okT := by
  intro n cs x h _
  obtain ⟨y0, y1, m, hx, hl, h0, h1⟩ := trod_struct2 Tryz.underlying101 h
  rw [cellsTerm] at hl
  match cs, hl with
  | [c0, c1], _ =>
    have e0 : Tryz.prog.cellsOf 4 = 1 := cellsBool
    have e1 : Tryz.prog.cellsOf 9 = 1 := cellsStrP
    simp only [e0, e1, List.drop_zero, List.drop_succ_cons, List.take_succ_cons, List.take_zero] at h0 h1
    obtain ⟨b, hb, _⟩ := DataW.trod_bool Tryz.underlying4 h0
    obtain ⟨s, hs, _, hsz⟩ := DataW.trod_string Tryz.underlying9 h1
    simp only [List.cons.injEq, and_true] at hb hs
    exact ⟨(b, raw s), by show [c0, c1] = _; rw [hb, hs, bs_raw], by show (raw s).length ≤ _; rw [length_raw]; exact hsz⟩

set_option maxRecDepth 100000 in
theorem opensAtom : Opens enc W 40 atomK okA := by
  intro n cs x h hw
  obtain ⟨y0, y1, y2, m, hx, hl, h0, h1, h2⟩ := trod_struct3 Tryz.underlying40 h
  rw [cellsAtom] at hl
  match cs, hl with
  | [c0, c1, c2], _ =>
    have e0 : Tryz.prog.cellsOf 4 = 1 := cellsBool
    have e1 : Tryz.prog.cellsOf 9 = 1 := cellsStrP
    have e2 : Tryz.prog.cellsOf 38 = 1 := cellsTerms
    simp only [e0, e1, e2, List.drop_zero, List.drop_succ_cons, List.take_succ_cons, List.take_zero] at h0 h1 h2
    obtain ⟨b, hb, _⟩ := DataW.trod_bool Tryz.underlying4 h0
    obtain ⟨s, hs, _, hsz⟩ := DataW.trod_string Tryz.underlying9 h1
    simp only [List.cons.injEq, and_true] at hb hs
    have hw2 : Sized 38 y2.1 := by
      unfold Sized at hw ⊢
      rw [hx, DataW.weights, Tryz.underlying40] at hw
      simp only [List.map_cons, List.map_nil, DataW.weightsEach, List.all_append, Bool.and_eq_true] at hw
      exact hw.2.2.1
    obtain ⟨l, hl, hlk⟩ := openSl Tryz.underlying38 cellsTerm (by rw [bytesTerm]; decide) (by decide) opensTerm h2 hw2
    exact ⟨⟨b, raw s, l⟩, ⟨c2, by show [c0, c1, c2] = _; rw [hb, hs, bs_raw], hl⟩, by show (raw s).length ≤ _; rw [length_raw]; exact hsz, hlk⟩

set_option maxRecDepth 100000 in
theorem opensRule : Opens enc W 43 ruleK okR := by
  intro n cs x h hw
  obtain ⟨y0, y1, m, hx, hl, h0, h1⟩ := trod_struct2 Tryz.underlying43 h
  rw [cellsRule] at hl
  match cs, hl with
  | [c0, c1, c2, c3], _ =>
    have e0 : Tryz.prog.cellsOf 40 = 3 := cellsAtom
    have e1 : Tryz.prog.cellsOf 41 = 1 := cellsAtoms
    simp only [e0, e1, List.drop_zero, List.drop_succ_cons, List.take_succ_cons, List.take_zero] at h0 h1
    have hws : Sized 40 y0.1 ∧ Sized 41 y1.1 := by
      unfold Sized at hw ⊢
      rw [hx, DataW.weights, Tryz.underlying43] at hw
      simp only [List.map_cons, List.map_nil, DataW.weightsEach, List.all_append, Bool.and_eq_true] at hw
      exact ⟨hw.1, hw.2.1⟩
    obtain ⟨a, ⟨v, ev, hv⟩, hak⟩ := opensAtom _ _ _ h0 hws.1
    obtain ⟨l, hl, hlk⟩ := openSl Tryz.underlying41 cellsAtom (by rw [bytesAtom]; decide) (by decide) opensAtom h1 hws.2
    simp only [List.cons.injEq, and_true] at ev
    exact ⟨⟨a, l⟩, ⟨v, c3, by show [c0, c1, c2, c3] = _; rw [ev.1, ev.2.1, ev.2.2], hv, hl⟩, hak, hlk⟩

set_option maxRecDepth 100000 in
theorem openRules {b0 : Nat} {v : Value} {d : DataW H} {p : List MemPlace} (hv : Value.okWide Tryz.prog W .any b0 23 v) (h : DataW.Trod enc Tryz.prog W 0 (fun _ => true) true 23 v d p) (hw : Sized 23 d) : ∃ l, ruleK.sl Anyw W v l ∧ ∀ r ∈ l, okR r := by
  obtain ⟨a0, len0, cap0, rfl⟩ := okWide_slice Tryz.underlying23 hv
  obtain ⟨fuel, hf⟩ := h
  exact openSl Tryz.underlying23 cellsRule (by rw [bytesRule]; decide) (by decide) opensRule (x := (d, p)) (by simpa [Value.cells] using hf) hw

/-- What the form's reach says of an argument. -/
theorem sized_at {ts : List TypeId} {ds : List (DataW H)} (h : (DataW.weightsEach Tryz.prog ts ds).all (· ≤ reachBytes) = true) {j : Nat} {t : TypeId} {d : DataW H} (ht : ts[j]? = some t) (hd : ds[j]? = some d) : Sized t d :=
  List.all_eq_true.2 fun k hk => List.all_eq_true.1 h _ (DataW.weights_mem_each ht hd k hk)

end Go.Proofs.YtbohggoeebhdmaaGreatDoor

/- Facts, atoms and texts among a call's arguments, opened, each list within the form's reach. -/
namespace Go.Proofs.YtbohggoeebhdmaaGreatDoor
open Go.RowKit Go.Sort Go.ChangeShapes Go.WideShapes Go.ChangeAt Go.Deep

variable {H : Type} {enc : TypeId × Value → H} {W : World}

/-- A fact lies in two cells. -/
def factK : Kind FactD where
  size := 2
  is := fun B w c f => ∃ s, c = [.string f.1, s] ∧ bsK.sl B w s f.2
  len := fun ⟨s, h, _⟩ => by subst h; rfl
  one := fun ⟨s, h, hs⟩ u hu => by
    subst h
    obtain ⟨a, cap, rfl⟩ := Kind.slice hs
    simp at hu; rcases hu with rfl | rfl <;> rfl
  kept := fun ⟨v, h, hs⟩ h1 h2 => ⟨v, h, Kind.sl_kept hs h1 h2⟩
  mono := fun ⟨v, h, hs⟩ h1 => ⟨v, h, Kind.sl_mono hs h1⟩

theorem sl_strs {B : Nat → Prop} {w : World} {v : Value} {l : List ByteArray} (h : bsK.sl B w v l) : Strs w v l := by
  obtain ⟨⟨h0, _⟩, a, cap, rfl, h1⟩ := h
  refine ⟨h0, a, cap, rfl, fun hne => ?_⟩
  obtain ⟨b, off, rfl, _, hb, hc⟩ := h1 hne
  refine ⟨b, off, rfl, hb, fun i hi => ?_⟩
  obtain ⟨c, rfl, c2⟩ := hc i _ (List.getElem?_eq_getElem hi)
  have := c2 0 _ rfl
  rw [List.getD_eq_getElem?_getD, List.getElem?_eq_getElem hi]
  simpa [bsK] using this

theorem sl_facts {B : Nat → Prop} {w : World} {v : Value} {l : List FactD} (h : factK.sl B w v l) (hl : l.length ≤ 3518437208883) : Facts w v l := by
  obtain ⟨_, a, cap, rfl, h1⟩ := h
  refine ⟨hl, a, cap, rfl, fun hne => ?_⟩
  obtain ⟨b, off, rfl, _, hb, hc⟩ := h1 hne
  refine ⟨b, off, rfl, hb, fun i hi => ?_⟩
  obtain ⟨c, ⟨s, rfl, hs⟩, c2⟩ := hc i _ (List.getElem?_eq_getElem hi)
  rw [List.getD_eq_getElem?_getD, List.getElem?_eq_getElem hi]
  exact ⟨by simpa [factK] using c2 0 _ rfl, s, by simpa [factK] using c2 1 _ rfl, sl_strs hs⟩

def okS (s : ByteArray) : Prop := s.size ≤ maxLen
def okFt (f : FactD) : Prop := okS f.1 ∧ ∀ s ∈ f.2, okS s

theorem cellsFactP : Tryz.prog.cellsOf 54 = 2 := by kernel_rfl
theorem cellsStrsP : Tryz.prog.cellsOf 52 = 1 := by kernel_rfl
theorem bytesFactP : Tryz.prog.bytesOf 54 = 40 := by kernel_rfl
theorem bytesStrP : Tryz.prog.bytesOf 9 = 16 := by kernel_rfl

set_option maxRecDepth 100000 in
theorem opensStr : Opens enc W 9 bsK okS := by
  intro n cs x h _
  obtain ⟨s, hs, _, hsz⟩ := DataW.trod_string Tryz.underlying9 h
  exact ⟨s, hs, hsz⟩

set_option maxRecDepth 100000 in
theorem opensFact : Opens enc W 54 factK okFt := by
  intro n cs x h hw
  obtain ⟨y0, y1, m, hx, hl, h0, h1⟩ := trod_struct2 Tryz.underlying54 h
  rw [cellsFactP] at hl
  match cs, hl with
  | [c0, c1], _ =>
    have e0 : Tryz.prog.cellsOf 9 = 1 := cellsStrP
    have e1 : Tryz.prog.cellsOf 52 = 1 := cellsStrsP
    simp only [e0, e1, List.drop_zero, List.drop_succ_cons, List.take_succ_cons, List.take_zero] at h0 h1
    obtain ⟨s, hs, _, hsz⟩ := DataW.trod_string Tryz.underlying9 h0
    simp only [List.cons.injEq, and_true] at hs
    have hw2 : Sized 52 y1.1 := by
      unfold Sized at hw ⊢
      rw [hx, DataW.weights, Tryz.underlying54] at hw
      simp only [List.map_cons, List.map_nil, DataW.weightsEach, List.all_append, Bool.and_eq_true] at hw
      exact hw.2.1
    obtain ⟨l, hl, hlk⟩ := openSl Tryz.underlying52 cellsStrP (by rw [bytesStrP]; decide) (by decide) opensStr h1 hw2
    exact ⟨(s, l), ⟨c1, by show [c0, c1] = _; rw [hs], hl⟩, hsz, hlk⟩

set_option maxRecDepth 100000 in
theorem openFactsS {b0 : Nat} {v : Value} {d : DataW H} {p : List MemPlace} (hv : Value.okWide Tryz.prog W .any b0 24 v) (h : DataW.Trod enc Tryz.prog W 0 (fun _ => true) true 24 v d p) (hw : Sized 24 d) : ∃ l, Facts W v l ∧ ∀ f ∈ l, okFt f := by
  obtain ⟨a0, len0, cap0, rfl⟩ := okWide_slice Tryz.underlying24 hv
  obtain ⟨fuel, hf⟩ := h
  obtain ⟨l, h1, h2, h3⟩ := openSlB Tryz.underlying24 cellsFactP (by rw [bytesFactP]; decide) (by decide) opensFact (x := (d, p)) (by simpa [Value.cells] using hf) hw
  rw [bytesFactP] at h3
  exact ⟨l, sl_facts h1 (by unfold reachBytes at h3; omega), h2⟩

set_option maxRecDepth 100000 in
theorem openAtoms {b0 : Nat} {v : Value} {d : DataW H} {p : List MemPlace} (hv : Value.okWide Tryz.prog W .any b0 41 v) (h : DataW.Trod enc Tryz.prog W 0 (fun _ => true) true 41 v d p) (hw : Sized 41 d) : ∃ l, atomK.sl Anyw W v l ∧ (∀ a ∈ l, okA a) ∧ l.length * 48 ≤ reachBytes := by
  obtain ⟨a0, len0, cap0, rfl⟩ := okWide_slice Tryz.underlying41 hv
  obtain ⟨fuel, hf⟩ := h
  obtain ⟨l, h1, h2, h3⟩ := openSlB Tryz.underlying41 cellsAtom (by rw [bytesAtom]; decide) (by decide) opensAtom (x := (d, p)) (by simpa [Value.cells] using hf) hw
  rw [bytesAtom] at h3
  exact ⟨l, h1, h2, h3⟩

set_option maxRecDepth 100000 in
theorem openStrsS {b0 : Nat} {v : Value} {d : DataW H} {p : List MemPlace} (hv : Value.okWide Tryz.prog W .any b0 52 v) (h : DataW.Trod enc Tryz.prog W 0 (fun _ => true) true 52 v d p) (hw : Sized 52 d) : ∃ l, Strs W v l ∧ ∀ s ∈ l, okS s := by
  obtain ⟨a0, len0, cap0, rfl⟩ := okWide_slice Tryz.underlying52 hv
  obtain ⟨fuel, hf⟩ := h
  obtain ⟨l, h1, h2, _⟩ := openSlB Tryz.underlying52 cellsStrP (by rw [bytesStrP]; decide) (by decide) opensStr (x := (d, p)) (by simpa [Value.cells] using hf) hw
  exact ⟨l, sl_strs h1, h2⟩

end Go.Proofs.YtbohggoeebhdmaaGreatDoor
