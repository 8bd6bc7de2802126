/- Texts of this claim, one behind the other. -/
import Derived.Test.YtilkggldmgeagaaGreatDoorJ28
import Derived.Test.YtilkggldmgeagaaGreatDoorJ23
import Derived.BigQuiet
import Derived.Test.YtilkggldmgeagaaGreatDoorJ22
/- The reference's Step. -/
namespace Go.Proofs.YtilkggldmgeagaaGreatDoor
open Go.RowKit Go.Sort Go.Maps

theorem heads_pick {r : RuleD} {pick : Nat → List FactB} {ms : List (List BindD)} (hm : metGo pick 0 r.body [[]] = some ms) :
    ∃ R, allB pick r.body = some R ∧ ∀ f, f ∈ R.filterMap (fun e => fillB r.head e) ↔ f ∈ (ms.filter fun l => !barredB pick 0 r.body l).filterMap fun l => fillB r.head l := by
  have hk : ∀ l ∈ ms, (keysB l).Nodup := fun l hl => by
    rw [((met_mem pick r.body 0 [[]] ms [] (fun x hx => by simp at hx; subst hx; rfl) hm l).1 hl).2.1]
    exact posKeys_nodup r.body
  refine ⟨_, by unfold allB; rw [hm], fun f => ?_⟩
  rw [List.mem_filterMap, List.mem_filterMap]
  constructor
  · rintro ⟨a, ha, hf⟩
    obtain ⟨l, hl, rfl⟩ := List.mem_map.1 ((sortBy_perm _).mem_iff.1 ha)
    refine ⟨l, hl, ?_⟩
    rw [fillB_perm (sortBy_perm (c := cmpB) l).symm (hk l (List.mem_filter.1 hl).1)]
    exact hf
  · rintro ⟨l, hl, hf⟩
    refine ⟨sortB l, (sortBy_perm _).mem_iff.2 (List.mem_map.2 ⟨l, hl, rfl⟩), ?_⟩
    rw [← fillB_perm (sortBy_perm (c := cmpB) l).symm (hk l (List.mem_filter.1 hl).1)]
    exact hf

theorem atGo_step {K N : List FactB} {x : RuleD} {q : Nat} {a : AtomD} {acc : List FactB} (hx : x.body[q]? = some a) : atGo K N x q (x.body.drop q) acc = if a.no then atGo K N x (q + 1) (x.body.drop (q + 1)) acc else match allB (pickB K (q : Nat) N) x.body with | none => none | some R => atGo K N x (q + 1) (x.body.drop (q + 1)) (acc ++ R.filterMap fun e => fillB x.head e) := by
  obtain ⟨h1, e1⟩ := List.getElem?_eq_some_iff.1 hx
  rw [List.drop_eq_getElem_cons h1, e1, atGo]
  all_goals rfl

def SameO (a b : Option (List FactB)) : Prop := match a, b with
  | none, none => True
  | some x, some y => ∀ f, f ∈ x ↔ f ∈ y
  | _, _ => False

theorem atGo_same {K N : List FactB} {x : RuleD} : ∀ (l : List AtomD) (q : Nat) {a b : List FactB}, (∀ f, f ∈ a ↔ f ∈ b) → SameO (atGo K N x q l a) (atGo K N x q l b)
  | [], _, _, _, h => h
  | c :: l, q, a, b, h => by
    unfold atGo
    split
    · exact atGo_same l (q + 1) h
    · cases allB (pickB K q N) x.body with
      | none => trivial
      | some R => exact atGo_same l (q + 1) fun f => by rw [List.mem_append, List.mem_append, h f]

theorem askP_same {K N : List FactB} {x : RuleD} {a b : List FactB} (h : ∀ f, f ∈ a ↔ f ∈ b) : SameO (askP K N x a) (askP K N x b) := by
  unfold askP
  split
  · cases headsP x K with
    | none => trivial
    | some y => exact fun f => by rw [List.mem_append, List.mem_append, h f]
  · exact atGo_same _ 0 h

theorem makesGo_same {K N : List FactB} {st : Int} : ∀ (p : List RuleD) (ss : List Nat) {a b : List FactB}, (∀ f, f ∈ a ↔ f ∈ b) → SameO (makesGo K N st p ss a) (makesGo K N st p ss b)
  | [], _, _, _, h => by simp only [makesGo]; exact h
  | _ :: _, [], _, _, h => by simp only [makesGo]; exact h
  | r :: p, s :: ss, a, b, h => by
    simp only [makesGo]
    split
    · have hs := askP_same (K := K) (N := N) (x := r) h
      cases ea : askP K N r a with
      | none =>
        rw [ea] at hs
        cases eb : askP K N r b with
        | none => trivial
        | some y => rw [eb] at hs; exact hs.elim
      | some x =>
        rw [ea] at hs
        cases eb : askP K N r b with
        | none => rw [eb] at hs; exact hs.elim
        | some y => rw [eb] at hs; exact makesGo_same p ss hs
    · exact makesGo_same p ss h

theorem SameO.refl : ∀ a, SameO a a
  | none => trivial
  | some _ => fun _ => Iff.rfl

theorem SameO.trans : ∀ {a b c}, SameO a b → SameO b c → SameO a c
  | none, none, none, _, _ => trivial
  | some _, some _, some _, h, k => fun f => (h f).trans (k f)
  | none, some _, _, h, _ => h.elim
  | some _, none, _, h, _ => h.elim
  | none, none, some _, _, k => k.elim
  | some _, some _, none, _, k => k.elim

theorem SameO.none {a : Option (List FactB)} (h : SameO a none) : a = none := by
  cases a with
  | none => rfl
  | some _ => exact h.elim

theorem SameO.some {a : Option (List FactB)} {y : List FactB} (h : SameO a (some y)) : ∃ x, a = some x ∧ ∀ f, f ∈ x ↔ f ∈ y := by
  cases a with
  | none => exact h.elim
  | some x => exact ⟨x, rfl, h⟩

theorem nextP_same {p : List RuleD} {ss : List Nat} {K N M : List FactB} {lev rn : Int} (hrn : rn ≠ 1000) (h : SameO (makesGo K N lev p ss []) (some M)) :
    nextP p ss ⟨K, N, lev, rn, false⟩ = if 200 < (setF (K ++ M)).length then (5, noRun) else
      if newOf K M = [] then (0, ⟨setF (K ++ M), setF (K ++ M), lev + 1, rn + 1, decide (lev + 1 = countP ss)⟩) else (0, ⟨setF (K ++ M), newOf K M, lev, rn + 1, false⟩) := by
  obtain ⟨x, hx, hm⟩ := h.some
  have e1 : setF (K ++ x) = setF (K ++ M) := setF_congr fun f => by rw [List.mem_append, List.mem_append, hm f]
  have e2 : newOf K x = newOf K M := setF_congr fun f => by rw [List.mem_filter, List.mem_filter, hm f]
  unfold nextP
  rw [if_neg hrn, hx]
  dsimp only
  rw [e1, e2]

theorem nextP_none {p : List RuleD} {ss : List Nat} {K N : List FactB} {lev rn : Int} (hrn : rn ≠ 1000) (h : makesGo K N lev p ss [] = none) : nextP p ss ⟨K, N, lev, rn, false⟩ = (4, noRun) := by
  unfold nextP
  rw [if_neg hrn, h]

end Go.Proofs.YtilkggldmgeagaaGreatDoor

/- The reference's Step (written by mksd.py). -/
namespace Go.Proofs.YtilkggldmgeagaaGreatDoor
open Go.RowKit Go.Sort Go.Maps

theorem steps_one {p : List RuleD} {ss : List Nat} {r : RunD} (hd : r.done = false) : stepsP p ss 1 r = nextP p ss r := by
  rw [show (1 : Nat) = 0 + 1 from rfl, steps_next hd]
  rcases next_err (p := p) (ss := ss) (r := r) with h | h | h
  · rw [if_neg (by simp [h])]
    exact Prod.ext h.symm rfl
  · rw [h]; rfl
  · rw [h]; rfl

theorem askP_at {K N : List FactB} {x : RuleD} {M : List FactB} (h : ∃ b ∈ x.body, b.no = false) : askP K N x M = atGo K N x 0 x.body M := by
  obtain ⟨b, hb, hn⟩ := h
  unfold askP
  rw [if_neg]
  intro hall
  have := List.all_eq_true.1 hall b hb
  rw [hn] at this
  cases this

theorem askP_no {K N : List FactB} {x : RuleD} {M : List FactB} (h : ∀ b ∈ x.body, b.no = true) : askP K N x M = match headsP x K with | none => none | some y => some (M ++ y) := by
  unfold askP
  rw [if_pos (List.all_eq_true.2 fun b hb => h b hb)]
  cases headsP x K <;> rfl

theorem same_on {K N : List FactB} {st : Int} {p : List RuleD} {ss : List Nat} {a : Option (List FactB)} {T : Option (List FactB)} {y : List FactB} (h : SameO T (match a with | none => none | some z => makesGo K N st p ss z)) (hy : SameO a (some y)) : SameO T (makesGo K N st p ss y) := by
  obtain ⟨z, rfl, hz⟩ := hy.some
  exact h.trans (makesGo_same p ss hz)

theorem same_none {K N : List FactB} {st : Int} {p : List RuleD} {ss : List Nat} {a : Option (List FactB)} {T : Option (List FactB)} (h : SameO T (match a with | none => none | some z => makesGo K N st p ss z)) (hy : a = none) : T = none := by
  subst hy
  exact h.none

theorem facts_drewN {w : World} {v : Value} {l : List FactD} (h : Facts w v l) (q : Nat) : Facts (w.drewN q) v l := h.below ⟨rfl, rfl, rfl, Nat.le_refl _, fun _ _ => rfl⟩

set_option maxRecDepth 100000 in
set_option maxHeartbeats 16000000 in
theorem rStep (p : List RuleD) (r : RunD) (pv kv nv : Value) (w : World) (hv : ruleK.sl Anyw w pv p) (hk : Facts w kv r.known) (hn : Facts w nv r.fresh) (hlg : ∀ r ∈ p, longR r) (hok : ∀ k, okF (r.known.getD k noFact)) (hon : ∀ k, okF (r.fresh.getD k noFact)) :
    Calls Tryz.prog 10 #[pv, .agg #[kv, nv, .int .i64 r.level, .int .i64 r.rounds, .bool r.done]] w fun e w' => ∃ v' er, e = .returned (.tuple #[v', .int .i64 er]) ∧ RefT w' v' er (stepsF p r 1) ∧ Below w.heap.size w w' := by
  obtain ⟨K, N, lev, rn, dn⟩ := r
  dsimp only at *
  obtain ⟨pa, pc, rfl⟩ := Kind.slice hv
  obtain ⟨ka, kc, rfl⟩ := sliceFacts hk
  obtain ⟨na, nc, rfl⟩ := sliceFacts hn
  obtain ⟨w2, hw2⟩ : ∃ w2, w2 = (w.alloc (.cells #[.slice ka K.length kc, .slice na N.length nc, .int .i64 lev, .int .i64 rn, .bool dn] 26)).alloc (.cells #[.slice none 0 0, .slice none 0 0, .int .i64 0, .int .i64 0, .bool false] 26) := ⟨_, rfl⟩
  have hL2 : Later w w2 := by rw [hw2]; exact ((Later.refl w).alloc _).alloc _
  have hz2 : w2.heap.size = w.heap.size + 2 := by rw [hw2]; simp
  have hrb : w2.heap[w.heap.size]? = some (.cells #[.slice ka K.length kc, .slice na N.length nc, .int .i64 lev, .int .i64 rn, .bool dn] 26 (0, 0)) := by
    rw [hw2, Below.heap_alloc _ _ _ (by simp)]; exact heap_alloc_new w _
  have hrs : w2.heap[w.heap.size + 1]? = some (.cells #[.slice none 0 0, .slice none 0 0, .int .i64 0, .int .i64 0, .bool false] 26 (0, 0)) := by
    have := heap_alloc_new (w.alloc (.cells #[.slice ka K.length kc, .slice na N.length nc, .int .i64 lev, .int .i64 rn, .bool dn] 26)) (.cells #[.slice none 0 0, .slice none 0 0, .int .i64 0, .int .i64 0, .bool false] 26)
    rw [hw2]; simpa using this
  have HWr := hide (rWrongRun p ⟨K, N, lev, rn, dn⟩ (.slice pa p.length pc) (.slice ka K.length kc) (.slice na N.length nc) w2 (Kind.sl_later hv hL2) (hk.later hL2) (hn.later hL2) hlg hok hon)
  have HV := hide hv
  have HK := hide hk
  have HN := hide hn
  have HLg := hide hlg
  have HL2 := hide hL2
  have HRb := hide hrb
  have HRs := hide hrs
  have HW2 := hide hw2
  have HX : Hid (stepsF p ⟨K, N, lev, rn, dn⟩ 1 = if wrongRunP p ⟨K, N, lev, rn, dn⟩ ≠ 0 then (wrongRunP p ⟨K, N, lev, rn, dn⟩, noRun) else stepsP p (strataP p).1 1 ⟨K, N, lev, rn, dn⟩) := (rfl : _ = _)
  have HGo : Hid (wrongRunP p ⟨K, N, lev, rn, dn⟩ = 0 → RightP p ∧ RightN p (countP (strataP p).1) ⟨K, N, lev, rn, dn⟩ ∧ (strataP p).1.length = p.length ∧ ∀ s ∈ (strataP p).1, s < 1000) := fun h => by
    obtain ⟨h1, h2⟩ := wrongRun_zero h
    obtain ⟨hp, _, τ, _, hs, ht⟩ := forE_zero h1
    refine ⟨hp, h2, by rw [hs]; simp, fun s hs' => ?_⟩
    rw [hs] at hs'
    obtain ⟨q, hq, rfl⟩ := List.mem_map.1 hs'
    have := ht q hq
    omega
  generalize stepsF p ⟨K, N, lev, rn, dn⟩ 1 = SF at *
  generalize wrongRunP p ⟨K, N, lev, rn, dn⟩ = R at *
  clear hv hk hn hL2 hrb hrs hw2 hlg hok hon
  go_enter Tryz.func10, Tryz.ntmps10
  go_wp2_with fail
  rw [← HW2.out]
  refine HWr.out.mono ?_
  rintro e w3 ⟨rfl, hB3⟩
  have HB3 : Hid (Below w.heap.size w w3) := below_trans HL2.out.below hB3 HL2.out.size
  have HRb3 : Hid (w3.heap[w.heap.size]? = some (.cells #[.slice ka K.length kc, .slice na N.length nc, .int .i64 lev, .int .i64 rn, .bool dn] 26 (0, 0))) := by show _ = _; rw [hB3.block _ (by omega)]; exact HRb.out
  have HRs3 : Hid (w3.heap[w.heap.size + 1]? = some (.cells #[.slice none 0 0, .slice none 0 0, .int .i64 0, .int .i64 0, .bool false] 26 (0, 0))) := by show _ = _; rw [hB3.block _ (by omega)]; exact HRs.out
  have hz3 : w.heap.size + 2 ≤ w3.heap.size := by have := hB3.size; omega
  clear hB3 HWr HW2 HRb HRs HL2 hz2 w2
  obtain ⟨b0, b1, b2, b3, b4, _, _⟩ := row5 HRb3.out
  obtain ⟨q0, q1, q2, q3, q4, ⟨f0, f1, f2, f3, f4⟩, _⟩ := row5 HRs3.out
  by_cases h0 : R = 0
  · subst h0
    obtain ⟨hp, hRN, hsl, hsm⟩ := HGo.out rfl
    have HX1 : Hid (SF = stepsP p (strataP p).1 1 ⟨K, N, lev, rn, dn⟩) := by show _ = _; rw [HX.out]; simp
    have hrnd := hRN.rnd
    have hlev := hRN.lev
    dsimp only at hrnd hlev
    have hcs : countP (strataP p).1 ≤ 1000 := countP_le hsm
    cases dn with
    | true =>
      have HX2 : Hid (SF = (0, ⟨K, N, lev, rn, true⟩)) := by show _ = _; rw [HX1.out]; exact steps_done rfl 1
      have HKp := hide (facts_box (run_noText HRs3.out) (put5_tn w3 (w.heap.size + 1) (.slice ka K.length kc) (.slice na N.length nc) (.int .i64 lev) (.int .i64 rn) (.bool true)) (HK.out.below HB3.out))
      have HNp := hide (facts_box (run_noText HRs3.out) (put5_tn w3 (w.heap.size + 1) (.slice ka K.length kc) (.slice na N.length nc) (.int .i64 lev) (.int .i64 rn) (.bool true)) (HN.out.below HB3.out))
      clear HX HX1 HGo hp hRN hsm hsl
      go_wp2
      obtain ⟨r0, r1, r2, r3, r4⟩ := set5 HRs3.out (.slice ka K.length kc) (.slice na N.length nc) (.int .i64 lev) (.int .i64 rn) (.bool true)
      exact bodyPost_ret (v := .tuple #[.agg #[.slice ka K.length kc, .slice na N.length nc, .int .i64 lev, .int .i64 rn, .bool true], .int .i64 0]) (by simp [results, Tryz.results10, go_sem, r0, r1, r2, r3, r4]) rfl ⟨_, 0, rfl, by rw [HX2.out]; exact ⟨rfl, _, _, rfl, HKp.out, HNp.out⟩, Below.put5 HB3.out (Nat.le_succ _)⟩
    | false =>
      have HX2 : Hid (SF = nextP p (strataP p).1 ⟨K, N, lev, rn, false⟩) := by show _ = _; rw [HX1.out]; exact steps_one rfl
      by_cases h1 : 1000 ≤ rn
      · have HX3 : Hid (SF = (5, noRun)) := by
          show _ = _
          rw [HX2.out]
          unfold nextP
          rw [if_pos (by dsimp only; omega)]
        clear HX HX1 HX2 HGo hp hRN hsm hsl
        go_wp2
        obtain ⟨r0, r1, r2, r3, r4⟩ := set5 HRs3.out (.slice none 0 0) (.slice none 0 0) (.int .i64 0) (.int .i64 0) (.bool false)
        exact bodyPost_ret (v := .tuple #[.agg #[.slice none 0 0, .slice none 0 0, .int .i64 0, .int .i64 0, .bool false], .int .i64 5]) (by simp [results, Tryz.results10, go_sem, r0, r1, r2, r3, r4]) rfl ⟨_, 5, rfl, by rw [HX3.out]; exact ⟨rfl, RunV.none _⟩, Below.put5 HB3.out (Nat.le_succ _)⟩
      · have HSt := hide (rStrata p (.slice pa p.length pc) w3 (Kind.sl_below HV.out HB3.out) HLg.out)
        have hrn : rn ≠ 1000 := by omega
        have HRn := hide hrn
        have HRP := hide hp
        have HRN := hide hRN
        have HSm := hide hsm
        obtain ⟨ss, ex, ea, hse⟩ : ∃ ss ex ea, strataP p = (ss, ex, ea) := ⟨_, _, _, rfl⟩
        rw [hse] at HSt HX2 HSm hcs hlev hsl
        have HSL := hide hsl
        have HKs : Hid ((setFault K).1 = 0) := by show _ = _; rw [fault_right hRN.good.up hRN.good.right hRN.good.few]
        have HNs : Hid ((setFault N).1 = 0) := by show _ = _; rw [fault_right hRN.up (fun f hf => hRN.good.right f (hRN.sub f hf)) (Nat.le_trans (up_le hRN.up hRN.sub) hRN.good.few)]
        have hWB : wrongBody = wrongBody := rfl
        have h16 := hp.few
        clear HX HX1 HGo hp hRN hsm hrn hse hsl hWB
        go_wp2_with fail
        refine HSt.out.mono ?_
        rintro e w4 ⟨u, rfl, hu, hB4⟩
        dsimp only at hu ⊢
        obtain ⟨ua, uc, rfl⟩ := Kind.slice hu
        obtain ⟨w5, hw5⟩ : ∃ w5, w5 = w4.alloc (.cells #[.int .i64 ex, .int .i64 (ea : Nat)] 41) := ⟨_, rfl⟩
        have hL5 : Later w4 w5 := by rw [hw5]; exact (Later.refl _).alloc _
        have hB35 : Below w3.heap.size w3 w5 := below_trans hB4 hL5.below hB4.size
        have HB5 : Hid (Below w.heap.size w w5) := below_trans HB3.out hB35 HB3.out.size
        have HU5 := hide (Kind.sl_later (Kind.sl_any hu) hL5)
        have HV5 := hide (Kind.sl_below HV.out HB5.out)
        have HK5 := hide (HK.out.below HB5.out)
        have HN5 := hide (HN.out.below HB5.out)
        have HRow : Hid (∀ w', Below w5.heap.size w5 w' → w'.heap[w.heap.size]? = some (.cells #[.slice ka K.length kc, .slice na N.length nc, .int .i64 lev, .int .i64 rn, .bool false] 26 (0, 0)) ∧ w'.heap[w.heap.size + 1]? = some (.cells #[.slice none 0 0, .slice none 0 0, .int .i64 0, .int .i64 0, .bool false] 26 (0, 0))) := fun w' h =>
          ⟨by rw [(below_trans hB35 h hB35.size).block _ (by omega)]; exact HRb3.out, by rw [(below_trans hB35 h hB35.size).block _ (by omega)]; exact HRs3.out⟩
        have hz5 : w.heap.size + 2 ≤ w5.heap.size := by have := hB35.size; omega
        have HW5 := hide hw5
        clear hu hB4 hL5 hB35 hw5 HSt HRb3 HRs3 HB3 HV HK HN b0 b1 b2 b3 b4 q0 q1 q2 q3 q4 f0 f1 f2 f3 f4
        go_wp2
        rw [← HW5.out]
        clear HW5
        go_loopg [9, 41] p.length (fun g v i wr => ∃ j : Nat, j + g = p.length ∧ i = .int .i64 j ∧ ∃ M : List FactB, Hid (FactsC wr v M) ∧ Hid (Up M) ∧ M.length ≤ 200000 * j ∧ Hid (Below w5.heap.size w5 wr) ∧ Hid (SameO (makesGo K N lev p ss []) (makesGo K N lev (p.drop j) (ss.drop j) M)))
        case atStart => exact ⟨0, by omega, rfl, [], ⟨facts_nil _, Or.inl ⟨rfl, rfl⟩⟩, List.Pairwise.nil, by simp, Below.refl _ _, SameO.refl _⟩
        case round =>
          obtain ⟨j, hj, rfl, M, HM, HU, hMl, HB, HS⟩ := hrel
          have hMs : ∃ a n c, u9 = .slice a n c := by obtain ⟨a, c, e⟩ := sliceFacts HM.out.1; exact ⟨a, _, c, e⟩
          have HRr := hide (HRow.out _ HB.out)
          have HBw : Hid (Below w.heap.size w wr) := below_trans HB5.out HB.out HB5.out.size
          have hzr := HB.out.size
          by_cases hlt : j < p.length
          · obtain ⟨x, hx⟩ : ∃ y, p[j]? = some y := ⟨_, List.getElem?_eq_getElem hlt⟩
            have hxm : x ∈ p := List.mem_of_getElem? hx
            obtain ⟨b1, o1, _, rfl, hb1, ⟨tv, bv, rfl, htv, hbv⟩, hc⟩ := Kind.sl_at HV5.out hx
            have d0 : wr.cell? ⟨b1, o1 + j * 4, none⟩ = some (.bool x.head.no) := by rw [HB.out.cell (p := ⟨b1, o1 + j * 4, none⟩) hb1]; exact hc 0 _ rfl
            have d1 : wr.cell? ⟨b1, o1 + j * 4 + 1, none⟩ = some (.string (bs x.head.name)) := by rw [HB.out.cell (p := ⟨b1, o1 + j * 4 + 1, none⟩) hb1]; exact hc 1 _ rfl
            have d2 : wr.cell? ⟨b1, o1 + j * 4 + 2, none⟩ = some tv := by rw [HB.out.cell (p := ⟨b1, o1 + j * 4 + 2, none⟩) hb1]; exact hc 2 _ rfl
            have d3 : wr.cell? ⟨b1, o1 + j * 4 + 3, none⟩ = some bv := by rw [HB.out.cell (p := ⟨b1, o1 + j * 4 + 3, none⟩) hb1]; exact hc 3 _ rfl
            have hpd : p.drop j = x :: p.drop (j + 1) := by
              obtain ⟨h1, e1⟩ := List.getElem?_eq_some_iff.1 hx
              rw [List.drop_eq_getElem_cons h1, e1]
            obtain ⟨ta, tc, rfl⟩ := Kind.slice htv
            obtain ⟨ba, bc, rfl⟩ := Kind.slice hbv
            obtain ⟨s, hs⟩ : ∃ y, ss[j]? = some y := ⟨_, List.getElem?_eq_getElem (by have := HSL.out; omega)⟩
            obtain ⟨b2, o2, _, rfl, hb2, rfl, hc2⟩ := Kind.sl_at HU5.out hs
            have hsd : ss.drop j = s :: ss.drop (j + 1) := by
              obtain ⟨h1, e1⟩ := List.getElem?_eq_some_iff.1 hs
              rw [List.drop_eq_getElem_cons h1, e1]
            have hstep : makesGo K N lev (p.drop j) (ss.drop j) M = if (s : Int) = lev then (match askP K N x M with
                | none => none
                | some acc' => makesGo K N lev (p.drop (j + 1)) (ss.drop (j + 1)) acc') else makesGo K N lev (p.drop (j + 1)) (ss.drop (j + 1)) M := by
              rw [hpd, hsd]; rfl
            have hsji : (j : Int) < (ss.length : Int) := by have := HSL.out; omega
            obtain ⟨wb, hwb⟩ : ∃ wb, wb = wr.alloc (.cells #[.bool x.head.no, .string (bs x.head.name), .slice ta x.head.terms.length tc, .slice ba x.body.length bc] 57) := ⟨_, rfl⟩
            have hLb : Later wr wb := by rw [hwb]; exact (Later.refl _).alloc _
            have hrb : wb.heap[wr.heap.size]? = some (.cells #[.bool x.head.no, .string (bs x.head.name), .slice ta x.head.terms.length tc, .slice ba x.body.length bc] 57 (0, 0)) := by rw [hwb]; exact heap_alloc_new _ _
            have hBb : Below w5.heap.size w5 wb := below_trans HB.out hLb.below HB.out.size
            have e0 : wb.cell? ⟨b2, o2 + j, none⟩ = some (.int .i64 s) := by rw [hBb.cell (p := ⟨b2, o2 + j, none⟩) hb2]; simpa [intK] using hc2 0 _ rfl
            have l0 : wb.cell? ⟨w.heap.size, 2, none⟩ = some (.int .i64 lev) := (row5 (HRow.out _ hBb).1).2.2.1
            have HWb := hide hwb
            have HM' := hide (HM.out.later hLb)
            have HBb := hide hBb
            have hzb : wb.heap.size = wr.heap.size + 1 := by rw [hwb]; simp
            obtain ⟨Ma, Mn, Mc, rfl⟩ := hMs
            by_cases hsn : (s : Int) = lev
            · rw [if_pos hsn] at hstep
              have hneq : ((s : Int) != lev) = false := by simp [hsn]
              have HSt2 := hide (HS.out.trans (by rw [hstep]; exact SameO.refl _))
              have hR := HRP.out.rules x hxm
              obtain ⟨hwb5, hts⟩ := right_atoms HRP.out x hxm
              have h5 := (body_right hwb5).1
              have HTv := hide htv
              have HBv := hide hbv
              have HWB := hide hwb5
              have HTS := hide hts
              have HRB := hide hrb
              have r3 : wb.cell? ⟨wr.heap.size, 3, none⟩ = some (.slice ba x.body.length bc) := by rw [cell_of_row _ _ _ _ _ _ hrb]; rfl
              clear hc hc2 hx hs htv hbv hpd hsd hLb hwb hrb hBb hstep HS HM hR hwb5 hts
              subst hsn
              go_wp2
              rw [← HWb.out]
              go_quiet (fail)
              go_wp2
              obtain ⟨w7, hw7⟩ : ∃ w7, w7 = wb.drewN nq := ⟨_, rfl⟩
              rw [← hw7]
              have HB7 : Hid (Below w5.heap.size w5 w7) := by show Below _ _ _; rw [hw7]; exact belowN HBb.out _
              have HM7 : Hid (FactsC w7 (.slice Ma Mn Mc) M) := by show FactsC _ _ _; rw [hw7]; exact ⟨facts_drewN HM'.out.1 _, HM'.out.2⟩
              have HRB7 : Hid (w7.heap[wr.heap.size]? = some (.cells #[.bool x.head.no, .string (bs x.head.name), .slice ta x.head.terms.length tc, .slice ba x.body.length bc] 57 (0, 0))) := by show _ = _; rw [hw7]; exact HRB.out
              have hz7 : wr.heap.size < w7.heap.size := (Array.getElem?_eq_some_iff.1 HRB7.out).1
              have HX0 : Hid (SameO (makesGo K N s p ss []) (match askP K N x M with
                | none => none
                | some acc' => makesGo K N s (p.drop (j + 1)) (ss.drop (j + 1)) acc')) := HSt2.out
              clear hw7 HM' HBb HWb HRB HSt2 e0 l0 r3 d0 d1 d2 d3 HB HBw HRr hzr hzb
              generalize wr.heap.size = rbk at *
              go_loopg [9, 12, 56] x.body.length (fun g v so i wq => ∃ q : Nat, q + g = x.body.length ∧ i = .int .i64 q ∧ ∃ (M1 : List FactB) (c : Nat), so = .int .i64 c ∧ c ≤ q ∧ Hid (c = 0 → M1 = M ∧ ∀ a ∈ x.body.take q, a.no = true) ∧ Hid (c ≠ 0 → ∃ a ∈ x.body, a.no = false) ∧ Hid (FactsC wq v M1) ∧ Hid (Up M1) ∧ M1.length ≤ 200000 * j + 20000 * q ∧ Hid (Below w7.heap.size w7 wq) ∧
                Hid (SameO (atGo K N x 0 x.body M) (atGo K N x q (x.body.drop q) M1)))
              case atStart => exact ⟨0, by omega, rfl, M, 0, rfl, by omega, (fun _ => ⟨rfl, fun a ha => by simp at ha⟩), (fun h => absurd rfl h), HM7, HU, by omega, Below.refl _ _, SameO.refl _⟩
              case round =>
                clear HM7
                obtain ⟨q, hq, rfl, M1, c, rfl, hcq, HC0, HC1, HM1, HU1, hM1l, HBq, HAt⟩ := hrel
                have hMs1 : ∃ a n c, u9 = .slice a n c := by obtain ⟨a, c, e⟩ := sliceFacts HM1.out.1; exact ⟨a, _, c, e⟩
                obtain ⟨Na, Nn, Nc, rfl⟩ := hMs1
                have hB5q : Below w5.heap.size w5 wr := below_trans HB7.out HBq.out HB7.out.size
                have HB5q := hide hB5q
                by_cases hlq : q < x.body.length
                · obtain ⟨a, ha⟩ : ∃ y, x.body[q]? = some y := ⟨_, List.getElem?_eq_getElem hlq⟩
                  have ham : a ∈ x.body := List.mem_of_getElem? ha
                  obtain ⟨b3, o3, _, rfl, hb3, ⟨av, rfl, hav⟩, hca⟩ := Kind.sl_at HBv.out ha
                  obtain ⟨aa, ac, rfl⟩ := Kind.slice hav
                  have d0 : wr.cell? ⟨b3, o3 + q * 3, none⟩ = some (.bool a.no) := by rw [hB5q.cell (p := ⟨b3, o3 + q * 3, none⟩) hb3]; exact hca 0 _ rfl
                  have d1 : wr.cell? ⟨b3, o3 + q * 3 + 1, none⟩ = some (.string (bs a.name)) := by rw [hB5q.cell (p := ⟨b3, o3 + q * 3 + 1, none⟩) hb3]; exact hca 1 _ rfl
                  have d2 : wr.cell? ⟨b3, o3 + q * 3 + 2, none⟩ = some (.slice aa a.terms.length ac) := by rw [hB5q.cell (p := ⟨b3, o3 + q * 3 + 2, none⟩) hb3]; exact hca 2 _ rfl
                  have hst := atGo_step (K := K) (N := N) (acc := M1) ha
                  have HTk : Hid (x.body.take (q + 1) = x.body.take q ++ [a]) := by show _ = _; rw [List.take_add_one, ha]; rfl
                  obtain ⟨w8, hw8⟩ : ∃ w8, w8 = wr.alloc (.cells #[.bool a.no, .string (bs a.name), .slice aa a.terms.length ac] 54) := ⟨_, rfl⟩
                  have hL8 : Later wr w8 := by rw [hw8]; exact (Later.refl _).alloc _
                  have HB8 : Hid (Below w7.heap.size w7 w8) := below_trans HBq.out hL8.below HBq.out.size
                  have HM8 := hide (HM1.out.later hL8)
                  have HW8 := hide hw8
                  cases hno : a.no with
                  | true =>
                    rw [hno] at d0 HW8
                    have HAt' : Hid (SameO (atGo K N x 0 x.body M) (atGo K N x (q + 1) (x.body.drop (q + 1)) M1)) := by show SameO _ _; rw [hst, hno] at HAt; exact HAt.out
                    have HC0' : Hid (c = 0 → M1 = M ∧ ∀ b ∈ x.body.take (q + 1), b.no = true) := fun h => ⟨(HC0.out h).1, fun b hb => by
                      rw [HTk.out] at hb
                      rcases List.mem_append.1 hb with hb | hb
                      · exact (HC0.out h).2 b hb
                      · simp at hb; rw [hb]; exact hno⟩
                    clear hno hst hca ha ham hav hL8 hw8 HTk HC0 HAt
                    generalize bs a.name = anm at *
                    go_wp2
                    rw [← HW8.out]
                    go_roundg (x.body.length - (q + 1))
                    case measure => omega
                    case rel => exact ⟨q + 1, by omega, by go_num, M1, c, rfl, by omega, HC0', HC1, HM8, HU1, by omega, HB8, HAt'⟩
                  | false =>
                    rw [hno] at d0 HW8
                    have hst2 : atGo K N x q (x.body.drop q) M1 = match allB (pickB K (q : Nat) N) x.body with | none => none | some R => atGo K N x (q + 1) (x.body.drop (q + 1)) (M1 ++ R.filterMap fun e => fillB x.head e) := by rw [hst, hno]; rfl
                    have HSp := hide hst2
                    have HYes : Hid (∃ b ∈ x.body, b.no = false) := ⟨a, ham, hno⟩
                    have hB58 : Below w5.heap.size w5 w8 := below_trans HB7.out HB8.out HB7.out.size
                    have HB58 := hide hB58
                    have HEn := hide (rEnvs x.body K N (q : Nat) (.slice (some ⟨b3, o3, none⟩) x.body.length bc) (.slice ka K.length kc) (.slice na N.length nc) w8 (Kind.sl_below HBv.out hB58) (HK5.out.below hB58) (HN5.out.below hB58) HWB.out HKs.out HNs.out)
                    have HPk := hide (fun ms h => heads_pick (r := x) (pick := pickB K (q : Nat) N) (ms := ms) h)
                    have HSmall : Hid (∀ ms, metGo (pickB K (q : Nat) N) 0 x.body [[]] = some ms → ms.length ≤ 20000) := fun ms h => meetAll_small _ x.body 0 [[]] ms (by simp) h
                    have HNone : Hid (metGo (pickB K (q : Nat) N) 0 x.body [[]] = none → allB (pickB K (q : Nat) N) x.body = none) := fun h => by unfold allB; rw [h]
                    obtain ⟨y0, y1, y2, y3, y4, _, _⟩ := row5 (HRow.out _ hB58).1
                    have z3 : w8.cell? ⟨rbk, 3, none⟩ = some (.slice (some ⟨b3, o3, none⟩) x.body.length bc) := by
                      rw [HB8.out.cell (p := ⟨rbk, 3, none⟩) hz7, cell_of_row _ _ _ _ _ _ HRB7.out]; rfl
                    rw [hw8, hno] at y0 y1 y2 y3 y4 z3
                    clear hno hst hst2 hca ha ham hav hL8 hw8 HTk HC0 hB58
                    generalize bs a.name = anm at *
                    go_wp2_with fail
                    rw [← HW8.out]
                    refine HEn.out.mono ?_
                    rintro e w9 ⟨ev, er, rfl, hE, hB9⟩
                    have HB9 : Hid (Below w7.heap.size w7 w9) := below_trans HB8.out hB9 HB8.out.size
                    have hB59 : Below w5.heap.size w5 w9 := below_trans HB58.out hB9 HB58.out.size
                    have HRs9 := hide (HRow.out _ hB59).2
                    have HBw9 : Hid (Below w.heap.size w w9) := below_trans HB5.out hB59 HB5.out.size
                    have hR9 : w9.heap[rbk]? = some (.cells #[.bool x.head.no, .string (bs x.head.name), .slice ta x.head.terms.length tc, .slice (some ⟨b3, o3, none⟩) x.body.length bc] 57 (0, 0)) := by rw [HB9.out.block _ hz7]; exact HRB7.out
                    have HM9 := hide (HM8.out.1.below hB9)
                    have hM9c := HM8.out.2
                    clear y0 y1 y2 y3 y4 z3 HEn HW8 HB58 HM8
                    cases hm : metGo (pickB K (q : Nat) N) 0 x.body [[]] with
                    | none =>
                      rw [hm] at hE
                      obtain ⟨rfl, rfl⟩ := hE
                      have hno : makesGo K N s p ss [] = none := same_none HX0.out (by
                        rw [askP_at HYes.out]
                        refine SameO.none (HAt.out.trans ?_)
                        rw [HSp.out, HNone.out hm]
                        trivial)
                      have HX3 : Hid (SF = (4, noRun)) := by show _ = _; rw [HX2.out]; exact nextP_none HRn.out hno
                      obtain ⟨q0, q1, q2, q3, q4, ⟨f0, f1, f2, f3, f4⟩, _⟩ := row5 HRs9.out
                      clear hm hno hB9 hB59 hR9
                      go_wp2
                      obtain ⟨r0, r1, r2, r3, r4⟩ := set5 HRs9.out (.slice none 0 0) (.slice none 0 0) (.int .i64 0) (.int .i64 0) (.bool false)
                      exact bodyPost_ret (v := .tuple #[.agg #[.slice none 0 0, .slice none 0 0, .int .i64 0, .int .i64 0, .bool false], .int .i64 4]) (by simp [results, Tryz.results10, go_sem, r0, r1, r2, r3, r4]) rfl ⟨_, 4, rfl, by rw [HX3.out]; exact ⟨rfl, RunV.none _⟩, Below.put5 HBw9.out (Nat.le_succ _)⟩
                    | some ms =>
                      rw [hm] at hE
                      obtain ⟨rfl, hEv⟩ := hE
                      obtain ⟨R, hRa, hRm⟩ := HPk.out ms hm
                      have hms := HSmall.out ms hm
                      have hfl := Nat.le_trans (List.length_filter_le (fun l => !barredB (pickB K (q : Nat) N) 0 x.body l) ms) hms
                      obtain ⟨ea', ec', rfl⟩ := Kind.slice hEv
                      have HMd := hide (rMade x (.slice ta x.head.terms.length tc) (.slice (some ⟨b3, o3, none⟩) x.body.length bc) _ _ 20 w9 (Kind.sl_below HTv.out hB59) ⟨_, _, _, rfl⟩ hEv HTS.out hfl)
                      have hxl : (setF ((ms.filter fun l => !barredB (pickB K (q : Nat) N) 0 x.body l).filterMap fun l => fillB x.head l)).length ≤ 20000 := Nat.le_trans (setF_len _) (Nat.le_trans (List.length_filterMap_le _ _) hfl)
                      have HAt2 : Hid (SameO (atGo K N x 0 x.body M) (atGo K N x (q + 1) (x.body.drop (q + 1)) (M1 ++ R.filterMap fun e => fillB x.head e))) := by
                        show SameO _ _
                        have h := HAt.out
                        rw [HSp.out, hRa] at h
                        exact h
                      have HRm : Hid (∀ f, f ∈ R.filterMap (fun e => fillB x.head e) ↔ f ∈ setF ((ms.filter fun l => !barredB (pickB K (q : Nat) N) 0 x.body l).filterMap fun l => fillB x.head l)) := fun f => by rw [mem_setF]; exact hRm f
                      have c0 : w9.cell? ⟨rbk, 0, none⟩ = some (.bool x.head.no) := by rw [cell_of_row _ _ _ _ _ _ hR9]; rfl
                      have c1 : w9.cell? ⟨rbk, 0 + 1, none⟩ = some (.string (bs x.head.name)) := by rw [cell_of_row _ _ _ _ _ _ hR9]; rfl
                      have c2 : w9.cell? ⟨rbk, 0 + 2, none⟩ = some (.slice ta x.head.terms.length tc) := by rw [cell_of_row _ _ _ _ _ _ hR9]; rfl
                      have c3 : w9.cell? ⟨rbk, 0 + 3, none⟩ = some (.slice (some ⟨b3, o3, none⟩) x.body.length bc) := by rw [cell_of_row _ _ _ _ _ _ hR9]; rfl
                      clear hm hEv hRa hRm hms hB59 hR9 HPk HSmall HNone HAt HSp
                      generalize setF ((ms.filter fun l => !barredB (pickB K (q : Nat) N) 0 x.body l).filterMap fun l => fillB x.head l) = X at *
                      generalize (ms.filter fun l => !barredB (pickB K (q : Nat) N) 0 x.body l) = L at *
                      generalize bs x.head.name = hnm at *
                      generalize x.head.no = hno at *
                      go_wp2_with fail
                      refine HMd.out.mono ?_
                      rintro e w10 ⟨v10, rfl, hF10, hL10⟩
                      have hMX : M1.length ≤ 4194304 := by omega
                      have HBo := hide (rBoth (.slice Na Nn Nc) v10 M1 X w10 (HM9.out.later hL10) hF10.1 hMX (by omega))
                      have hv10 : ∃ a n c, v10 = .slice a n c := by obtain ⟨a, c, e⟩ := sliceFacts hF10.1; exact ⟨a, _, c, e⟩
                      obtain ⟨va, vn, vc, rfl⟩ := hv10
                      have HB10 : Hid (Below w7.heap.size w7 w10) := below_trans HB9.out hL10.below HB9.out.size
                      clear c0 c1 c2 c3 hF10 hL10 HMd hB9
                      go_wp2_with fail
                      refine HBo.out.mono ?_
                      rintro e w11 ⟨v11, r, rfl, hF11, hS11, hL11⟩
                      have HB11 : Hid (Below w7.heap.size w7 w11) := below_trans HB10.out hL11.below HB10.out.size
                      have HF11 := hide hF11
                      have HU11 : Hid (Up r) := hS11.1
                      have hrl : r.length ≤ M1.length + X.length := by have := hS11.2.2; rw [List.length_append] at this; exact this
                      have HAt3 : Hid (SameO (atGo K N x 0 x.body M) (atGo K N x (q + 1) (x.body.drop (q + 1)) r)) := HAt2.out.trans (atGo_same _ _ fun f => by rw [hS11.2.1 f, List.mem_append, List.mem_append, HRm.out f])
                      have hv11 : ∃ a n c, v11 = .slice a n c := by obtain ⟨a, c, e⟩ := sliceFacts hF11.1; exact ⟨a, _, c, e⟩
                      obtain ⟨ya, yn, yc, rfl⟩ := hv11
                      clear hF11 hS11 hL11 HBo HAt2 HRm
                      go_wp2
                      go_roundg (x.body.length - (q + 1))
                      case measure => omega
                      case rel => exact ⟨q + 1, by omega, by go_num, r, c + 1, by go_num, by omega, (fun h => absurd h (by omega)), (fun _ => HYes.out), HF11, HU11, by omega, HB11, HAt3⟩
                · have hAt := HAt.out
                  rw [List.drop_eq_nil_of_le (by omega), atGo] at hAt
                  by_cases hc0 : c = 0
                  · obtain ⟨hMM, hall⟩ := HC0.out hc0
                    rw [List.take_of_length_le (by omega)] at hall
                    subst hc0
                    have HAll := hide hall
                    have hE0 := rEnvs x.body K [] (-1) (.slice ba x.body.length bc) (.slice ka K.length kc) (.slice none 0 0) wr (Kind.sl_below HBv.out hB5q) (HK5.out.below hB5q) (facts_nil wr) HWB.out HKs.out rfl
                    rw [pickB_all] at hE0
                    have HEn := hide hE0
                    obtain ⟨y0, y1, y2, y3, y4, _, _⟩ := row5 (HRow.out _ hB5q).1
                    have z3 : wr.cell? ⟨rbk, 3, none⟩ = some (.slice ba x.body.length bc) := by
                      rw [HBq.out.cell (p := ⟨rbk, 3, none⟩) hz7, cell_of_row _ _ _ _ _ _ HRB7.out]; rfl
                    have HMM := hide hMM
                    clear hAt hall hE0 hMM HC0 HC1 HAt
                    go_wp2_with fail
                    refine HEn.out.mono ?_
                    rintro e w9 ⟨ev, er, rfl, hE, hB9⟩
                    have HB9 : Hid (Below w7.heap.size w7 w9) := below_trans HBq.out hB9 HBq.out.size
                    have hB59 : Below w5.heap.size w5 w9 := below_trans HB5q.out hB9 HB5q.out.size
                    have HRs9 := hide (HRow.out _ hB59).2
                    have HBw9 : Hid (Below w.heap.size w w9) := below_trans HB5.out hB59 HB5.out.size
                    have hR9 : w9.heap[rbk]? = some (.cells #[.bool x.head.no, .string (bs x.head.name), .slice ta x.head.terms.length tc, .slice ba x.body.length bc] 57 (0, 0)) := by rw [HB9.out.block _ hz7]; exact HRB7.out
                    have HM9 := hide (HM1.out.1.below hB9)
                    clear y0 y1 y2 y3 y4 z3 HEn
                    cases hm : metGo (fun _ => K) 0 x.body [[]] with
                    | none =>
                      rw [hm] at hE
                      obtain ⟨rfl, rfl⟩ := hE
                      have hno : makesGo K N s p ss [] = none := same_none HX0.out (by
                        rw [askP_no HAll.out]
                        unfold headsP allB
                        rw [hm])
                      have HX3 : Hid (SF = (4, noRun)) := by show _ = _; rw [HX2.out]; exact nextP_none HRn.out hno
                      obtain ⟨q0, q1, q2, q3, q4, ⟨f0, f1, f2, f3, f4⟩, _⟩ := row5 HRs9.out
                      clear hm hno hB9 hB59 hR9
                      go_wp2
                      obtain ⟨r0, r1, r2, r3, r4⟩ := set5 HRs9.out (.slice none 0 0) (.slice none 0 0) (.int .i64 0) (.int .i64 0) (.bool false)
                      exact bodyPost_ret (v := .tuple #[.agg #[.slice none 0 0, .slice none 0 0, .int .i64 0, .int .i64 0, .bool false], .int .i64 4]) (by simp [results, Tryz.results10, go_sem, r0, r1, r2, r3, r4]) rfl ⟨_, 4, rfl, by rw [HX3.out]; exact ⟨rfl, RunV.none _⟩, Below.put5 HBw9.out (Nat.le_succ _)⟩
                    | some ms =>
                      rw [hm] at hE
                      obtain ⟨rfl, hEv⟩ := hE
                      have hho := heads_of (r := x) (fs := K) hm
                      have hms := meetAll_small (fun _ => K) x.body 0 [[]] ms (by simp) hm
                      have hfl := Nat.le_trans (List.length_filter_le (fun l => !barredB (fun _ => K) 0 x.body l) ms) hms
                      obtain ⟨ea', ec', rfl⟩ := Kind.slice hEv
                      have HMd := hide (rMade x (.slice ta x.head.terms.length tc) (.slice ba x.body.length bc) _ _ 20 w9 (Kind.sl_below HTv.out hB59) ⟨_, _, _, rfl⟩ hEv HTS.out hfl)
                      have hxl : (setF ((ms.filter fun l => !barredB (fun _ => K) 0 x.body l).filterMap fun l => fillB x.head l)).length ≤ 20000 := Nat.le_trans (setF_len _) (Nat.le_trans (List.length_filterMap_le _ _) hfl)
                      have HAsk : Hid (askP K N x M = some (M ++ setF ((ms.filter fun l => !barredB (fun _ => K) 0 x.body l).filterMap fun l => fillB x.head l))) := by show _ = _; rw [askP_no HAll.out, hho]
                      have c0 : w9.cell? ⟨rbk, 0, none⟩ = some (.bool x.head.no) := by rw [cell_of_row _ _ _ _ _ _ hR9]; rfl
                      have c1 : w9.cell? ⟨rbk, 0 + 1, none⟩ = some (.string (bs x.head.name)) := by rw [cell_of_row _ _ _ _ _ _ hR9]; rfl
                      have c2 : w9.cell? ⟨rbk, 0 + 2, none⟩ = some (.slice ta x.head.terms.length tc) := by rw [cell_of_row _ _ _ _ _ _ hR9]; rfl
                      have c3 : w9.cell? ⟨rbk, 0 + 3, none⟩ = some (.slice ba x.body.length bc) := by rw [cell_of_row _ _ _ _ _ _ hR9]; rfl
                      clear hm hEv hho hms hB59 hR9
                      generalize setF ((ms.filter fun l => !barredB (fun _ => K) 0 x.body l).filterMap fun l => fillB x.head l) = X at *
                      generalize (ms.filter fun l => !barredB (fun _ => K) 0 x.body l) = L at *
                      generalize bs x.head.name = hnm at *
                      generalize x.head.no = hno at *
                      go_wp2_with fail
                      refine HMd.out.mono ?_
                      rintro e w10 ⟨v10, rfl, hF10, hL10⟩
                      have hMX : M1.length ≤ 4194304 := by omega
                      have HBo := hide (rBoth (.slice Na Nn Nc) v10 M1 X w10 (HM9.out.later hL10) hF10.1 hMX (by omega))
                      have hv10 : ∃ a n c, v10 = .slice a n c := by obtain ⟨a, c, e⟩ := sliceFacts hF10.1; exact ⟨a, _, c, e⟩
                      obtain ⟨va, vn, vc, rfl⟩ := hv10
                      have HB10 : Hid (Below w7.heap.size w7 w10) := below_trans HB9.out hL10.below HB9.out.size
                      clear c0 c1 c2 c3 hF10 hL10 HMd hB9
                      go_wp2_with fail
                      refine HBo.out.mono ?_
                      rintro e w11 ⟨v11, r, rfl, hF11, hS11, hL11⟩
                      have HB11 : Hid (Below w5.heap.size w5 w11) := below_trans HB7.out (below_trans HB10.out hL11.below HB10.out.size) HB7.out.size
                      have HF11 := hide hF11
                      have HU11 : Hid (Up r) := hS11.1
                      have hrl : r.length ≤ M1.length + X.length := by have := hS11.2.2; rw [List.length_append] at this; exact this
                      have HS3 : Hid (SameO (makesGo K N s p ss []) (makesGo K N s (p.drop (j + 1)) (ss.drop (j + 1)) r)) := same_on HX0.out (by
                        rw [HAsk.out]
                        exact fun f => by rw [hS11.2.1 f, HMM.out])
                      have hv11 : ∃ a n c, v11 = .slice a n c := by obtain ⟨a, c, e⟩ := sliceFacts hF11.1; exact ⟨a, _, c, e⟩
                      obtain ⟨ya, yn, yc, rfl⟩ := hv11
                      clear hF11 hS11 hL11 HBo HAsk
                      go_wp2
                      go_roundg (p.length - (j + 1))
                      case measure => omega
                      case rel => exact ⟨j + 1, by omega, by go_num, r, HF11, HU11, by omega, HB11, HS3⟩
                  · have HS3 : Hid (SameO (makesGo K N s p ss []) (makesGo K N s (p.drop (j + 1)) (ss.drop (j + 1)) M1)) := same_on HX0.out (by rw [askP_at (HC1.out hc0)]; exact hAt)
                    have hcz : ¬ ((c : Int) = 0) := by omega
                    clear hAt HC0 HC1 HAt hc0
                    go_wp2
                    go_roundg (p.length - (j + 1))
                    case measure => omega
                    case rel => exact ⟨j + 1, by omega, by go_num, M1, HM1, HU1, by omega, HB5q, HS3⟩
            · rw [if_neg hsn] at hstep
              have hneq : ((s : Int) != lev) = true := by simp [hsn]
              have HS' : Hid (SameO (makesGo K N lev p ss []) (makesGo K N lev (p.drop (j + 1)) (ss.drop (j + 1)) M)) := by show SameO _ _; rw [← hstep]; exact HS.out
              clear hc hc2 hx hs htv hbv hpd hsd hLb hwb hrb hBb hstep HS HM
              generalize bs x.head.name = nm at *
              generalize x.head.no = no at *
              go_wp2
              rw [← HWb.out]
              go_quiet (fail)
              go_wp2
              go_roundg (p.length - (j + 1))
              case measure => omega
              case rel => exact ⟨j + 1, by omega, by go_num, M, ⟨facts_drewN HM'.out.1 _, HM'.out.2⟩, HU, by omega, belowN HBb.out _, HS'⟩
          · have hS := HS.out
            rw [List.drop_eq_nil_of_le (by omega)] at hS
            have hS2 : SameO (makesGo K N lev p ss []) (some M) := by simpa [makesGo] using hS
            have hNx := nextP_same HRn.out hS2
            rw [← HX2.out] at hNx
            have hfil : (M.filter fun f => !inFrom K f 0) = newOf K M := by
              rw [filter_in]
              unfold newOf
              rw [setF_up_self (HU.out.filter _)]
            have HNx := hide hNx
            have hKf := HRN.out.good.few
            dsimp only at hKf
            have HSc : Hid (∀ w', Below wr.heap.size wr w' → w'.cell? ⟨w.heap.size, 0, none⟩ = some (.slice ka K.length kc) ∧ w'.cell? ⟨w.heap.size, 2, none⟩ = some (.int .i64 lev) ∧ w'.cell? ⟨w.heap.size, 3, none⟩ = some (.int .i64 rn)) := fun w' h => by
              obtain ⟨y0, y1, y2, y3, y4, _, _⟩ := row5 (HRow.out _ (below_trans HB.out h HB.out.size)).1
              exact ⟨y0, y2, y3⟩
            obtain ⟨Ma, Mn, Mc, rfl⟩ := hMs
            have HBo : Hid (∀ w', Below wr.heap.size wr w' → Calls Tryz.prog 24 #[.slice ka K.length kc, .slice Ma Mn Mc] w' fun e w'' => ∃ v', e = .returned v' ∧ Facts w'' v' (setF (K ++ M)) ∧ Below wr.heap.size wr w'' ∧ Later w' w'') := fun w' h =>
              (rBoth _ _ K M w' ((HK5.out.below HB.out).below h) (HM.out.1.below h) (by omega) (by omega)).mono fun e w'' ⟨v', r, he, hF, hSt, hL⟩ => ⟨v', he, by rw [← setF_of hSt.1 hSt.2.1]; exact hF.1, below_trans h hL.below h.size, hL⟩
            have HMi : Hid (∀ w', Below wr.heap.size wr w' → Calls Tryz.prog 26 #[.slice Ma Mn Mc, .slice ka K.length kc] w' fun e w'' => ∃ v', e = .returned v' ∧ Facts w'' v' (newOf K M) ∧ Below wr.heap.size wr w'' ∧ Later w' w'') := fun w' h => by
              have hm := rMinus _ _ M K w' (HM.out.1.below h) ((HK5.out.below HB.out).below h)
              rw [hfil] at hm
              exact hm.mono fun e w'' ⟨v', he, hF, hL⟩ => ⟨v', he, hF, below_trans h hL.below h.size, hL⟩
            clear hS hS2 hNx hfil HS HU
            have hwrp : IntKind.i64.wrap (rn + 1) = rn + 1 := by rw [IntKind.wrap_i64]; omega
            go_wp2
            refine wp_region_held_drew (S := fun w' => Below wr.heap.size wr w') (by kernel_rfl) (Below.refl _ _).drew (fun hHeld => ?_)
            refine take_yes (i := 0) (d := some 106) (v := ?_) rfl rfl hHeld ?_ ?_; rotate_left; focus intro w hSw; (try dsimp only at hSw);  go_simp; try with_reducible rfl
            simp only [aput, aset, aze, asu]
            refine take_yes (i := 1) (d := some 107) (v := ?_) rfl rfl hHeld ?_ ?_; rotate_left; focus intro w hSw; (try dsimp only at hSw); obtain ⟨p0, p2, p3⟩ := HSc.out _ hSw; go_simp; try with_reducible rfl
            simp only [aput, aset, aze, asu]
            refine take_yes (i := 2) (d := some 108) (v := ?_) rfl rfl hHeld ?_ ?_; rotate_left; focus intro w hSw; (try dsimp only at hSw);  go_simp; try with_reducible rfl
            simp only [aput, aset, aze, asu]
            refine take_yes (i := 4) (d := some 110) (v := ?_) rfl rfl hHeld ?_ ?_; rotate_left; focus intro w hSw; (try dsimp only at hSw);  go_simp; try with_reducible rfl
            simp only [aput, aset, aze, asu]
            refine take_yes (i := 5) (d := some 111) (v := ?_) rfl rfl hHeld ?_ ?_; rotate_left; focus intro w hSw; (try dsimp only at hSw);  go_simp; try with_reducible rfl
            simp only [aput, aset, aze, asu]
            refine take_yes (i := 6) (d := some 112) (v := ?_) rfl rfl hHeld ?_ ?_; rotate_left; focus intro w hSw; (try dsimp only at hSw); obtain ⟨p0, p2, p3⟩ := HSc.out _ hSw; go_simp; try with_reducible rfl
            simp only [aput, aset, aze, asu]
            refine take_yes (i := 8) (d := some 114) (v := ?_) rfl rfl hHeld ?_ ?_; rotate_left; focus intro w hSw; (try dsimp only at hSw);  go_simp; try with_reducible rfl
            simp only [aput, aset, aze, asu]
            refine take_yes (i := 9) (d := some 115) (v := ?_) rfl rfl hHeld ?_ ?_; rotate_left; focus intro w hSw; (try dsimp only at hSw); obtain ⟨p0, p2, p3⟩ := HSc.out _ hSw; go_simp; try with_reducible rfl
            simp only [aput, aset, aze, asu]
            refine take_yes (i := 10) (d := some 116) (v := ?_) rfl rfl hHeld ?_ ?_; rotate_left; focus intro w hSw; (try dsimp only at hSw);  go_simp; try with_reducible rfl
            simp only [aput, aset, aze, asu]
            refine take_yes (i := 11) (d := some 117) (v := ?_) rfl rfl hHeld ?_ ?_; rotate_left; focus intro w hSw; (try dsimp only at hSw); obtain ⟨p0, p2, p3⟩ := HSc.out _ hSw; go_simp; try with_reducible rfl
            simp only [aput, aset, aze, asu]
            refine take_yes (i := 12) (d := some 118) (v := ?_) rfl rfl hHeld ?_ ?_; rotate_left; focus intro w hSw; (try dsimp only at hSw);  go_simp; try with_reducible rfl
            simp only [aput, aset, aze, asu]
            have hBe : Below wr.heap.size wr wr.drew := (Below.refl _ _).drew
            refine wpAnyH_ready (rs := [3, 14]) (by kernel_rfl) (by simp) ?_
            refine AllReadyH.cons rfl (fun K' hK => ?ga) (AllReadyH.cons rfl (fun K' hK => ?gb) AllReadyH.nil)
            case' ga =>
              go_simp
              refine (HBo.out _ hBe).mono ?_
              rintro e wx ⟨v1, rfl, hF1, hB1, hL1⟩
              obtain ⟨a1, c1, rfl⟩ := sliceFacts hF1
              refine hK.out _ _ hB1 (fun hHeld => ?_)
              clear hK K' hBe hL1
              have hBe := hB1
              refine wpAnyH_ready (rs := [7, 14]) (by kernel_rfl) (by simp) ?_
              refine AllReadyH.cons rfl (fun K' hK => ?gaa) (AllReadyH.cons rfl (fun K' hK => ?gab) AllReadyH.nil)
              case' gaa =>
                go_simp
                refine (HMi.out _ hBe).mono ?_
                rintro e wy ⟨v2, rfl, hF2, hB2, hL2⟩
                obtain ⟨a2, c2, rfl⟩ := sliceFacts hF2
                have hF1 := hF1.later hL2
                refine hK.out _ _ hB2 (fun hHeld => ?_)
                clear hK K' hL2 hBe
                have hBe := hB2
                refine take_yes (i := 13) (d := some 119) (v := ?_) rfl rfl hHeld ?_ ?_; rotate_left; focus intro w hSw; (try dsimp only at hSw);  go_simp; try with_reducible rfl
                simp only [aput, aset, aze, asu]
                refine wpAnyH_ready (rs := [14]) (by kernel_rfl) (by simp) ?_
                refine AllReadyH.cons rfl (fun K' hK => ?_) AllReadyH.nil
                go_simp
                have hzN := heap_alloc_new (wy) (.cells #[.slice none 0 0, .slice none 0 0, .int .i64 0, .int .i64 0, .bool false] 26)
                have hBe2 := below_trans hBe ((Later.refl (wy)).alloc (.cells #[.slice none 0 0, .slice none 0 0, .int .i64 0, .int .i64 0, .bool false] 26)).below hBe.size
                have hF1 := hF1.later ((Later.refl (wy)).alloc (.cells #[.slice none 0 0, .slice none 0 0, .int .i64 0, .int .i64 0, .bool false] 26))
                have hF2 := hF2.later ((Later.refl (wy)).alloc (.cells #[.slice none 0 0, .slice none 0 0, .int .i64 0, .int .i64 0, .bool false] 26))
                have hbx : wr.heap.size ≤ (wy).heap.size := hBe.size
                have hbl : (wy).heap.size < ((wy).alloc (.cells #[.slice none 0 0, .slice none 0 0, .int .i64 0, .int .i64 0, .bool false] 26)).heap.size := by simp
                refine hK.out _ _ hBe2 (fun hHeld => ?_)
                clear hK K' hBe hHeld
                generalize (wy).heap.size = bx at *
                generalize (wy).alloc (.cells #[.slice none 0 0, .slice none 0 0, .int .i64 0, .int .i64 0, .bool false] 26) = wf at *
                have hBe := hBe2
                have hHeld := hBe2
                clear hBe2
              case' gab =>
                go_simp
                have hzN := heap_alloc_new (wx) (.cells #[.slice none 0 0, .slice none 0 0, .int .i64 0, .int .i64 0, .bool false] 26)
                have hBe2 := below_trans hBe ((Later.refl (wx)).alloc (.cells #[.slice none 0 0, .slice none 0 0, .int .i64 0, .int .i64 0, .bool false] 26)).below hBe.size
                have hF1 := hF1.later ((Later.refl (wx)).alloc (.cells #[.slice none 0 0, .slice none 0 0, .int .i64 0, .int .i64 0, .bool false] 26))
                have hbx : wr.heap.size ≤ (wx).heap.size := hBe.size
                have hbl : (wx).heap.size < ((wx).alloc (.cells #[.slice none 0 0, .slice none 0 0, .int .i64 0, .int .i64 0, .bool false] 26)).heap.size := by simp
                refine hK.out _ _ hBe2 (fun hHeld => ?_)
                clear hK K' hBe hHeld
                generalize (wx).heap.size = bx at *
                generalize (wx).alloc (.cells #[.slice none 0 0, .slice none 0 0, .int .i64 0, .int .i64 0, .bool false] 26) = wz at *
                have hBe := hBe2
                have hHeld := hBe2
                clear hBe2
                refine wpAnyH_ready (rs := [7]) (by kernel_rfl) (by simp) ?_
                refine AllReadyH.cons rfl (fun K' hK => ?_) AllReadyH.nil
                go_simp
                refine (HMi.out _ hBe).mono ?_
                rintro e wf ⟨v2, rfl, hF2, hB2, hL2⟩
                have hzN := (hL2.block hbl).trans hzN
                have hbl : bx < wf.heap.size := Nat.lt_of_lt_of_le hbl hL2.size
                obtain ⟨a2, c2, rfl⟩ := sliceFacts hF2
                have hF1 := hF1.later hL2
                refine hK.out _ _ hB2 (fun hHeld => ?_)
                clear hK K' hL2 hBe
                have hBe := hB2
                refine take_yes (i := 13) (d := some 119) (v := ?_) rfl rfl hHeld ?_ ?_; rotate_left; focus intro w hSw; (try dsimp only at hSw);  go_simp; try with_reducible rfl
                simp only [aput, aset, aze, asu]
            case' gb =>
              go_simp
              have hzN : ((wr.alloc (.cells #[.slice none 0 0, .slice none 0 0, .int .i64 0, .int .i64 0, .bool false] 26)).drew).heap[wr.heap.size]? = some (.cells #[.slice none 0 0, .slice none 0 0, .int .i64 0, .int .i64 0, .bool false] 26 (0, 0)) := heap_alloc_new wr (.cells #[.slice none 0 0, .slice none 0 0, .int .i64 0, .int .i64 0, .bool false] 26)
              have hBe2 : Below wr.heap.size wr ((wr.alloc (.cells #[.slice none 0 0, .slice none 0 0, .int .i64 0, .int .i64 0, .bool false] 26)).drew) := ((Later.refl wr).alloc (.cells #[.slice none 0 0, .slice none 0 0, .int .i64 0, .int .i64 0, .bool false] 26)).drew.below
              have hbx : wr.heap.size ≤ wr.heap.size := Nat.le_refl _
              have hbl : wr.heap.size < ((wr.alloc (.cells #[.slice none 0 0, .slice none 0 0, .int .i64 0, .int .i64 0, .bool false] 26)).drew).heap.size := by simp
              obtain ⟨bx, hbxe⟩ : ∃ bx, wr.heap.size = bx := ⟨_, rfl⟩
              rw [hbxe] at hzN hbl
              have hbx : wr.heap.size ≤ bx := by omega
              refine hK.out _ _ hBe2 (fun hHeld => ?_)
              clear hK K' hBe hHeld
              generalize ((wr.alloc (.cells #[.slice none 0 0, .slice none 0 0, .int .i64 0, .int .i64 0, .bool false] 26)).drew) = wz at *
              have hBe := hBe2
              have hHeld := hBe2
              clear hBe2
              refine wpAnyH_ready (rs := [3]) (by kernel_rfl) (by simp) ?_
              refine AllReadyH.cons rfl (fun K' hK => ?_) AllReadyH.nil
              go_simp
              refine (HBo.out _ hBe).mono ?_
              rintro e wx ⟨v1, rfl, hF1, hB1, hL1⟩
              have hzN := (hL1.block hbl).trans hzN
              have hbl : bx < wx.heap.size := Nat.lt_of_lt_of_le hbl hL1.size
              obtain ⟨a1, c1, rfl⟩ := sliceFacts hF1
              refine hK.out _ _ hB1 (fun hHeld => ?_)
              clear hK K' hBe hL1
              have hBe := hB1
              refine wpAnyH_ready (rs := [7]) (by kernel_rfl) (by simp) ?_
              refine AllReadyH.cons rfl (fun K' hK => ?_) AllReadyH.nil
              go_simp
              refine (HMi.out _ hBe).mono ?_
              rintro e wf ⟨v2, rfl, hF2, hB2, hL2⟩
              have hzN := (hL2.block hbl).trans hzN
              have hbl : bx < wf.heap.size := Nat.lt_of_lt_of_le hbl hL2.size
              obtain ⟨a2, c2, rfl⟩ := sliceFacts hF2
              have hF1 := hF1.later hL2
              refine hK.out _ _ hB2 (fun hHeld => ?_)
              clear hK K' hL2 hBe
              have hBe := hB2
              refine take_yes (i := 13) (d := some 119) (v := ?_) rfl rfl hHeld ?_ ?_; rotate_left; focus intro w hSw; (try dsimp only at hSw);  go_simp; try with_reducible rfl
              simp only [aput, aset, aze, asu]
            all_goals
              refine wpAnyH_ready (rs := [15]) (by kernel_rfl) (by simp) ?_
              refine AllReadyH.cons rfl (fun K' hK => ?_) AllReadyH.nil
              obtain ⟨b0, b1, b2, b3, b4, ⟨g0, g1, g2, g3, g4⟩, _⟩ := row5 hzN
              go_simp
              refine hK.out _ _ (Below.put5 hBe hbx) (fun hHeld => ?_)
              clear hK K'
              refine wpAnyH_done (by kernel_rfl) ?_ _
              obtain ⟨wp, hwp⟩ : ∃ wp, wp = put5 wf bx (.slice a1 (setF (K ++ M)).length c1) (.slice a2 (newOf K M).length c2) (.int .i64 lev) (.int .i64 (rn + 1)) (.bool false) := ⟨_, rfl⟩
              have hRp : wp.heap[bx]? = some (.cells #[.slice a1 (setF (K ++ M)).length c1, .slice a2 (newOf K M).length c2, .int .i64 lev, .int .i64 (rn + 1), .bool false] 26 (0, 0)) := by rw [hwp]; exact set_five hzN _ _ _ _ _
              have hF1p : Facts wp (.slice a1 (setF (K ++ M)).length c1) (setF (K ++ M)) := by rw [hwp]; exact facts_box (run_noText hzN) (put5_tn _ _ _ _ _ _ _) hF1
              have hF2p : Facts wp (.slice a2 (newOf K M).length c2) (newOf K M) := by rw [hwp]; exact facts_box (run_noText hzN) (put5_tn _ _ _ _ _ _ _) hF2
              have hBp : Below wr.heap.size wr wp := by rw [hwp]; exact Below.put5 hBe hbx
              have hB5p : Below w5.heap.size w5 wp := below_trans HB.out hBp HB.out.size
              have HB5p := hide hB5p
              have hRs := (HRow.out _ hB5p).2
              have HBwp : Hid (Below w.heap.size w wp) := below_trans HB5.out hB5p HB5.out.size
              have hbx2 : w.heap.size + 2 ≤ bx := by omega
              have hbx5 : w5.heap.size ≤ bx := by omega
              unfold put5 at hwp
              have HWp := hide hwp
              have HRp := hide hRp
              have HRs := hide hRs
              have HF1 := hide hF1p
              have HF2 := hide hF2p
              have hz1l : (setF (K ++ M)).length ≤ 4000000 := by have := setF_len (K ++ M); rw [List.length_append] at this; omega
              have hn1l : (newOf K M).length ≤ 4000000 := by
                have h1 := setF_len (M.filter fun f => !inB K f)
                have h2 := List.length_filter_le (fun f => !inB K f) M
                unfold newOf
                omega
              obtain ⟨r0, r1, r2, r3, r4, ⟨s0, s1, s2, s3, s4⟩, _⟩ := row5 hRp
              obtain ⟨q0, q1, q2, q3, q4, ⟨f0, f1, f2, f3, f4⟩, _⟩ := row5 hRs
              rw [← HWp.out]
              clear hwp hRp hRs hF1p hF2p hBp hB5p hzN hF1 hF2 hBe hbl b0 b1 b2 b3 b4 g0 g1 g2 g3 g4 HWp HBo HMi HSc hHeld HM
              have HNx1 : Hid (SF = if 200 < (setF (K ++ M)).length then (5, noRun) else if newOf K M = [] then (0, ⟨setF (K ++ M), setF (K ++ M), lev + 1, rn + 1, decide (lev + 1 = countP ss)⟩) else (0, ⟨setF (K ++ M), newOf K M, lev, rn + 1, false⟩)) := HNx.out
              generalize setF (K ++ M) = Z1 at *
              generalize newOf K M = N1 at *
              by_cases hbig : 200 < Z1.length
              · have HX3 : Hid (SF = (5, noRun)) := by show _ = _; rw [HNx1.out, if_pos hbig]
                have hbz : (200 : Int) < (Z1.length : Int) := by omega
                clear HNx HNx1
                go_wp2
                obtain ⟨r0, r1, r2, r3, r4⟩ := set5 HRs.out (.slice none 0 0) (.slice none 0 0) (.int .i64 0) (.int .i64 0) (.bool false)
                exact bodyPost_ret (v := .tuple #[.agg #[.slice none 0 0, .slice none 0 0, .int .i64 0, .int .i64 0, .bool false], .int .i64 5]) (by simp [results, Tryz.results10, go_sem, r0, r1, r2, r3, r4]) rfl ⟨_, 5, rfl, by rw [HX3.out]; exact ⟨rfl, RunV.none _⟩, Below.put5 HBwp.out (Nat.le_succ _)⟩
              · have hbz : ¬ (200 : Int) < (Z1.length : Int) := by omega
                by_cases hnew : N1 = []
                · have HX3 : Hid (SF = (0, ⟨Z1, Z1, lev + 1, rn + 1, lev + 1 == ((countP ss : Nat) : Int)⟩)) := by show _ = _; rw [HNx1.out, if_neg hbig, if_pos hnew]; rfl
                  have hd0 : ((N1.length : Int) = 0) := by rw [hnew]; rfl
                  obtain ⟨wq, hwq⟩ : ∃ wq, wq = ((wp.setCell ⟨bx, 1, none⟩ (.slice a1 Z1.length c1)).setCell ⟨bx, 2, none⟩ (.int .i64 (lev + 1))) := ⟨_, rfl⟩
                  have htq : Tn bx wp wq := by rw [hwq]; exact Tn.setCell (p := bx) (Tn.setCell (p := bx) (Tn.refl bx wp) (x := ⟨bx, 1, none⟩) (Or.inl rfl) _) (x := ⟨bx, 2, none⟩) (Or.inl rfl) _
                  have hRq : wq.heap[bx]? = some (.cells #[.slice a1 Z1.length c1, .slice a1 Z1.length c1, .int .i64 (lev + 1), .int .i64 (rn + 1), .bool false] 26 (0, 0)) := by rw [hwq, set_at (j := 2) (set_at (j := 1) HRp.out _) _]; rfl
                  have hRsq : wq.heap[w.heap.size + 1]? = some (.cells #[.slice none 0 0, .slice none 0 0, .int .i64 0, .int .i64 0, .bool false] 26 (0, 0)) := by rw [htq.block _ (by have := (Array.getElem?_eq_some_iff.1 HRs.out).1; omega) (by omega)]; exact HRs.out
                  have hB5q : Below w5.heap.size w5 wq := below_trans HB5p.out (htq.below (n := w5.heap.size) hbx5 HB5p.out.size) (Nat.le_refl _)
                  have hF1q : Facts wq (.slice a1 Z1.length c1) Z1 := facts_box (run_noText HRp.out) htq HF1.out
                  have HBwq : Hid (Below w.heap.size w wq) := below_trans HB5.out hB5q HB5.out.size
                  have hCn := rCount ss (.slice ua ss.length uc) wq.drew (Kind.sl_below HU5.out hB5q.drew) HSm.out
                  have HCn := hide hCn
                  have HRq := hide hRq
                  have HRsq := hide hRsq
                  have HF1q := hide hF1q
                  have HWq := hide hwq
                  obtain ⟨x0, x1, x2, x3, x4, ⟨t0, t1, t2, t3, t4⟩, _⟩ := row5 hRq
                  obtain ⟨k0, k1, k2, k3, k4, ⟨l0, l1, l2, l3, l4⟩, _⟩ := row5 hRsq
                  have HLn := hide hd0
                  clear hwq htq hRq hRsq hB5q hF1q hCn HNx HNx1 hnew HF1 HF2
                  go_wp2
                  rw [← HWq.out]
                  clear HWq r0 r1 r2 r3 r4 s0 s1 s2 s3 s4
                  refine wp_region_held_drew (S := fun w' => w'.cell? ⟨bx, 2, none⟩ = some (.int .i64 (lev + 1)) ∧ Tn bx wq w') (by kernel_rfl) ⟨x2, (Tn.refl _ _).drew⟩ (fun hHeld => ?_)
                  refine take_yes (i := 0) (d := some 136) (v := ?_) rfl rfl hHeld ?_ ?_; rotate_left; focus intro w hSw; (try dsimp only at hSw);  go_simp; try with_reducible rfl
                  simp only [aput, aset, aze, asu]
                  refine take_yes (i := 1) (d := some 137) (v := ?_) rfl rfl hHeld ?_ ?_; rotate_left; focus intro w hSw; (try dsimp only at hSw); have qq := hSw.1; go_simp; try with_reducible rfl
                  simp only [aput, aset, aze, asu]
                  refine take_yes (i := 2) (d := some 138) (v := ?_) rfl rfl hHeld ?_ ?_; rotate_left; focus intro w hSw; (try dsimp only at hSw);  go_simp; try with_reducible rfl
                  simp only [aput, aset, aze, asu]
                  refine wpAnyH_ready (rs := [3]) (by kernel_rfl) (by simp) ?_
                  refine AllReadyH.cons rfl (fun K hK => ?_) AllReadyH.nil
                  go_simp
                  refine HCn.out.mono ?_
                  rintro e wv ⟨rfl, hwv⟩
                  obtain rfl : wq.drew = wv := hwv.symm
                  clear hwv
                  refine hK.out _ _ ⟨x2, (Tn.refl _ _).drew⟩ (fun hHeld => ?_)
                  clear hK K
                  refine take_yes (i := 4) (d := some 140) (v := ?_) rfl rfl hHeld ?_ ?_; rotate_left; focus intro w hSw; (try dsimp only at hSw);  go_simp; try with_reducible rfl
                  simp only [aput, aset, aze, asu]
                  refine take_yes (i := 5) (d := some 141) (v := ?_) rfl rfl hHeld ?_ ?_; rotate_left; focus intro w hSw; (try dsimp only at hSw);  go_simp; try with_reducible rfl
                  simp only [aput, aset, aze, asu]
                  refine wpAnyH_ready (rs := [6]) (by kernel_rfl) (by simp) ?_
                  refine AllReadyH.cons rfl (fun K' hK => ?_) AllReadyH.nil
                  go_simp
                  refine hK.out _ _ ⟨by show (World.setCell _ _ _).cell? _ = _; rw [World.cell?_setCell_other _ _ _ _ (by simp)]; exact x2, (Tn.setCell (p := bx) (Tn.refl bx wq) (x := ⟨bx, 4, none⟩) (Or.inl rfl) _).drew⟩ (fun hHeld => ?_)
                  clear hK K' hHeld
                  refine wpAnyH_done (by kernel_rfl) ?_ _
                  have ht4 : Tn bx wq (wq.setCell ⟨bx, 4, none⟩ (.bool (lev + 1 == ((countP ss : Nat) : Int)))) := Tn.setCell (p := bx) (Tn.refl bx wq) (x := ⟨bx, 4, none⟩) (Or.inl rfl) _
                  have hRs4 : (wq.setCell ⟨bx, 4, none⟩ (.bool (lev + 1 == ((countP ss : Nat) : Int)))).heap[w.heap.size + 1]? = some (.cells #[.slice none 0 0, .slice none 0 0, .int .i64 0, .int .i64 0, .bool false] 26 (0, 0)) := by rw [heap_setCell_other _ _ _ (by show w.heap.size + 1 ≠ bx; omega)]; exact HRsq.out
                  have HFp := hide (facts_box (run_noText hRs4) (put5_tn (wq.setCell ⟨bx, 4, none⟩ (.bool (lev + 1 == ((countP ss : Nat) : Int)))) (w.heap.size + 1) (.slice a1 Z1.length c1) (.slice a1 Z1.length c1) (.int .i64 (lev + 1)) (.int .i64 (rn + 1)) (.bool (lev + 1 == ((countP ss : Nat) : Int)))) (facts_box (run_noText HRq.out) ht4 HF1q.out))
                  have HB4 : Hid (Below w.heap.size w (wq.setCell ⟨bx, 4, none⟩ (.bool (lev + 1 == ((countP ss : Nat) : Int))))) := Below.put HBwq.out (by omega)
                  have HRs4 := hide hRs4
                  clear ht4 hRs4 HCn
                  go_wp2
                  obtain ⟨r0, r1, r2, r3, r4⟩ := set5 HRs4.out (.slice a1 Z1.length c1) (.slice a1 Z1.length c1) (.int .i64 (lev + 1)) (.int .i64 (rn + 1)) (.bool (lev + 1 == ((countP ss : Nat) : Int)))
                  exact bodyPost_ret (v := .tuple #[.agg #[.slice a1 Z1.length c1, .slice a1 Z1.length c1, .int .i64 (lev + 1), .int .i64 (rn + 1), .bool (lev + 1 == ((countP ss : Nat) : Int))], .int .i64 0]) (by simp [results, Tryz.results10, go_sem, r0, r1, r2, r3, r4]) rfl ⟨_, 0, rfl, by rw [HX3.out]; exact ⟨rfl, _, _, rfl, HFp.out.below (Below.refl _ _).drew, HFp.out.below (Below.refl _ _).drew⟩, (Below.put5 HB4.out (Nat.le_succ _)).drew⟩
                · have HX3 : Hid (SF = (0, ⟨Z1, N1, lev, rn + 1, false⟩)) := by show _ = _; rw [HNx1.out, if_neg hbig, if_neg hnew]
                  have hd0 : ¬ ((N1.length : Int) = 0) := by
                    cases N1
                    · exact absurd rfl hnew
                    · simp; omega
                  have HFp := hide (facts_box (run_noText HRs.out) (put5_tn wp (w.heap.size + 1) (.slice a1 Z1.length c1) (.slice a2 N1.length c2) (.int .i64 lev) (.int .i64 (rn + 1)) (.bool false)) HF1.out)
                  have HGp := hide (facts_box (run_noText HRs.out) (put5_tn wp (w.heap.size + 1) (.slice a1 Z1.length c1) (.slice a2 N1.length c2) (.int .i64 lev) (.int .i64 (rn + 1)) (.bool false)) HF2.out)
                  clear HNx HNx1 hnew
                  go_wp2
                  obtain ⟨r0, r1, r2, r3, r4⟩ := set5 HRs.out (.slice a1 Z1.length c1) (.slice a2 N1.length c2) (.int .i64 lev) (.int .i64 (rn + 1)) (.bool false)
                  exact bodyPost_ret (v := .tuple #[.agg #[.slice a1 Z1.length c1, .slice a2 N1.length c2, .int .i64 lev, .int .i64 (rn + 1), .bool false], .int .i64 0]) (by simp [results, Tryz.results10, go_sem, r0, r1, r2, r3, r4]) rfl ⟨_, 0, rfl, by rw [HX3.out]; exact ⟨rfl, _, _, rfl, HFp.out, HGp.out⟩, Below.put5 HBwp.out (Nat.le_succ _)⟩
  · have HX1 : Hid (SF = (R, noRun)) := by show _ = _; rw [HX.out, if_pos h0]
    have hne : (R != 0) = true := by simpa using h0
    clear HX HGo h0
    go_wp2
    obtain ⟨r0, r1, r2, r3, r4⟩ := set5 HRs3.out (.slice none 0 0) (.slice none 0 0) (.int .i64 0) (.int .i64 0) (.bool false)
    exact bodyPost_ret (v := .tuple #[.agg #[.slice none 0 0, .slice none 0 0, .int .i64 0, .int .i64 0, .bool false], .int .i64 R]) (by simp [results, Tryz.results10, go_sem, r0, r1, r2, r3, r4]) rfl ⟨_, R, rfl, by rw [HX1.out]; exact ⟨rfl, RunV.none _⟩, Below.put5 HB3.out (Nat.le_succ _)⟩

end Go.Proofs.YtilkggldmgeagaaGreatDoor

/- The reference's Steps. -/
namespace Go.Proofs.YtilkggldmgeagaaGreatDoor
open Go.RowKit Go.Sort Go.Maps

theorem stepsF_okR {p : List RuleD} {r : RunD} {n : Int} (h : (stepsF p r n).1 = 0) : wrongRunP p r = 0 ∧ 0 ≤ n ∧ n ≤ 1000 ∧ stepsF p r n = stepsP p (strataP p).1 n.toNat r := by
  unfold stepsF at h ⊢
  split at h
  · rename_i h1; exact absurd h h1
  · rename_i h1
    split at h
    · simp at h
    · rename_i h2
      have h2 : (decide (0 ≤ n) && decide (n ≤ 1000)) = true := by simpa using h2
      rw [if_neg h1, if_neg (by simp [h2])]
      simp only [Bool.and_eq_true, decide_eq_true_eq] at h2
      exact ⟨Classical.byContradiction h1, h2.1, h2.2, rfl⟩

theorem wrong_stepsR {p : List RuleD} {r x : RunD} {n : Int} (h : stepsF p r n = (0, x)) : wrongRunP p x = 0 := by
  obtain ⟨h1, _, _, h2⟩ := stepsF_okR (p := p) (r := r) (n := n) (by rw [h])
  obtain ⟨h3, h4⟩ := wrongRun_zero h1
  obtain ⟨hp, _, τ, _, hs, _⟩ := forE_zero h3
  have e : (strataP p).1 = p.map fun r => τ r.head.name := by rw [hs]
  rw [h2] at h
  have hr : RightN p (countP (strataP p).1) x := by
    rw [e] at h h4 ⊢
    exact steps_right hp _ _ h4 h
  refine wrongRun_right ?_ hr
  unfold forE
  rw [if_neg (by rw [hs]; simp), good_facts hr.good]

theorem stepsF_next {p : List RuleD} {r : RunD} (hw : wrongRunP p r = 0) (hd : r.done = false) (k : Nat) : stepsP p (strataP p).1 (k + 1) r = if (stepsF p r 1).1 ≠ 0 then ((stepsF p r 1).1, noRun) else stepsP p (strataP p).1 k (stepsF p r 1).2 := by
  have e : stepsF p r 1 = nextP p (strataP p).1 r := by
    unfold stepsF
    rw [if_neg (by simp [hw]), if_neg (by simp)]
    exact steps_one hd
  rw [e, steps_next hd]

theorem ok_right {l : List FactB} (h : ∀ f ∈ l, RightF f) : ∀ k, okF (l.getD k noFact) := fun k => by
  rw [List.getD_eq_getElem?_getD]
  cases e : l[k]? with
  | none => exact ⟨by simp [noFact], fun s hs => by simp [noFact] at hs⟩
  | some f =>
    have hf := h f (List.mem_of_getElem? e)
    exact ⟨by have := named_short hf.1; simp only [Option.getD_some]; omega, fun s hs => by have := named_short (hf.2.2 s hs); omega⟩

theorem ok_run {p : List RuleD} {r : RunD} (h : wrongRunP p r = 0) : (∀ k, okF (r.known.getD k noFact)) ∧ ∀ k, okF (r.fresh.getD k noFact) := by
  have h2 := (wrongRun_zero h).2
  exact ⟨ok_right h2.good.right, ok_right fun f hf => h2.good.right f (h2.sub f hf)⟩

theorem RunV.slices {w : World} {v : Value} {r : RunD} (h : RunV w v r) : ∃ ka kc na nc, v = .agg #[.slice ka r.known.length kc, .slice na r.fresh.length nc, .int .i64 r.level, .int .i64 r.rounds, .bool r.done] ∧ Facts w (.slice ka r.known.length kc) r.known ∧ Facts w (.slice na r.fresh.length nc) r.fresh := by
  obtain ⟨kv, nv, h1, h2, h3⟩ := h
  obtain ⟨ka, kc, rfl⟩ := sliceFacts h2
  obtain ⟨na, nc, rfl⟩ := sliceFacts h3
  exact ⟨ka, kc, na, nc, h1, h2, h3⟩

set_option maxRecDepth 100000 in
set_option maxHeartbeats 1500000 in
theorem rSteps (p : List RuleD) (r : RunD) (n : Int) (pv kv nv : Value) (w : World) (hv : ruleK.sl Anyw w pv p) (hk : Facts w kv r.known) (hn : Facts w nv r.fresh) (hlg : ∀ r ∈ p, longR r) (hok : ∀ k, okF (r.known.getD k noFact)) (hon : ∀ k, okF (r.fresh.getD k noFact)) :
    Calls Tryz.prog 12 #[pv, .agg #[kv, nv, .int .i64 r.level, .int .i64 r.rounds, .bool r.done], .int .i64 n] w fun e w' => ∃ v' er, e = .returned (.tuple #[v', .int .i64 er]) ∧ RefT w' v' er (stepsF p r n) ∧ Below w.heap.size w w' := by
  obtain ⟨K, N, lev, rn, dn⟩ := r
  dsimp only at *
  obtain ⟨pa, pc, rfl⟩ := Kind.slice hv
  obtain ⟨ka, kc, rfl⟩ := sliceFacts hk
  obtain ⟨na, nc, rfl⟩ := sliceFacts hn
  obtain ⟨w2, hw2⟩ : ∃ w2, w2 = (w.alloc (.cells #[.slice ka K.length kc, .slice na N.length nc, .int .i64 lev, .int .i64 rn, .bool dn] 26)).alloc (.cells #[.slice none 0 0, .slice none 0 0, .int .i64 0, .int .i64 0, .bool false] 26) := ⟨_, rfl⟩
  have hL2 : Later w w2 := by rw [hw2]; exact ((Later.refl w).alloc _).alloc _
  have hz2 : w2.heap.size = w.heap.size + 2 := by rw [hw2]; simp
  have hrb : w2.heap[w.heap.size]? = some (.cells #[.slice ka K.length kc, .slice na N.length nc, .int .i64 lev, .int .i64 rn, .bool dn] 26 (0, 0)) := by
    rw [hw2, Below.heap_alloc _ _ _ (by simp)]; exact heap_alloc_new w _
  have hrs : w2.heap[w.heap.size + 1]? = some (.cells #[.slice none 0 0, .slice none 0 0, .int .i64 0, .int .i64 0, .bool false] 26 (0, 0)) := by
    have := heap_alloc_new (w.alloc (.cells #[.slice ka K.length kc, .slice na N.length nc, .int .i64 lev, .int .i64 rn, .bool dn] 26)) (.cells #[.slice none 0 0, .slice none 0 0, .int .i64 0, .int .i64 0, .bool false] 26)
    rw [hw2]; simpa using this
  have HWr := hide (rWrongRun p ⟨K, N, lev, rn, dn⟩ (.slice pa p.length pc) (.slice ka K.length kc) (.slice na N.length nc) w2 (Kind.sl_later hv hL2) (hk.later hL2) (hn.later hL2) hlg hok hon)
  have HV := hide hv
  have HK := hide hk
  have HN := hide hn
  have HLg := hide hlg
  have HL2 := hide hL2
  have HRb := hide hrb
  have HRs := hide hrs
  have HW2 := hide hw2
  have HX : Hid (stepsF p ⟨K, N, lev, rn, dn⟩ n = if wrongRunP p ⟨K, N, lev, rn, dn⟩ ≠ 0 then (wrongRunP p ⟨K, N, lev, rn, dn⟩, noRun) else if (decide (0 ≤ n) && decide (n ≤ 1000)) = false then (3, noRun) else stepsP p (strataP p).1 n.toNat ⟨K, N, lev, rn, dn⟩) := (rfl : _ = _)
  have HGo : Hid (wrongRunP p ⟨K, N, lev, rn, dn⟩ = 0 → wrongRunP p ⟨K, N, lev, rn, dn⟩ = 0) := id
  generalize stepsF p ⟨K, N, lev, rn, dn⟩ n = SF at *
  obtain ⟨R, hR⟩ : ∃ R, wrongRunP p ⟨K, N, lev, rn, dn⟩ = R := ⟨_, rfl⟩
  rw [hR] at HWr HX
  clear HGo
  have HGo := hide hR
  clear hv hk hn hL2 hrb hrs hw2 hlg hok hon hR
  go_enter Tryz.func12, Tryz.ntmps12
  go_wp2_with fail
  rw [← HW2.out]
  refine HWr.out.mono ?_
  rintro e w3 ⟨rfl, hB3⟩
  have HB3 : Hid (Below w.heap.size w w3) := below_trans HL2.out.below hB3 HL2.out.size
  have HRb3 : Hid (w3.heap[w.heap.size]? = some (.cells #[.slice ka K.length kc, .slice na N.length nc, .int .i64 lev, .int .i64 rn, .bool dn] 26 (0, 0))) := by show _ = _; rw [hB3.block _ (by omega)]; exact HRb.out
  have HRs3 : Hid (w3.heap[w.heap.size + 1]? = some (.cells #[.slice none 0 0, .slice none 0 0, .int .i64 0, .int .i64 0, .bool false] 26 (0, 0))) := by show _ = _; rw [hB3.block _ (by omega)]; exact HRs.out
  have hz3 : w.heap.size + 2 ≤ w3.heap.size := by have := hB3.size; omega
  clear hB3 HWr HW2 HRb HRs HL2 hz2 w2
  obtain ⟨b0, b1, b2, b3, b4, _, _⟩ := row5 HRb3.out
  obtain ⟨q0, q1, q2, q3, q4, ⟨f0, f1, f2, f3, f4⟩, _⟩ := row5 HRs3.out
  by_cases h0 : R = 0
  · subst h0
    have HX1 : Hid (SF = if (decide (0 ≤ n) && decide (n ≤ 1000)) = false then (3, noRun) else stepsP p (strataP p).1 n.toNat ⟨K, N, lev, rn, dn⟩) := by show _ = _; rw [HX.out]; simp
    clear HX
    by_cases hlo : n < 0
    · have HX2 : Hid (SF = (3, noRun)) := by show _ = _; rw [HX1.out, if_pos (by simp; omega)]
      clear HX1
      go_wp2
      obtain ⟨r0, r1, r2, r3, r4⟩ := set5 HRs3.out (.slice none 0 0) (.slice none 0 0) (.int .i64 0) (.int .i64 0) (.bool false)
      exact bodyPost_ret (v := .tuple #[.agg #[.slice none 0 0, .slice none 0 0, .int .i64 0, .int .i64 0, .bool false], .int .i64 3]) (by simp [results, Tryz.results12, go_sem, r0, r1, r2, r3, r4]) rfl ⟨_, 3, rfl, by rw [HX2.out]; exact ⟨rfl, RunV.none _⟩, Below.put5 HB3.out (Nat.le_succ _)⟩
    by_cases hhi : 1000 < n
    · have HX2 : Hid (SF = (3, noRun)) := by show _ = _; rw [HX1.out, if_pos (by simp; omega)]
      clear HX1
      go_wp2
      obtain ⟨r0, r1, r2, r3, r4⟩ := set5 HRs3.out (.slice none 0 0) (.slice none 0 0) (.int .i64 0) (.int .i64 0) (.bool false)
      exact bodyPost_ret (v := .tuple #[.agg #[.slice none 0 0, .slice none 0 0, .int .i64 0, .int .i64 0, .bool false], .int .i64 3]) (by simp [results, Tryz.results12, go_sem, r0, r1, r2, r3, r4]) rfl ⟨_, 3, rfl, by rw [HX2.out]; exact ⟨rfl, RunV.none _⟩, Below.put5 HB3.out (Nat.le_succ _)⟩
    obtain ⟨m, rfl⟩ : ∃ m : Nat, n = (m : Int) := ⟨n.toNat, by omega⟩
    have HX2 : Hid (SF = stepsP p (strataP p).1 m ⟨K, N, lev, rn, dn⟩) := by show _ = _; rw [HX1.out, if_neg (by simp; omega)]; rfl
    have HKr := hide (HK.out.below HB3.out)
    have HNr := hide (HN.out.below HB3.out)
    clear HX1 HK HN hlo
    have HX2' : Hid (m ≤ 1000) := by show _ ≤ _; omega
    go_wp2
    go_loopg [9] m (fun g i wr => ∃ j : Nat, j + g = m ∧ i = .int .i64 j ∧ ∃ (X : RunD) (xa ya : Option Addr) (xc yc : Nat), Hid (wrongRunP p X = 0) ∧ Hid (wr.heap[w.heap.size]? = some (.cells #[.slice xa X.known.length xc, .slice ya X.fresh.length yc, .int .i64 X.level, .int .i64 X.rounds, .bool X.done] 26 (0, 0))) ∧
      Hid (Facts wr (.slice xa X.known.length xc) X.known) ∧ Hid (Facts wr (.slice ya X.fresh.length yc) X.fresh) ∧ Hid (wr.heap[w.heap.size + 1]? = some (.cells #[.slice none 0 0, .slice none 0 0, .int .i64 0, .int .i64 0, .bool false] 26 (0, 0))) ∧ Hid (Below w.heap.size w wr) ∧ w.heap.size + 2 ≤ wr.heap.size ∧ Hid (SF = stepsP p (strataP p).1 g X))
    case atStart => exact ⟨0, by omega, rfl, ⟨K, N, lev, rn, dn⟩, ka, na, kc, nc, HGo, HRb3, HKr, HNr, HRs3, HB3, hz3, HX2⟩
    case round =>
      clear HGo HRb3 HKr HNr HRs3 HB3 hz3 HX2 b0 b1 b2 b3 b4 q0 q1 q2 q3 q4 f0 f1 f2 f3 f4
      obtain ⟨j, hj, rfl, X, xa, ya, xc, yc, HW, HRb, HF, HG, HRs, HB, hz, HX⟩ := hrel
      obtain ⟨q0, q1, q2, q3, q4, ⟨f0, f1, f2, f3, f4⟩, _⟩ := row5 HRs.out
      by_cases hk0 : gk = 0
      · have hkz : ¬ ((j : Int) < (m : Int)) := by omega
        have HT : Hid (SF = (0, X)) := by show _ = _; rw [HX.out, hk0]; rfl
        have HFp := hide (facts_box (run_noText HRs.out) (put5_tn wr (w.heap.size + 1) (.slice xa X.known.length xc) (.slice ya X.fresh.length yc) (.int .i64 X.level) (.int .i64 X.rounds) (.bool X.done)) HF.out)
        have HGp := hide (facts_box (run_noText HRs.out) (put5_tn wr (w.heap.size + 1) (.slice xa X.known.length xc) (.slice ya X.fresh.length yc) (.int .i64 X.level) (.int .i64 X.rounds) (.bool X.done)) HG.out)
        clear hk0
        obtain ⟨b0, b1, b2, b3, b4, _, _⟩ := row5 HRb.out
        go_wp2
        obtain ⟨r0, r1, r2, r3, r4⟩ := set5 HRs.out (.slice xa X.known.length xc) (.slice ya X.fresh.length yc) (.int .i64 X.level) (.int .i64 X.rounds) (.bool X.done)
        exact bodyPost_ret (v := .tuple #[.agg #[.slice xa X.known.length xc, .slice ya X.fresh.length yc, .int .i64 X.level, .int .i64 X.rounds, .bool X.done], .int .i64 0]) (by simp [results, Tryz.results12, go_sem, r0, r1, r2, r3, r4]) rfl
          ⟨_, 0, rfl, by rw [HT.out]; exact ⟨rfl, _, _, rfl, HFp.out, HGp.out⟩, Below.put5 HB.out (Nat.le_succ _)⟩
      · obtain ⟨k, rfl⟩ : ∃ k', gk = k' + 1 := ⟨gk - 1, by omega⟩
        have hkp : (j : Int) < (m : Int) := by omega
        cases hdn : X.done with
        | true =>
          have HT : Hid (SF = (0, X)) := by show _ = _; rw [HX.out]; exact steps_done hdn _
          have HFp := hide (facts_box (run_noText HRs.out) (put5_tn wr (w.heap.size + 1) (.slice xa X.known.length xc) (.slice ya X.fresh.length yc) (.int .i64 X.level) (.int .i64 X.rounds) (.bool true)) HF.out)
          have HGp := hide (facts_box (run_noText HRs.out) (put5_tn wr (w.heap.size + 1) (.slice xa X.known.length xc) (.slice ya X.fresh.length yc) (.int .i64 X.level) (.int .i64 X.rounds) (.bool true)) HG.out)
          obtain ⟨b0, b1, b2, b3, b4, _, _⟩ := row5 HRb.out
          rw [hdn] at b4
          have HDn := hide hdn
          clear hdn
          go_wp2
          obtain ⟨r0, r1, r2, r3, r4⟩ := set5 HRs.out (.slice xa X.known.length xc) (.slice ya X.fresh.length yc) (.int .i64 X.level) (.int .i64 X.rounds) (.bool true)
          exact bodyPost_ret (v := .tuple #[.agg #[.slice xa X.known.length xc, .slice ya X.fresh.length yc, .int .i64 X.level, .int .i64 X.rounds, .bool true], .int .i64 0]) (by simp [results, Tryz.results12, go_sem, r0, r1, r2, r3, r4]) rfl
            ⟨_, 0, rfl, by rw [HT.out]; exact ⟨rfl, _, _, by rw [HDn.out], HFp.out, HGp.out⟩, Below.put5 HB.out (Nat.le_succ _)⟩
        | false =>
          have hX1 := HX.out
          rw [stepsF_next HW.out hdn] at hX1
          have HX1 := hide hX1
          obtain ⟨hok, hon⟩ := ok_run HW.out
          have hNx := rStep p X (.slice pa p.length pc) (.slice xa X.known.length xc) (.slice ya X.fresh.length yc) wr (Kind.sl_below HV.out HB.out) HF.out HG.out HLg.out hok hon
          obtain ⟨er, Y, hY⟩ : ∃ er Y, stepsF p X 1 = (er, Y) := ⟨_, _, rfl⟩
          have HRY : Hid (er = 0 → wrongRunP p Y = 0) := fun h => wrong_stepsR (h ▸ hY)
          rw [hY, hdn] at hNx
          rw [hY] at HX1
          have HNx := hide hNx
          have HRb' := HRb
          rw [hdn] at HRb'
          obtain ⟨b0, b1, b2, b3, b4, _, _⟩ := row5 HRb'.out
          clear hNx hY hX1 hdn HX hok hon
          go_wp2_with fail
          refine HNx.out.mono ?_
          rintro e w5 ⟨v5, er', rfl, ⟨her, hR5⟩, hB5⟩
          dsimp only at her hR5
          obtain rfl : er = er' := her.symm
          clear her
          obtain ⟨za, zc, ua, uc, rfl, hO5, hN5⟩ := hR5.slices
          obtain ⟨w6, hw6⟩ : ∃ w6, w6 = w5.alloc (.cells #[.slice za Y.known.length zc, .slice ua Y.fresh.length uc, .int .i64 Y.level, .int .i64 Y.rounds, .bool Y.done] 26) := ⟨_, rfl⟩
          have hL6 : Later w5 w6 := by rw [hw6]; exact (Later.refl w5).alloc _
          have hz6 : w6.heap.size = w5.heap.size + 1 := by rw [hw6]; simp
          have hz5 : w.heap.size + 2 ≤ w5.heap.size := by have := hB5.size; omega
          have hx6 : w6.heap[w5.heap.size]? = some (.cells #[.slice za Y.known.length zc, .slice ua Y.fresh.length uc, .int .i64 Y.level, .int .i64 Y.rounds, .bool Y.done] 26 (0, 0)) := by rw [hw6]; exact heap_alloc_new w5 _
          have hr6 : w6.heap[w.heap.size]? = some (.cells #[.slice xa X.known.length xc, .slice ya X.fresh.length yc, .int .i64 X.level, .int .i64 X.rounds, .bool false] 26 (0, 0)) := by rw [hL6.block (by omega), hB5.block _ (by omega)]; exact HRb'.out
          have hs6 : w6.heap[w.heap.size + 1]? = some (.cells #[.slice none 0 0, .slice none 0 0, .int .i64 0, .int .i64 0, .bool false] 26 (0, 0)) := by rw [hL6.block (by omega), hB5.block _ (by omega)]; exact HRs.out
          have HRb6 := hide (set_five hr6 (.slice za Y.known.length zc) (.slice ua Y.fresh.length uc) (.int .i64 Y.level) (.int .i64 Y.rounds) (.bool Y.done))
          have HRs6 : Hid ((put5 w6 w.heap.size (.slice za Y.known.length zc) (.slice ua Y.fresh.length uc) (.int .i64 Y.level) (.int .i64 Y.rounds) (.bool Y.done)).heap[w.heap.size + 1]? = some (.cells #[.slice none 0 0, .slice none 0 0, .int .i64 0, .int .i64 0, .bool false] 26 (0, 0))) := by show _ = _; rw [(put5_tn w6 w.heap.size _ _ _ _ _).block _ (by omega) (by omega)]; exact hs6
          have HB6 : Hid (Below w.heap.size w w6) := below_trans (below_trans HB.out hB5 HB.out.size) hL6.below (by have := HB.out.size; have := hB5.size; omega)
          have HF6 := hide (facts_box (run_noText hr6) (put5_tn w6 w.heap.size (.slice za Y.known.length zc) (.slice ua Y.fresh.length uc) (.int .i64 Y.level) (.int .i64 Y.rounds) (.bool Y.done)) (hO5.later hL6))
          have HG6 := hide (facts_box (run_noText hr6) (put5_tn w6 w.heap.size (.slice za Y.known.length zc) (.slice ua Y.fresh.length uc) (.int .i64 Y.level) (.int .i64 Y.rounds) (.bool Y.done)) (hN5.later hL6))
          have HW6 := hide hw6
          have HS6 := hide hs6
          clear b0 b1 b2 b3 b4 q0 q1 q2 q3 q4 f0 f1 f2 f3 f4
          obtain ⟨b0, b1, b2, b3, b4, ⟨g0, g1, g2, g3, g4⟩, _⟩ := row5 hr6
          obtain ⟨q0, q1, q2, q3, q4, ⟨f0, f1, f2, f3, f4⟩, _⟩ := row5 hs6
          obtain ⟨x0, x1, x2, x3, x4, _, _⟩ := row5 hx6
          have hz6' : w.heap.size + 2 ≤ w6.heap.size := by omega
          clear hR5 hB5 hO5 hN5 hr6 hs6 hx6 hL6 hw6 hz6 HNx HRb HRb' HF HG HRs HB hz HW
          by_cases he : er = 0
          · subst he
            have HX5 : Hid (SF = stepsP p (strataP p).1 k Y) := by show _ = _; rw [HX1.out]; simp
            have HRY' := hide (HRY.out rfl)
            clear HX1 HRY
            go_wp2_with (rw [← HW6.out])
            go_roundg k
            case measure => omega
            case rel => exact ⟨j + 1, by omega, by go_num, Y, za, ua, zc, uc, HRY', HRb6, HF6, HG6, HRs6, Below.put5 HB6.out (Nat.le_refl _), by simp only [size_setCell]; exact hz6', HX5⟩
          · have HX5 : Hid (SF = (er, noRun)) := by show _ = _; rw [HX1.out, if_pos he]
            have hne : (er != 0) = true := by simpa using he
            clear HX1 HRY he
            go_wp2_with (rw [← HW6.out])
            obtain ⟨r0, r1, r2, r3, r4⟩ := set5 HS6.out (.slice none 0 0) (.slice none 0 0) (.int .i64 0) (.int .i64 0) (.bool false)
            exact bodyPost_ret (v := .tuple #[.agg #[.slice none 0 0, .slice none 0 0, .int .i64 0, .int .i64 0, .bool false], .int .i64 er]) (by simp [results, Tryz.results12, go_sem, r0, r1, r2, r3, r4]) rfl ⟨_, er, rfl, by rw [HX5.out]; exact ⟨rfl, RunV.none _⟩, Below.put5 HB6.out (Nat.le_succ _)⟩
  · have HX1 : Hid (SF = (R, noRun)) := by show _ = _; rw [HX.out, if_pos h0]
    have hne : (R != 0) = true := by simpa using h0
    clear HX HGo h0
    go_wp2
    obtain ⟨r0, r1, r2, r3, r4⟩ := set5 HRs3.out (.slice none 0 0) (.slice none 0 0) (.int .i64 0) (.int .i64 0) (.bool false)
    exact bodyPost_ret (v := .tuple #[.agg #[.slice none 0 0, .slice none 0 0, .int .i64 0, .int .i64 0, .bool false], .int .i64 R]) (by simp [results, Tryz.results12, go_sem, r0, r1, r2, r3, r4]) rfl ⟨_, R, rfl, by rw [HX1.out]; exact ⟨rfl, RunV.none _⟩, Below.put5 HB3.out (Nat.le_succ _)⟩

end Go.Proofs.YtilkggldmgeagaaGreatDoor

/- The walk of RoundTells. -/
namespace Go.Proofs.YtilkggldmgeagaaGreatDoor
open Go.RowKit Go.Sort Go.Maps

theorem steps_noRunR {p : List RuleD} {r : RunD} {n : Int} (h : (stepsF p r n).1 ≠ 0) : (stepsF p r n).2 = noRun := by
  unfold stepsF at h ⊢
  split
  · rfl
  · rename_i h1
    rw [if_neg h1] at h
    split
    · rfl
    · rename_i h2
      rw [if_neg h2] at h
      rcases steps_err (p := p) (ss := (strataP p).1) n.toNat r with h3 | h3 | h3
      · exact absurd h3 h
      · rw [h3]
      · rw [h3]

theorem few_stepsR {p : List RuleD} {r : RunD} {n : Int} : (stepsF p r n).2.known.length ≤ 200 ∧ (stepsF p r n).2.fresh.length ≤ 200 := by
  by_cases h : (stepsF p r n).1 = 0
  · have hw := wrong_stepsR (p := p) (r := r) (n := n) (x := (stepsF p r n).2) (Prod.ext h rfl)
    obtain ⟨_, hr⟩ := wrongRun_zero hw
    exact ⟨hr.good.few, Nat.le_trans (up_le hr.up hr.sub) hr.good.few⟩
  · rw [steps_noRunR h]; exact ⟨by simp [noRun], by simp [noRun]⟩

theorem few_beginR {p : List RuleD} {l : List FactB} : (beginP p l).2.known.length ≤ 200 ∧ (beginP p l).2.fresh.length ≤ 200 := by
  unfold beginP
  split
  · exact ⟨by simp [noRun], by simp [noRun]⟩
  · rename_i h
    obtain ⟨_, hg, _⟩ := forE_zero (Classical.byContradiction h)
    exact ⟨hg.few, hg.few⟩

set_option maxRecDepth 100000 in
set_option maxHeartbeats 2000000 in
theorem sameRunR (r : RunD) (v1 v2 : Value) (w : World) (h1 : RunV w v1 r) (h2 : RunV w v2 r) :
    Calls Tryz.prog 6 #[v1, v2] w fun e w' => e = .returned (.bool true) ∧ Later w w' := by
  obtain ⟨kv, nv, rfl, hk1, hn1⟩ := h1
  obtain ⟨kv', nv', rfl, hk2, hn2⟩ := h2
  obtain ⟨ka, kc, rfl⟩ := sliceFacts hk1
  obtain ⟨na, nc, rfl⟩ := sliceFacts hn1
  obtain ⟨xa, xc, rfl⟩ := sliceFacts hk2
  obtain ⟨ya, yc, rfl⟩ := sliceFacts hn2
  obtain ⟨wb, hwb⟩ : ∃ wb, wb = (w.alloc (.cells #[.slice ka r.known.length kc, .slice na r.fresh.length nc, .int .i64 r.level, .int .i64 r.rounds, .bool r.done] 26)).alloc (.cells #[.slice xa r.known.length xc, .slice ya r.fresh.length yc, .int .i64 r.level, .int .i64 r.rounds, .bool r.done] 26) := ⟨_, rfl⟩
  have hLb : Later w wb := by rw [hwb]; exact ((Later.refl w).alloc _).alloc _
  have hzb : wb.heap.size = w.heap.size + 2 := by rw [hwb]; simp
  have hr1 : wb.heap[w.heap.size]? = some (.cells #[.slice ka r.known.length kc, .slice na r.fresh.length nc, .int .i64 r.level, .int .i64 r.rounds, .bool r.done] 26 (0, 0)) := by
    rw [hwb, Below.heap_alloc _ _ _ (by simp)]; exact heap_alloc_new w _
  have hr2 : wb.heap[w.heap.size + 1]? = some (.cells #[.slice xa r.known.length xc, .slice ya r.fresh.length yc, .int .i64 r.level, .int .i64 r.rounds, .bool r.done] 26 (0, 0)) := by
    have := heap_alloc_new (w.alloc (.cells #[.slice ka r.known.length kc, .slice na r.fresh.length nc, .int .i64 r.level, .int .i64 r.rounds, .bool r.done] 26)) (.cells #[.slice xa r.known.length xc, .slice ya r.fresh.length yc, .int .i64 r.level, .int .i64 r.rounds, .bool r.done] 26)
    rw [hwb]; simpa using this
  have HS1 := hide (rSame _ _ r.known wb (hk1.later hLb) (hk2.later hLb))
  have HN1 := hide (hn1.later hLb)
  have HN2 := hide (hn2.later hLb)
  have HR1 := hide hr1
  have HR2 := hide hr2
  have HL := hide hLb
  have HW := hide hwb
  clear hk1 hn1 hk2 hn2 hLb hr1 hr2 hwb
  go_enter Tryz.func6, Tryz.ntmps6
  go_wp2_with fail
  rw [← HW.out]
  refine HS1.out.mono ?_
  rintro e w1 ⟨rfl, hL1⟩
  have hr1 : w1.heap[w.heap.size]? = some (.cells #[.slice ka r.known.length kc, .slice na r.fresh.length nc, .int .i64 r.level, .int .i64 r.rounds, .bool r.done] 26 (0, 0)) := by rw [hL1.block (by omega)]; exact HR1.out
  have hr2 : w1.heap[w.heap.size + 1]? = some (.cells #[.slice xa r.known.length xc, .slice ya r.fresh.length yc, .int .i64 r.level, .int .i64 r.rounds, .bool r.done] 26 (0, 0)) := by rw [hL1.block (by omega)]; exact HR2.out
  obtain ⟨b0, b1, b2, b3, b4, _, _⟩ := row5 hr1
  obtain ⟨q0, q1, q2, q3, q4, _, _⟩ := row5 hr2
  have HS2 := hide (rSame _ _ r.fresh w1 (HN1.out.later hL1) (HN2.out.later hL1))
  have HR1' := hide hr1
  have HR2' := hide hr2
  have HL1 := hide (HL.out.trans hL1)
  have hz1 := hL1.size
  clear hL1 hr1 hr2 HS1 HR1 HR2 HN1 HN2 HW
  go_wp2_with fail
  refine HS2.out.mono ?_
  rintro e w2 ⟨rfl, hL2⟩
  clear b0 b1 b2 b3 b4 q0 q1 q2 q3 q4
  have hr1 : w2.heap[w.heap.size]? = some (.cells #[.slice ka r.known.length kc, .slice na r.fresh.length nc, .int .i64 r.level, .int .i64 r.rounds, .bool r.done] 26 (0, 0)) := by rw [hL2.block (by omega)]; exact HR1'.out
  have hr2 : w2.heap[w.heap.size + 1]? = some (.cells #[.slice xa r.known.length xc, .slice ya r.fresh.length yc, .int .i64 r.level, .int .i64 r.rounds, .bool r.done] 26 (0, 0)) := by rw [hL2.block (by omega)]; exact HR2'.out
  obtain ⟨b0, b1, b2, b3, b4, _, _⟩ := row5 hr1
  obtain ⟨q0, q1, q2, q3, q4, _, _⟩ := row5 hr2
  have HL2 := hide (HL1.out.trans hL2)
  clear hr1 hr2 hL2 HS2 HR1' HR2'
  go_wp2
  go_ret
  exact ⟨by simp, HL2.out⟩

set_option maxRecDepth 100000 in
set_option maxHeartbeats 2000000 in
theorem roundTellsW (pv fv kv nv : Value) (n : Int) (p : List RuleD) (l : List FactB) (r : RunD) (w : World) (hv : ruleK.sl Anyw w pv p) (hf : Facts w fv l) (hk : Facts w kv r.known) (hn : Facts w nv r.fresh) (hlg : ∀ r ∈ p, longR r) (hol : ∀ k, okF (l.getD k noFact)) (hok : ∀ k, okF (r.known.getD k noFact)) (hon : ∀ k, okF (r.fresh.getD k noFact)) :
    Calls Tryz.prog 3 #[pv, fv, .agg #[kv, nv, .int .i64 r.level, .int .i64 r.rounds, .bool r.done], .int .i64 n] w fun e w' => e = .returned (.bool true) ∧ Below w.heap.size w w' := by
  obtain ⟨K, N, lev, rn, dn⟩ := r
  dsimp only at *
  obtain ⟨pa, pc, rfl⟩ := Kind.slice hv
  obtain ⟨fa, fc, rfl⟩ := sliceFacts hf
  obtain ⟨ka, kc, rfl⟩ := sliceFacts hk
  obtain ⟨na, nc, rfl⟩ := sliceFacts hn
  obtain ⟨w0, hw0⟩ : ∃ w0, w0 = w.alloc (.cells #[.slice ka K.length kc, .slice na N.length nc, .int .i64 lev, .int .i64 rn, .bool dn] 26) := ⟨_, rfl⟩
  have hL0 : Later w w0 := by rw [hw0]; exact (Later.refl w).alloc _
  have hz0 : w0.heap.size = w.heap.size + 1 := by rw [hw0]; simp
  have hr0 : w0.heap[w.heap.size]? = some (.cells #[.slice ka K.length kc, .slice na N.length nc, .int .i64 lev, .int .i64 rn, .bool dn] 26 (0, 0)) := by rw [hw0]; exact heap_alloc_new w _
  have HBg := hide (roundBegin p l (.slice pa p.length pc) (.slice fa l.length fc) w0 (Kind.sl_later hv hL0) (hf.later hL0))
  have hfb := @few_beginR p l
  obtain ⟨er, A, hbg⟩ : ∃ er A, beginP p l = (er, A) := ⟨_, _, rfl⟩
  rw [hbg] at HBg hfb
  have HBE := hide hbg
  have HV := hide hv
  have HF := hide hf
  have HK := hide hk
  have HN := hide hn
  have HLg := hide hlg
  have HOl := hide hol
  have HOk := hide hok
  have HOn := hide hon
  have HR0 := hide hr0
  have HW0 := hide hw0
  have HL0 := hide hL0
  clear hv hf hk hn hlg hol hok hon hr0 hw0 hL0 hbg
  go_enter Tryz.func3, Tryz.ntmps3
  go_wp2_with fail
  rw [← HW0.out]
  refine HBg.out.mono ?_
  rintro e w1 ⟨v1, er', rfl, ⟨her, hR1⟩, hB1⟩
  dsimp only at her hR1 hfb
  obtain rfl : er = er' := her.symm
  clear her
  obtain ⟨xa, xc, ya, yc, rfl, hO1, hN1⟩ := hR1.slices
  obtain ⟨w2, hw2⟩ : ∃ w2, w2 = w1.alloc (.cells #[.slice xa A.known.length xc, .slice ya A.fresh.length yc, .int .i64 A.level, .int .i64 A.rounds, .bool A.done] 26) := ⟨_, rfl⟩
  have hL2 : Later w1 w2 := by rw [hw2]; exact (Later.refl w1).alloc _
  have hz1 := hB1.size
  have hz2 : w2.heap.size = w1.heap.size + 1 := by rw [hw2]; simp
  have hx2 : w2.heap[w1.heap.size]? = some (.cells #[.slice xa A.known.length xc, .slice ya A.fresh.length yc, .int .i64 A.level, .int .i64 A.rounds, .bool A.done] 26 (0, 0)) := by rw [hw2]; exact heap_alloc_new w1 _
  have hr2 : w2.heap[w.heap.size]? = some (.cells #[.slice ka K.length kc, .slice na N.length nc, .int .i64 lev, .int .i64 rn, .bool dn] 26 (0, 0)) := by rw [hL2.block (by omega), hB1.block _ (by omega)]; exact HR0.out
  have hB2 : Below w.heap.size w w2 := below_trans (below_trans HL0.out.below hB1 HL0.out.size) hL2.below (by omega)
  have hRg := rBegin p l (.slice pa p.length pc) (.slice fa l.length fc) w2 (Kind.sl_below HV.out hB2) (HF.out.below hB2) HLg.out HOl.out
  rw [HBE.out] at hRg
  have HRg := hide hRg
  have HX2 := hide hx2
  have HR2 := hide hr2
  have HA2 := hide ((hO1.facts (by omega)).later hL2)
  have HC2 := hide ((hN1.facts (by omega)).later hL2)
  have HW2 := hide hw2
  have HB2 := hide hB2
  clear hR1 hB1 hO1 hN1 hL2 hx2 hr2 hw2 hB2 hRg HBg HW0 HR0 HL0
  go_wp2_with fail
  rw [← HW2.out]
  refine HRg.out.mono ?_
  rintro e w3 ⟨v3, er', rfl, ⟨her, hR3⟩, hB3⟩
  dsimp only at her hR3
  obtain rfl : er = er' := her.symm
  clear her
  obtain ⟨za, zc, ua, uc, rfl, hO3, hN3⟩ := hR3.slices
  obtain ⟨w4, hw4⟩ : ∃ w4, w4 = w3.alloc (.cells #[.slice za A.known.length zc, .slice ua A.fresh.length uc, .int .i64 A.level, .int .i64 A.rounds, .bool A.done] 26) := ⟨_, rfl⟩
  have hL4 : Later w3 w4 := by rw [hw4]; exact (Later.refl w3).alloc _
  have hz3 := hB3.size
  have hz4 : w4.heap.size = w3.heap.size + 1 := by rw [hw4]; simp
  have hy4 : w4.heap[w3.heap.size]? = some (.cells #[.slice za A.known.length zc, .slice ua A.fresh.length uc, .int .i64 A.level, .int .i64 A.rounds, .bool A.done] 26 (0, 0)) := by rw [hw4]; exact heap_alloc_new w3 _
  have hx4 : w4.heap[w1.heap.size]? = some (.cells #[.slice xa A.known.length xc, .slice ya A.fresh.length yc, .int .i64 A.level, .int .i64 A.rounds, .bool A.done] 26 (0, 0)) := by rw [hL4.block (by omega), hB3.block _ (by omega)]; exact HX2.out
  have hr4 : w4.heap[w.heap.size]? = some (.cells #[.slice ka K.length kc, .slice na N.length nc, .int .i64 lev, .int .i64 rn, .bool dn] 26 (0, 0)) := by rw [hL4.block (by omega), hB3.block _ (by omega)]; exact HR2.out
  have HB4 : Hid (Below w.heap.size w w4) := below_trans (below_trans HB2.out hB3 HB2.out.size) hL4.below (by omega)
  have HA4 := hide ((HA2.out.below hB3).later hL4)
  have HC4 := hide ((HC2.out.below hB3).later hL4)
  have HD4 := hide (hO3.later hL4)
  have HE4 := hide (hN3.later hL4)
  have HY4 := hide hy4
  have HX4 := hide hx4
  have HR4 := hide hr4
  have HW4 := hide hw4
  obtain ⟨b0, b1, b2, b3, b4, ⟨g0, g1, g2, g3, g4⟩, _⟩ := row5 hr4
  obtain ⟨c0, c1, c2, c3, c4, ⟨f0, f1, f2, f3, f4⟩, _⟩ := row5 hx4
  obtain ⟨d0, d1, d2, d3, d4, ⟨e0, e1, e2, e3, e4⟩, _⟩ := row5 hy4
  clear hR3 hB3 hO3 hN3 hL4 hy4 hx4 hr4 hw4 HRg HW2 HB2 HA2 HC2 HX2 HR2
  go_wp2_with (rw [← HW4.out])
  have HSr : Hid (∀ w', Below w4.heap.size w4 w' → w'.cell? ⟨w.heap.size, 0, none⟩ = some (.slice ka K.length kc) ∧ w'.cell? ⟨w.heap.size, 1, none⟩ = some (.slice na N.length nc) ∧ w'.cell? ⟨w.heap.size, 2, none⟩ = some (.int .i64 lev) ∧ w'.cell? ⟨w.heap.size, 3, none⟩ = some (.int .i64 rn) ∧ w'.cell? ⟨w.heap.size, 4, none⟩ = some (.bool dn)) := fun w' h => by
    obtain ⟨p0, p1, p2, p3, p4, _, _⟩ := row5 ((h.block _ (by omega)).trans HR4.out)
    exact ⟨p0, p1, p2, p3, p4⟩
  have HSx : Hid (∀ w', Below w4.heap.size w4 w' → w'.cell? ⟨w1.heap.size, 0, none⟩ = some (.slice xa A.known.length xc) ∧ w'.cell? ⟨w1.heap.size, 1, none⟩ = some (.slice ya A.fresh.length yc) ∧ w'.cell? ⟨w1.heap.size, 2, none⟩ = some (.int .i64 A.level) ∧ w'.cell? ⟨w1.heap.size, 3, none⟩ = some (.int .i64 A.rounds) ∧ w'.cell? ⟨w1.heap.size, 4, none⟩ = some (.bool A.done)) := fun w' h => by
    obtain ⟨p0, p1, p2, p3, p4, _, _⟩ := row5 ((h.block _ (by omega)).trans HX4.out)
    exact ⟨p0, p1, p2, p3, p4⟩
  have HSy : Hid (∀ w', Below w4.heap.size w4 w' → w'.cell? ⟨w3.heap.size, 0, none⟩ = some (.slice za A.known.length zc) ∧ w'.cell? ⟨w3.heap.size, 1, none⟩ = some (.slice ua A.fresh.length uc) ∧ w'.cell? ⟨w3.heap.size, 2, none⟩ = some (.int .i64 A.level) ∧ w'.cell? ⟨w3.heap.size, 3, none⟩ = some (.int .i64 A.rounds) ∧ w'.cell? ⟨w3.heap.size, 4, none⟩ = some (.bool A.done)) := fun w' h => by
    obtain ⟨p0, p1, p2, p3, p4, _, _⟩ := row5 ((h.block _ (by omega)).trans HY4.out)
    exact ⟨p0, p1, p2, p3, p4⟩
  have HSm : Hid (∀ w', Below w4.heap.size w4 w' → Calls Tryz.prog 6 #[.agg #[.slice xa A.known.length xc, .slice ya A.fresh.length yc, .int .i64 A.level, .int .i64 A.rounds, .bool A.done], .agg #[.slice za A.known.length zc, .slice ua A.fresh.length uc, .int .i64 A.level, .int .i64 A.rounds, .bool A.done]] w' fun e w'' => e = .returned (.bool true) ∧ Below w4.heap.size w4 w'') := fun w' h => by
    refine (sameRunR A _ _ w' ⟨_, _, rfl, HA4.out.below h, HC4.out.below h⟩ ⟨_, _, rfl, HD4.out.below h, HE4.out.below h⟩).mono ?_
    rintro e w'' ⟨he, hL⟩
    exact ⟨he, below_trans h hL.below h.size⟩
  obtain ⟨R, hR⟩ : ∃ R, wrongRunP p ⟨K, N, lev, rn, dn⟩ = R := ⟨_, rfl⟩
  have HWa : Hid (∀ w', Below w4.heap.size w4 w' → Calls Tryz.prog 7 #[.slice pa p.length pc, .agg #[.slice ka K.length kc, .slice na N.length nc, .int .i64 lev, .int .i64 rn, .bool dn]] w' fun e w'' => e = .returned (.int .i64 R) ∧ Below w4.heap.size w4 w'') := fun w' h => by
    have h' := below_trans HB4.out h HB4.out.size
    have := wrongRunC p ⟨K, N, lev, rn, dn⟩ (.slice pa p.length pc) _ _ w' (Kind.sl_below HV.out h') (HK.out.below h') (HN.out.below h')
    rw [hR] at this
    refine this.mono ?_
    rintro e w'' ⟨he, hL⟩
    exact ⟨he, below_trans h hL h.size⟩
  have HWb : Hid (∀ w', Below w4.heap.size w4 w' → Calls Tryz.prog 8 #[.slice pa p.length pc, .agg #[.slice ka K.length kc, .slice na N.length nc, .int .i64 lev, .int .i64 rn, .bool dn]] w' fun e w'' => e = .returned (.int .i64 R) ∧ Below w4.heap.size w4 w'') := fun w' h => by
    have h' := below_trans HB4.out h HB4.out.size
    have := rWrongRun p ⟨K, N, lev, rn, dn⟩ (.slice pa p.length pc) _ _ w' (Kind.sl_below HV.out h') (HK.out.below h') (HN.out.below h') HLg.out HOk.out HOn.out
    rw [hR] at this
    refine this.mono ?_
    rintro e w'' ⟨he, hL⟩
    exact ⟨he, below_trans h hL h.size⟩
  clear hR b0 b1 b2 b3 b4 g0 g1 g2 g3 g4 c0 c1 c2 c3 c4 f0 f1 f2 f3 f4 d0 d1 d2 d3 d4 e0 e1 e2 e3 e4
  refine wp_region_held_drew (S := fun w' => Below w4.heap.size w4 w') (by kernel_rfl) (Below.refl _ _).drew (fun hHeld => ?_)
  refine take_yes (i := 0) (d := some 25) (v := ?_) rfl rfl hHeld ?_ ?_; rotate_left; focus intro w hSw; (try dsimp only at hSw);  go_simp; try with_reducible rfl
  simp only [aput, aset, aze, asu]
  refine take_yes (i := 1) (d := some 26) (v := ?_) rfl rfl hHeld ?_ ?_; rotate_left; focus intro w hSw; (try dsimp only at hSw);  go_simp; try with_reducible rfl
  simp only [aput, aset, aze, asu]
  refine take_yes (i := 2) (d := some 27) (v := ?_) rfl rfl hHeld ?_ ?_; rotate_left; focus intro w hSw; (try dsimp only at hSw);  go_simp; try with_reducible rfl
  simp only [aput, aset, aze, asu]
  refine take_yes (i := 3) (d := some 28) (v := ?_) rfl rfl hHeld ?_ ?_; rotate_left; focus intro w hSw; (try dsimp only at hSw);  go_simp; try with_reducible rfl
  simp only [aput, aset, aze, asu]
  refine take_yes (i := 4) (d := some 29) (v := ?_) rfl rfl hHeld ?_ ?_; rotate_left; focus intro w hSw; (try dsimp only at hSw); obtain ⟨p0, p1, p2, p3, p4⟩ := HSx.out _ hSw; go_simp; try with_reducible rfl
  simp only [aput, aset, aze, asu]
  refine take_yes (i := 5) (d := some 30) (v := ?_) rfl rfl hHeld ?_ ?_; rotate_left; focus intro w hSw; (try dsimp only at hSw); obtain ⟨p0, p1, p2, p3, p4⟩ := HSy.out _ hSw; go_simp; try with_reducible rfl
  simp only [aput, aset, aze, asu]
  refine wpAnyH_ready (rs := [6]) (by kernel_rfl) (by simp) ?_
  refine AllReadyH.cons rfl (fun K hK => ?_) AllReadyH.nil
  go_simp
  refine (HSm.out _ hHeld).mono ?_
  rintro e wc ⟨rfl, hBc⟩
  refine hK.out _ _ hBc (fun hHeld => ?_)
  clear hK K
  clear hHeld
  have hHeld := hBc
  refine take_yes (i := 7) (d := some 32) (v := ?_) rfl rfl hHeld ?_ ?_; rotate_left; focus intro w hSw; (try dsimp only at hSw);  go_simp; try with_reducible rfl
  simp only [aput, aset, aze, asu]
  refine take_yes (i := 8) (d := some 33) (v := ?_) rfl rfl hHeld ?_ ?_; rotate_left; focus intro w hSw; (try dsimp only at hSw);  go_simp; try with_reducible rfl
  simp only [aput, aset, aze, asu]
  refine take_yes (i := 9) (d := some 34) (v := ?_) rfl rfl hHeld ?_ ?_; rotate_left; focus intro w hSw; (try dsimp only at hSw);  go_simp; try with_reducible rfl
  simp only [aput, aset, aze, asu]
  refine take_yes (i := 10) (d := some 35) (v := ?_) rfl rfl hHeld ?_ ?_; rotate_left; focus intro w hSw; (try dsimp only at hSw);  go_simp; try with_reducible rfl
  simp only [aput, aset, aze, asu]
  refine take_yes (i := 11) (d := some 36) (v := ?_) rfl rfl hHeld ?_ ?_; rotate_left; focus intro w hSw; (try dsimp only at hSw); obtain ⟨p0, p1, p2, p3, p4⟩ := HSr.out _ hSw; go_simp; try with_reducible rfl
  simp only [aput, aset, aze, asu]
  refine take_yes (i := 13) (d := some 38) (v := ?_) rfl rfl hHeld ?_ ?_; rotate_left; focus intro w hSw; (try dsimp only at hSw);  go_simp; try with_reducible rfl
  simp only [aput, aset, aze, asu]
  refine take_yes (i := 14) (d := some 39) (v := ?_) rfl rfl hHeld ?_ ?_; rotate_left; focus intro w hSw; (try dsimp only at hSw); obtain ⟨p0, p1, p2, p3, p4⟩ := HSr.out _ hSw; go_simp; try with_reducible rfl
  simp only [aput, aset, aze, asu]
  refine wpAnyH_ready (rs := [12]) (by kernel_rfl) (by simp) ?_
  refine AllReadyH.cons rfl (fun K hK => ?_) AllReadyH.nil
  go_simp
  refine (HWa.out _ hHeld).mono ?_
  rintro e wd ⟨rfl, hBd⟩
  refine hK.out _ _ hBd (fun hHeld => ?_)
  clear hK K
  clear hHeld
  have hHeld := hBd
  refine wpAnyH_ready (rs := [15]) (by kernel_rfl) (by simp) ?_
  refine AllReadyH.cons rfl (fun K hK => ?_) AllReadyH.nil
  go_simp
  refine (HWb.out _ hHeld).mono ?_
  rintro e w5 ⟨rfl, hB5⟩
  refine hK.out _ _ hB5 (fun hHeld => ?_)
  clear hK K
  clear hHeld
  have hHeld := hB5
  refine take_yes (i := 16) (d := some 41) (v := ?_) rfl rfl hHeld ?_ ?_; rotate_left; focus intro w hSw; (try dsimp only at hSw);  go_simp; try with_reducible rfl
  simp only [aput, aset, aze, asu]
  refine take_yes (i := 17) (d := some 42) (v := ?_) rfl rfl hHeld ?_ ?_; rotate_left; focus intro w hSw; (try dsimp only at hSw);  go_simp; try with_reducible rfl
  simp only [aput, aset, aze, asu]
  refine wpAnyH_done (by kernel_rfl) ?_ _
  have HBW : Hid (Below w.heap.size w w5) := below_trans HB4.out hB5 HB4.out.size
  have hz5 := hB5.size
  have HRW := hide ((hB5.block w.heap.size (by omega)).trans HR4.out)
  have HXW := hide ((hB5.block w1.heap.size (by omega)).trans HX4.out)
  have HYW := hide ((hB5.block w3.heap.size (by omega)).trans HY4.out)
  clear hHeld hB5 hBc hBd HWa HWb HSm HSx HSy HSr HA4 HC4 HD4 HE4 HX4 HY4 HR4 HB4 HW4 HBE hfb
  obtain ⟨er2, A2, hst⟩ : ∃ er2 A2, stepsF p ⟨K, N, lev, rn, dn⟩ 1 = (er2, A2) := ⟨_, _, rfl⟩
  have hfs := @few_stepsR p ⟨K, N, lev, rn, dn⟩ 1
  have hSt := roundStep p ⟨K, N, lev, rn, dn⟩ (.slice pa p.length pc) (.slice ka K.length kc) (.slice na N.length nc) w5 (Kind.sl_below HV.out HBW.out) (HK.out.below HBW.out) (HN.out.below HBW.out)
  rw [hst] at hfs hSt
  have HSt := hide hSt
  have HTE := hide hst
  obtain ⟨b0, b1, b2, b3, b4, _, _⟩ := row5 HRW.out
  clear hSt hst
  go_wp2_with fail
  refine HSt.out.mono ?_
  rintro e wa2 ⟨vwa2, er', rfl, ⟨her, hRa⟩, hBa⟩
  dsimp only at her hRa hfs
  obtain rfl : er2 = er' := her.symm
  clear her
  obtain ⟨xa2, xc2, ya2, yc2, rfl, hOa, hNa⟩ := hRa.slices
  have hza := hBa.size
  have hxa := (hBa.block w1.heap.size (by omega)).trans HXW.out
  have hya := (hBa.block w3.heap.size (by omega)).trans HYW.out
  have hra := (hBa.block w.heap.size (by omega)).trans HRW.out
  obtain ⟨wb2, hwb⟩ : ∃ wb2, wb2 = put5 wa2 w1.heap.size (.slice xa2 A2.known.length xc2) (.slice ya2 A2.fresh.length yc2) (.int .i64 A2.level) (.int .i64 A2.rounds) (.bool A2.done) := ⟨_, rfl⟩
  have hxb : wb2.heap[w1.heap.size]? = some (.cells #[.slice xa2 A2.known.length xc2, .slice ya2 A2.fresh.length yc2, .int .i64 A2.level, .int .i64 A2.rounds, .bool A2.done] 26 (0, 0)) := by rw [hwb]; exact set_five hxa _ _ _ _ _
  have hyb : wb2.heap[w3.heap.size]? = some (.cells #[.slice za A.known.length zc, .slice ua A.fresh.length uc, .int .i64 A.level, .int .i64 A.rounds, .bool A.done] 26 (0, 0)) := by rw [hwb, (put5_tn wa2 w1.heap.size _ _ _ _ _).block _ (by omega) (by omega)]; exact hya
  have hrb : wb2.heap[w.heap.size]? = some (.cells #[.slice ka K.length kc, .slice na N.length nc, .int .i64 lev, .int .i64 rn, .bool dn] 26 (0, 0)) := by rw [hwb, (put5_tn wa2 w1.heap.size _ _ _ _ _).block _ (by omega) (by omega)]; exact hra
  have hzb : wa2.heap.size ≤ wb2.heap.size := by rw [hwb]; exact (put5_tn _ _ _ _ _ _ _).size
  have hFb : Facts wb2 (.slice xa2 A2.known.length xc2) A2.known := by rw [hwb]; exact facts_box (run_noText hxa) (put5_tn _ _ _ _ _ _ _) (hOa.facts (by omega))
  have hGb : Facts wb2 (.slice ya2 A2.fresh.length yc2) A2.fresh := by rw [hwb]; exact facts_box (run_noText hxa) (put5_tn _ _ _ _ _ _ _) (hNa.facts (by omega))
  have hBb : Below w.heap.size w wb2 := by rw [hwb]; exact Below.put5 (below_trans HBW.out hBa HBW.out.size) (by omega)
  have hRt := rStep p ⟨K, N, lev, rn, dn⟩ (.slice pa p.length pc) (.slice ka K.length kc) (.slice na N.length nc) wb2 (Kind.sl_below HV.out hBb) (HK.out.below hBb) (HN.out.below hBb) HLg.out HOk.out HOn.out
  rw [HTE.out] at hRt
  have HRt := hide hRt
  clear b0 b1 b2 b3 b4
  obtain ⟨c0, c1, c2, c3, c4, ⟨f0, f1, f2, f3, f4⟩, _⟩ := row5 hxa
  obtain ⟨b0, b1, b2, b3, b4, _, _⟩ := row5 hrb
  have HXB := hide hxb
  have HYB := hide hyb
  have HRB := hide hrb
  have HFB := hide hFb
  have HGB := hide hGb
  have HBB := hide hBb
  unfold put5 at hwb
  have HWB := hide hwb
  clear hRt hxa hya hra hxb hyb hrb hFb hGb hBb hwb hRa hBa hOa hNa HSt HXW HYW HRW HBW
  go_wp2_with (rw [← HWB.out])
  refine HRt.out.mono ?_
  rintro e wc2 ⟨vwc2, er', rfl, ⟨her, hRc⟩, hBc⟩
  dsimp only at her hRc
  obtain rfl : er2 = er' := her.symm
  clear her
  obtain ⟨za2, zc2, ua2, uc2, rfl, hOc, hNc⟩ := hRc.slices
  have hzc := hBc.size
  have hxc := (hBc.block w1.heap.size (by omega)).trans HXB.out
  have hyc := (hBc.block w3.heap.size (by omega)).trans HYB.out
  have hrc := (hBc.block w.heap.size (by omega)).trans HRB.out
  obtain ⟨wd2, hwd⟩ : ∃ wd2, wd2 = put5 wc2 w3.heap.size (.slice za2 A2.known.length zc2) (.slice ua2 A2.fresh.length uc2) (.int .i64 A2.level) (.int .i64 A2.rounds) (.bool A2.done) := ⟨_, rfl⟩
  have hyd : wd2.heap[w3.heap.size]? = some (.cells #[.slice za2 A2.known.length zc2, .slice ua2 A2.fresh.length uc2, .int .i64 A2.level, .int .i64 A2.rounds, .bool A2.done] 26 (0, 0)) := by rw [hwd]; exact set_five hyc _ _ _ _ _
  have hxd : wd2.heap[w1.heap.size]? = some (.cells #[.slice xa2 A2.known.length xc2, .slice ya2 A2.fresh.length yc2, .int .i64 A2.level, .int .i64 A2.rounds, .bool A2.done] 26 (0, 0)) := by rw [hwd, (put5_tn wc2 w3.heap.size _ _ _ _ _).block _ (by omega) (by omega)]; exact hxc
  have hrd : wd2.heap[w.heap.size]? = some (.cells #[.slice ka K.length kc, .slice na N.length nc, .int .i64 lev, .int .i64 rn, .bool dn] 26 (0, 0)) := by rw [hwd, (put5_tn wc2 w3.heap.size _ _ _ _ _).block _ (by omega) (by omega)]; exact hrc
  have hzd : wc2.heap.size ≤ wd2.heap.size := by rw [hwd]; exact (put5_tn _ _ _ _ _ _ _).size
  have hSm := sameRunR A2 (.agg #[.slice xa2 A2.known.length xc2, .slice ya2 A2.fresh.length yc2, .int .i64 A2.level, .int .i64 A2.rounds, .bool A2.done]) (.agg #[.slice za2 A2.known.length zc2, .slice ua2 A2.fresh.length uc2, .int .i64 A2.level, .int .i64 A2.rounds, .bool A2.done]) wd2 ⟨_, _, rfl, by rw [hwd]; exact facts_box (run_noText hyc) (put5_tn _ _ _ _ _ _ _) (HFB.out.below hBc), by rw [hwd]; exact facts_box (run_noText hyc) (put5_tn _ _ _ _ _ _ _) (HGB.out.below hBc)⟩ ⟨_, _, rfl, by rw [hwd]; exact facts_box (run_noText hyc) (put5_tn _ _ _ _ _ _ _) hOc, by rw [hwd]; exact facts_box (run_noText hyc) (put5_tn _ _ _ _ _ _ _) hNc⟩
  have HSm := hide hSm
  have hBd : Below w.heap.size w wd2 := by rw [hwd]; exact Below.put5 (below_trans HBB.out hBc HBB.out.size) (by omega)
  clear b0 b1 b2 b3 b4 c0 c1 c2 c3 c4 f0 f1 f2 f3 f4
  obtain ⟨q0, q1, q2, q3, q4, ⟨f0, f1, f2, f3, f4⟩, _⟩ := row5 hyc
  obtain ⟨c0, c1, c2, c3, c4, _, _⟩ := row5 hxd
  obtain ⟨d0, d1, d2, d3, d4, _, _⟩ := row5 hyd
  have HXD := hide hxd
  have HYD := hide hyd
  have HRD := hide hrd
  have HBD := hide hBd
  unfold put5 at hwd
  have HWD := hide hwd
  clear hSm hxc hyc hrc hxd hyd hrd hBd hwd hRc hBc hOc hNc HRt HXB HYB HRB HFB HGB HBB HWB HTE
  go_wp2_with (rw [← HWD.out])
  refine HSm.out.mono ?_
  rintro e we2 ⟨rfl, hLe⟩
  have hze := hLe.size
  have HXW := hide ((hLe.block (by omega : w1.heap.size < wd2.heap.size)).trans HXD.out)
  have HYW := hide ((hLe.block (by omega : w3.heap.size < wd2.heap.size)).trans HYD.out)
  have HRW := hide ((hLe.block (by omega : w.heap.size < wd2.heap.size)).trans HRD.out)
  have HBW : Hid (Below w.heap.size w we2) := below_trans HBD.out hLe.below HBD.out.size
  clear hLe HSm HXD HYD HRD HBD HWD q0 q1 q2 q3 q4 f0 f1 f2 f3 f4 c0 c1 c2 c3 c4 d0 d1 d2 d3 d4 hfs
  obtain ⟨er3, A3, hst⟩ : ∃ er3 A3, stepsF p ⟨K, N, lev, rn, dn⟩ n = (er3, A3) := ⟨_, _, rfl⟩
  have hfs := @few_stepsR p ⟨K, N, lev, rn, dn⟩ n
  have hSt := roundSteps p ⟨K, N, lev, rn, dn⟩ n (.slice pa p.length pc) (.slice ka K.length kc) (.slice na N.length nc) we2 (Kind.sl_below HV.out HBW.out) (HK.out.below HBW.out) (HN.out.below HBW.out)
  rw [hst] at hfs hSt
  have HSt := hide hSt
  have HTE := hide hst
  obtain ⟨b0, b1, b2, b3, b4, _, _⟩ := row5 HRW.out
  clear hSt hst
  go_wp2_with fail
  refine HSt.out.mono ?_
  rintro e wa3 ⟨vwa3, er', rfl, ⟨her, hRa⟩, hBa⟩
  dsimp only at her hRa hfs
  obtain rfl : er3 = er' := her.symm
  clear her
  obtain ⟨xa3, xc3, ya3, yc3, rfl, hOa, hNa⟩ := hRa.slices
  have hza := hBa.size
  have hxa := (hBa.block w1.heap.size (by omega)).trans HXW.out
  have hya := (hBa.block w3.heap.size (by omega)).trans HYW.out
  have hra := (hBa.block w.heap.size (by omega)).trans HRW.out
  obtain ⟨wb3, hwb⟩ : ∃ wb3, wb3 = put5 wa3 w1.heap.size (.slice xa3 A3.known.length xc3) (.slice ya3 A3.fresh.length yc3) (.int .i64 A3.level) (.int .i64 A3.rounds) (.bool A3.done) := ⟨_, rfl⟩
  have hxb : wb3.heap[w1.heap.size]? = some (.cells #[.slice xa3 A3.known.length xc3, .slice ya3 A3.fresh.length yc3, .int .i64 A3.level, .int .i64 A3.rounds, .bool A3.done] 26 (0, 0)) := by rw [hwb]; exact set_five hxa _ _ _ _ _
  have hyb : wb3.heap[w3.heap.size]? = some (.cells #[.slice za2 A2.known.length zc2, .slice ua2 A2.fresh.length uc2, .int .i64 A2.level, .int .i64 A2.rounds, .bool A2.done] 26 (0, 0)) := by rw [hwb, (put5_tn wa3 w1.heap.size _ _ _ _ _).block _ (by omega) (by omega)]; exact hya
  have hrb : wb3.heap[w.heap.size]? = some (.cells #[.slice ka K.length kc, .slice na N.length nc, .int .i64 lev, .int .i64 rn, .bool dn] 26 (0, 0)) := by rw [hwb, (put5_tn wa3 w1.heap.size _ _ _ _ _).block _ (by omega) (by omega)]; exact hra
  have hzb : wa3.heap.size ≤ wb3.heap.size := by rw [hwb]; exact (put5_tn _ _ _ _ _ _ _).size
  have hFb : Facts wb3 (.slice xa3 A3.known.length xc3) A3.known := by rw [hwb]; exact facts_box (run_noText hxa) (put5_tn _ _ _ _ _ _ _) (hOa.facts (by omega))
  have hGb : Facts wb3 (.slice ya3 A3.fresh.length yc3) A3.fresh := by rw [hwb]; exact facts_box (run_noText hxa) (put5_tn _ _ _ _ _ _ _) (hNa.facts (by omega))
  have hBb : Below w.heap.size w wb3 := by rw [hwb]; exact Below.put5 (below_trans HBW.out hBa HBW.out.size) (by omega)
  have hRt := rSteps p ⟨K, N, lev, rn, dn⟩ n (.slice pa p.length pc) (.slice ka K.length kc) (.slice na N.length nc) wb3 (Kind.sl_below HV.out hBb) (HK.out.below hBb) (HN.out.below hBb) HLg.out HOk.out HOn.out
  rw [HTE.out] at hRt
  have HRt := hide hRt
  clear b0 b1 b2 b3 b4
  obtain ⟨c0, c1, c2, c3, c4, ⟨f0, f1, f2, f3, f4⟩, _⟩ := row5 hxa
  obtain ⟨b0, b1, b2, b3, b4, _, _⟩ := row5 hrb
  have HXB := hide hxb
  have HYB := hide hyb
  have HRB := hide hrb
  have HFB := hide hFb
  have HGB := hide hGb
  have HBB := hide hBb
  unfold put5 at hwb
  have HWB := hide hwb
  clear hRt hxa hya hra hxb hyb hrb hFb hGb hBb hwb hRa hBa hOa hNa HSt HXW HYW HRW HBW
  go_wp2_with (rw [← HWB.out])
  refine HRt.out.mono ?_
  rintro e wc3 ⟨vwc3, er', rfl, ⟨her, hRc⟩, hBc⟩
  dsimp only at her hRc
  obtain rfl : er3 = er' := her.symm
  clear her
  obtain ⟨za3, zc3, ua3, uc3, rfl, hOc, hNc⟩ := hRc.slices
  have hzc := hBc.size
  have hxc := (hBc.block w1.heap.size (by omega)).trans HXB.out
  have hyc := (hBc.block w3.heap.size (by omega)).trans HYB.out
  have hrc := (hBc.block w.heap.size (by omega)).trans HRB.out
  obtain ⟨wd3, hwd⟩ : ∃ wd3, wd3 = put5 wc3 w3.heap.size (.slice za3 A3.known.length zc3) (.slice ua3 A3.fresh.length uc3) (.int .i64 A3.level) (.int .i64 A3.rounds) (.bool A3.done) := ⟨_, rfl⟩
  have hyd : wd3.heap[w3.heap.size]? = some (.cells #[.slice za3 A3.known.length zc3, .slice ua3 A3.fresh.length uc3, .int .i64 A3.level, .int .i64 A3.rounds, .bool A3.done] 26 (0, 0)) := by rw [hwd]; exact set_five hyc _ _ _ _ _
  have hxd : wd3.heap[w1.heap.size]? = some (.cells #[.slice xa3 A3.known.length xc3, .slice ya3 A3.fresh.length yc3, .int .i64 A3.level, .int .i64 A3.rounds, .bool A3.done] 26 (0, 0)) := by rw [hwd, (put5_tn wc3 w3.heap.size _ _ _ _ _).block _ (by omega) (by omega)]; exact hxc
  have hrd : wd3.heap[w.heap.size]? = some (.cells #[.slice ka K.length kc, .slice na N.length nc, .int .i64 lev, .int .i64 rn, .bool dn] 26 (0, 0)) := by rw [hwd, (put5_tn wc3 w3.heap.size _ _ _ _ _).block _ (by omega) (by omega)]; exact hrc
  have hzd : wc3.heap.size ≤ wd3.heap.size := by rw [hwd]; exact (put5_tn _ _ _ _ _ _ _).size
  have hSm := sameRunR A3 (.agg #[.slice xa3 A3.known.length xc3, .slice ya3 A3.fresh.length yc3, .int .i64 A3.level, .int .i64 A3.rounds, .bool A3.done]) (.agg #[.slice za3 A3.known.length zc3, .slice ua3 A3.fresh.length uc3, .int .i64 A3.level, .int .i64 A3.rounds, .bool A3.done]) wd3 ⟨_, _, rfl, by rw [hwd]; exact facts_box (run_noText hyc) (put5_tn _ _ _ _ _ _ _) (HFB.out.below hBc), by rw [hwd]; exact facts_box (run_noText hyc) (put5_tn _ _ _ _ _ _ _) (HGB.out.below hBc)⟩ ⟨_, _, rfl, by rw [hwd]; exact facts_box (run_noText hyc) (put5_tn _ _ _ _ _ _ _) hOc, by rw [hwd]; exact facts_box (run_noText hyc) (put5_tn _ _ _ _ _ _ _) hNc⟩
  have HSm := hide hSm
  have hBd : Below w.heap.size w wd3 := by rw [hwd]; exact Below.put5 (below_trans HBB.out hBc HBB.out.size) (by omega)
  clear b0 b1 b2 b3 b4 c0 c1 c2 c3 c4 f0 f1 f2 f3 f4
  obtain ⟨q0, q1, q2, q3, q4, ⟨f0, f1, f2, f3, f4⟩, _⟩ := row5 hyc
  obtain ⟨c0, c1, c2, c3, c4, _, _⟩ := row5 hxd
  obtain ⟨d0, d1, d2, d3, d4, _, _⟩ := row5 hyd
  have HXD := hide hxd
  have HYD := hide hyd
  have HRD := hide hrd
  have HBD := hide hBd
  unfold put5 at hwd
  have HWD := hide hwd
  clear hSm hxc hyc hrc hxd hyd hrd hBd hwd hRc hBc hOc hNc HRt HXB HYB HRB HFB HGB HBB HWB HTE
  go_wp2_with (rw [← HWD.out])
  refine HSm.out.mono ?_
  rintro e we3 ⟨rfl, hLe⟩
  have hze := hLe.size
  have HXW := hide ((hLe.block (by omega : w1.heap.size < wd3.heap.size)).trans HXD.out)
  have HYW := hide ((hLe.block (by omega : w3.heap.size < wd3.heap.size)).trans HYD.out)
  have HRW := hide ((hLe.block (by omega : w.heap.size < wd3.heap.size)).trans HRD.out)
  have HBW : Hid (Below w.heap.size w we3) := below_trans HBD.out hLe.below HBD.out.size
  clear hLe HSm HXD HYD HRD HBD HWD q0 q1 q2 q3 q4 f0 f1 f2 f3 f4 c0 c1 c2 c3 c4 d0 d1 d2 d3 d4 hfs
  go_wp2
  go_ret
  exact ⟨by simp, HBW.out⟩

end Go.Proofs.YtilkggldmgeagaaGreatDoor
