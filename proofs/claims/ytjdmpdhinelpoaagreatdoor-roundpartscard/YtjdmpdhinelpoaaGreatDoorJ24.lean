/- Texts of this claim, one behind the other. -/
import Derived.Test.YtjdmpdhinelpoaaGreatDoorJ21
import Derived.Test.YtjdmpdhinelpoaaGreatDoorJ23
import Derived.Test.YtjdmpdhinelpoaaGreatDoorJ13
import Derived.Test.YtjdmpdhinelpoaaGreatDoorJ20
/- Rounds, in a form that the kernel reckons. Nothing of the program. -/
namespace Go.Proofs.YtjdmpdhinelpoaaGreatDoor

def allJ (pick : Nat → List FactB) (body : List AtomD) : Option (List (List BindD)) := match metGo pick 0 body [[]] with
  | none => none
  | some ms => some (isortB (cmpX eB) ((ms.filter fun l => !barredB pick 0 body l).map (isortB eB)))
theorem allJ_eq (pick : Nat → List FactB) (body : List AtomD) : allB pick body = allJ pick body := by
  have e1 : (sortB : List BindD → List BindD) = isortB eB := by funext l; show sortBy cmpB l = _; rw [sortBy_ins three_cmpB, eB_eq]
  unfold allB allJ
  cases metGo pick 0 body [[]] with
  | none => rfl
  | some ms =>
    dsimp only
    rw [sortBy_ins three_cmpBs, e1, show cmpBs = cmpX eB from by rw [← eB_eq]]

def atJ (K N : List FactB) (r : RuleD) : Nat → List AtomD → List FactB → Option (List FactB)
  | _, [], acc => some acc
  | k, a :: l, acc => if a.no then atJ K N r (k + 1) l acc else
    match allJ (pickB K k N) r.body with
    | none => none
    | some R => atJ K N r (k + 1) l (acc ++ R.filterMap fun e => fillB r.head e)
theorem atJ_eq (K N : List FactB) (r : RuleD) : ∀ (l : List AtomD) (k : Nat) (acc : List FactB), atGo K N r k l acc = atJ K N r k l acc
  | [], _, _ => rfl
  | a :: l, k, acc => by
    unfold atGo atJ
    split
    · exact atJ_eq K N r l (k + 1) acc
    · rw [allJ_eq]
      cases allJ (pickB K k N) r.body with
      | none => rfl
      | some R => exact atJ_eq K N r l (k + 1) _

def askJ (K N : List FactB) (r : RuleD) (acc : List FactB) : Option (List FactB) := if r.body.all (·.no) then
    match headsI r K with
    | none => none
    | some x => some (acc ++ x)
  else atJ K N r 0 r.body acc
theorem askJ_eq (K N : List FactB) (r : RuleD) (acc : List FactB) : askP K N r acc = askJ K N r acc := by
  unfold askP askJ
  rw [headsI_eq, atJ_eq]
  split
  · cases headsI r K <;> rfl
  · rfl

def makesJ (K N : List FactB) (st : Int) : List RuleD → List Nat → List FactB → Option (List FactB)
  | [], _, acc => some acc
  | _ :: _, [], acc => some acc
  | r :: p, s :: ss, acc => if (s : Int) = st then
      match askJ K N r acc with
      | none => none
      | some acc' => makesJ K N st p ss acc'
    else makesJ K N st p ss acc
theorem makesJ_eq (K N : List FactB) (st : Int) : ∀ (p : List RuleD) (ss : List Nat) (acc : List FactB), makesGo K N st p ss acc = makesJ K N st p ss acc
  | [], _, _ => by simp only [makesGo, makesJ]
  | _ :: _, [], _ => by simp only [makesGo, makesJ]
  | r :: p, s :: ss, acc => by
    simp only [makesGo, makesJ]
    rw [askJ_eq]
    split
    · cases askJ K N r acc with
      | none => rfl
      | some x => exact makesJ_eq K N st p ss x
    · exact makesJ_eq K N st p ss acc

def nextJ (p : List RuleD) (ss : List Nat) (r : RunD) : Int × RunD := if r.rounds = 1000 then (5, noRun) else
  match makesJ r.known r.fresh r.level p ss [] with
  | none => (4, noRun)
  | some acc => if 200 < (setI (r.known ++ acc)).length then (5, noRun) else
    if setI (acc.filter fun f => !inB r.known f) = [] then (0, ⟨setI (r.known ++ acc), setI (r.known ++ acc), r.level + 1, r.rounds + 1, decide (r.level + 1 = countP ss)⟩)
    else (0, ⟨setI (r.known ++ acc), setI (acc.filter fun f => !inB r.known f), r.level, r.rounds + 1, false⟩)
theorem nextJ_eq (p : List RuleD) (ss : List Nat) (r : RunD) : nextP p ss r = nextJ p ss r := by
  unfold nextP nextJ newOf
  rw [makesJ_eq]
  split
  · rfl
  · cases makesJ r.known r.fresh r.level p ss [] with
    | none => rfl
    | some acc => simp only [setI_eq]

def stepsJ (p : List RuleD) (ss : List Nat) : Nat → RunD → Int × RunD
  | 0, r => (0, r)
  | n + 1, r => if r.done then (0, r) else match nextJ p ss r with
    | (e, x) => if e ≠ 0 then (e, noRun) else stepsJ p ss n x
theorem stepsJ_eq (p : List RuleD) (ss : List Nat) : ∀ (n : Nat) (r : RunD), stepsP p ss n r = stepsJ p ss n r
  | 0, r => rfl
  | n + 1, r => by
    unfold stepsP stepsJ
    rw [nextJ_eq]
    split
    · rfl
    · obtain ⟨e, x, h⟩ : ∃ e x, nextJ p ss r = (e, x) := ⟨_, _, rfl⟩
      rw [h]
      dsimp only
      rw [stepsJ_eq p ss n x]

end Go.Proofs.YtjdmpdhinelpoaaGreatDoor

/- The document's answer: the walk of ref.Same, where the two lists hold the same. -/
namespace Go.Proofs.YtjdmpdhinelpoaaGreatDoor
open Go.RowKit Go.Sort

set_option maxHeartbeats 1000000 in
theorem rSame (v1 v2 : Value) (l : List FactD) (w : World) (h1 : Facts w v1 l) (h2 : Facts w v2 l) :
    Calls Tryz.prog 20 #[v1, v2] w fun e w' => e = .returned (.bool true) ∧ Later w w' := by
  have mx := mixed
  have H1 := hide h1
  have H2 := hide h2
  obtain ⟨a, cap, rfl, hn, hz⟩ := h1.addr
  obtain ⟨a2, cap2, rfl, _, hz2⟩ := h2.addr
  clear h1 h2
  go_enter Tryz.func20, Tryz.ntmps20
  go_wp2
  go_loopw [13] (fun i wr => ∃ k : Nat, k ≤ l.length ∧ i = .int .i64 k ∧ Later w wr) (fun i _ => l.length - (intOf i).toNat)
  case atStart => exact ⟨0, by omega, rfl, Later.refl _⟩
  case round =>
    obtain ⟨k, hk, rfl, hL⟩ := hrel
    by_cases hlt : k < l.length
    · rcases hz with rfl | ⟨b, off, rfl⟩
      · simp at hlt
      rcases hz2 with rfl | ⟨b2, off2, rfl⟩
      · simp at hlt
      have hltz : (k : Int) < (l.length : Int) := by omega
      obtain ⟨ax, lx, cx, g1, g2, fx⟩ := (H1.out.later hL).grown hlt
      obtain ⟨ay, ly, cy, g3, g4, fy⟩ := (H2.out.later hL).grown hlt
      have hE : ∀ q os, Calls Tryz.prog 42 #[.agg #[.string (l.getD k noFact).1, .slice ax lx cx], .agg #[.string (l.getD k noFact).1, .slice ay ly cy]] (grow (wr.drewN q) os) fun e w'' => e = .returned (.bool true) ∧ Later (grow (wr.drewN q) os) w'' :=
        fun q os => (rEqual _ _ _ _ _ (fx.later ⟨q, os, rfl⟩) (fy.later ⟨q, os, rfl⟩)).mono fun e w' ⟨he, hw⟩ => ⟨by rw [he, sameF_iff.2 rfl], hw⟩
      have HE := hide hE
      clear hE fx fy
      generalize (l.getD k noFact).1 = nk at *
      go_wp2
      go_quiet_grown ((go_at_call 42; exact Calls.grown_of (HE.out _ _)))
      go_wp2
      go_roundw
      case rel => exact ⟨k + 1, by omega, by go_num, hL.trans ⟨_, _, rfl⟩⟩
      case measure => simp [intOf]; omega
    · go_wp2
      go_ret
      exact ⟨rfl, hL⟩

end Go.Proofs.YtjdmpdhinelpoaaGreatDoor

/- The walks of chapter 6's statements' closed beginning, alive, and of the reference's SameRun (of one run twice). -/
namespace Go.Proofs.YtjdmpdhinelpoaaGreatDoor
open Go.RowKit Go.Sort Go.Maps

/-- What is new of what was new, and all over and over: both of All come to the same. -/
theorem runGo_nil {p : List RuleD} {ss : List Nat} : ∀ (c n : Nat) {l : List FactB}, (runGo p ss c n l).1 ≠ 0 → (runGo p ss c n l).2 = []
  | 0, _, _, h => absurd rfl h
  | c + 1, n, l, h => by
    unfold runGo at h ⊢
    split
    · rfl
    · rename_i h1
      rw [if_neg h1] at h
      exact runGo_nil c (n + 1) h

theorem all_same {p : List RuleD} {l : List FactB} (h4 : (allR p l).1 ≠ 4) (h4' : (allP p l).1 ≠ 4) : allR p l = allP p l := by
  by_cases h : forE p l = 0
  · obtain ⟨hp, hg, τ, _, hs, ht⟩ := forE_zero h
    have e1 : (strataP p).2.1 = 0 := by rw [hs]
    have e2 : (strataP p).1 = p.map fun r => τ r.head.name := by rw [hs]
    have e3 : (factsP p l).1 = 0 := by unfold forE at h; rw [if_neg (by simp [e1])] at h; exact h
    have hP : allP p l = runGo p (p.map fun r => τ r.head.name) (countP (p.map fun r => τ r.head.name)) 0 l := by
      unfold allP
      rw [if_neg (by simp [e1]), if_neg (by simp [e3]), e2]
    have hR : allR p l = if (stepsP p (p.map fun r => τ r.head.name) 1000 ⟨l, l, 0, 0, decide (countP (p.map fun r => τ r.head.name) = 0)⟩).1 ≠ 0 then ((stepsP p (p.map fun r => τ r.head.name) 1000 ⟨l, l, 0, 0, decide (countP (p.map fun r => τ r.head.name) = 0)⟩).1, []) else (0, (stepsP p (p.map fun r => τ r.head.name) 1000 ⟨l, l, 0, 0, decide (countP (p.map fun r => τ r.head.name) = 0)⟩).2.known) := by
      unfold allR runOf
      rw [if_neg (by simp [h]), e2]
    rw [hP] at h4' ⊢
    rw [hR] at h4 ⊢
    have h5 : (stepsP p (p.map fun r => τ r.head.name) 1000 ⟨l, l, 0, 0, decide (countP (p.map fun r => τ r.head.name) = 0)⟩).1 ≠ 4 := fun e => h4 (by rw [if_pos (by rw [e]; simp)]; exact e)
    obtain ⟨a1, a2⟩ := begin_rest hp (fun r => τ r.head.name) ht hg h5 h4'
    split
    · rename_i h6
      refine Prod.ext a1 ?_
      dsimp only
      rw [runGo_nil _ _ (by rw [← a1]; exact h6)]
    · rename_i h6
      have h6 := Classical.byContradiction h6
      exact Prod.ext (h6.symm.trans a1) (a2 h6)
  · have hR : allR p l = (forE p l, []) := by unfold allR; rw [if_pos h]
    have hP : allP p l = (forE p l, []) := by
      unfold allP forE at *
      by_cases h1 : (strataP p).2.1 ≠ 0
      · rw [if_pos h1, if_pos h1]
      · rw [if_neg h1] at h
        rw [if_neg h1, if_neg h1, if_pos h]
    rw [hR, hP]

/-! ### the closed beginning -/

def ruls6 : List RuleD :=
  [⟨⟨false, [116], [(true, [88]), (true, [89])]⟩, [⟨false, [101], [(true, [88]), (true, [89])]⟩]⟩,
   ⟨⟨false, [116], [(true, [88]), (true, [90])]⟩, [⟨false, [116], [(true, [88]), (true, [89])]⟩, ⟨false, [101], [(true, [89]), (true, [90])]⟩]⟩]
def told6 : List FactB := [(kb [101], [kb [97], kb [98]])]
def all6 : List FactB := [(kb [101], [kb [97], kb [98]]), (kb [116], [kb [97], kb [98]])]
def txt6 : Bs := [116, 40, 88, 44, 89, 41, 32, 58, 45, 32, 101, 40, 88, 44, 89, 41, 46, 32, 116, 40, 88, 44, 90, 41, 32, 58, 45, 32, 116, 40, 88, 44, 89, 41, 44, 32, 101, 40, 89, 44, 90, 41, 46]
def run6 : RunD := ⟨all6, all6, 1, 2, true⟩

theorem told_txt6 : toldRule txt6 = (ruls6, 0, 0) := by kernel_rfl
theorem strata6 : strataP ruls6 = ([0, 0], 0, 0) := by kernel_rfl
theorem up_told6 : Up told6 := by show List.Pairwise _ _; rw [eF_eq]; decide +kernel
theorem right_told6 : ∀ f ∈ told6, wrongF f = 0 := by decide +kernel
theorem fit_told6 : ∀ f ∈ told6, fitF ruls6 f = true := by decide +kernel
theorem good_told6 : GoodS ruls6 told6 := ⟨up_told6, fun f hf => wrongF_right.1 (right_told6 f hf), by decide, fit_told6⟩
theorem for6 : forE ruls6 told6 = 0 := by
  have e1 : (strataP ruls6).2.1 = 0 := by rw [strata6]
  unfold forE
  rw [if_neg (fun h => h e1), good_facts good_told6]
theorem begin6 : runOf ruls6 told6 = ⟨told6, told6, 0, 0, false⟩ := by
  unfold runOf
  rw [strata6]
  rfl
theorem steps6 : stepsP ruls6 [0, 0] 9 ⟨told6, told6, 0, 0, false⟩ = (0, run6) := by rw [stepsJ_eq]; kernel_rfl
theorem steps6' : stepsP ruls6 [0, 0] 1000 ⟨told6, told6, 0, 0, false⟩ = (0, run6) := by
  have := steps_add 9 991 ⟨told6, told6, 0, 0, false⟩ (p := ruls6) (ss := [0, 0]) (by rw [steps6])
  rw [show 9 + 991 = 1000 from rfl, steps6] at this
  rw [this]
  exact steps_done rfl 991
theorem stepsF6 : stepsF ruls6 (runOf ruls6 told6) 9 = (0, run6) := by
  unfold stepsF
  rw [if_neg (by rw [begin_right for6]; simp), if_neg (by simp), begin6, strata6]
  exact steps6
theorem beginP6 : beginP ruls6 told6 = (0, runOf ruls6 told6) := by unfold beginP; rw [if_neg (by rw [for6]; simp)]
theorem allR6 : allR ruls6 told6 = (0, all6) := by
  unfold allR
  rw [if_neg (by rw [for6]; simp), begin6, strata6, steps6']
  rfl
theorem wrong6 : wrongRunP ruls6 run6 = 0 := by
  have h := begin_right for6
  obtain ⟨h1, h2⟩ := wrongRun_zero h
  obtain ⟨hp, _, τ, _, hs, _⟩ := forE_zero for6
  have e : (strataP ruls6).1 = ruls6.map fun r => τ r.head.name := by rw [hs]
  have hr : RightN ruls6 (countP (strataP ruls6).1) run6 := by
    have h3 := steps6
    rw [← begin6, show ([0, 0] : List Nat) = (strataP ruls6).1 by rw [strata6]] at h3
    rw [e] at h2 h3 ⊢
    exact steps_right hp _ 9 h2 h3
  refine wrongRun_right ?_ hr
  have e1 : (strataP ruls6).2.1 = 0 := by rw [strata6]
  unfold forE
  rw [if_neg (fun h => h e1), good_facts hr.good]

theorem fact1 {w : World} {c : Nat} {n0 : ByteArray} {s0 : Value} {l0 : List ByteArray} {t : TypeId} {fr : Nat × Nat} (h : w.heap[c]? = some (.cells #[.string n0, s0] t fr)) (h0 : Strs w s0 l0) : Facts w (.slice (some ⟨c, 0, none⟩) 1 1) [(n0, l0)] := by
  refine ⟨by simp, _, 1, rfl, fun _ => ⟨c, 0, rfl, (Array.getElem?_eq_some_iff.1 h).1, fun i hi => ?_⟩⟩
  rw [cell_of_row _ _ _ _ _ _ h, cell_of_row _ _ _ _ _ _ h]
  simp at hi
  subst hi
  exact ⟨rfl, s0, rfl, h0⟩

set_option maxRecDepth 100000 in
set_option maxHeartbeats 4000000 in
theorem alive6 (w : World) (m : Int) (hm : w.cell? ⟨0, 0, none⟩ = some (.int .i64 m)) : Calls Tryz.prog 17 #[] w fun e w' => e = .returned (.bool true) ∧ Below w.heap.size w w' := by
  have HP := hide (parseC (bs txt6) w m hm)
  rw [raw_bs, told_txt6] at HP
  clear hm
  go_enter Tryz.func17, Tryz.ntmps17
  go_wp2_with fail
  refine HP.out.mono ?_
  rintro e w1 ⟨v1, rfl, hV1, hB1⟩
  dsimp only at hV1 ⊢
  have HV1 := hide (Kind.sl_any hV1)
  have HB1 := hide hB1
  obtain ⟨va, vc, rfl⟩ := Kind.slice hV1
  clear HP hV1 hB1
  obtain ⟨w2, hw2⟩ : ∃ w2, w2 = ((w1.alloc (.cells #[.int .i64 0, .int .i64 0] 55)).alloc (.cells #[.string { data := #[97] }, .string { data := #[98] }] 9)).alloc (.cells #[.string { data := #[101] }, .slice (some ⟨w1.heap.size + 1, 0, none⟩) 2 2] 63) := ⟨_, rfl⟩
  have hL2 : Later w1 w2 := by rw [hw2]; exact (by repeat (first | exact Later.refl _ | assumption | refine Later.drewN ?_ _ | refine Later.drew ?_ | refine Later.alloc ?_ _ | refine Later.grow ?_ _))
  have r1 : w2.heap[w1.heap.size + 1]? = some (.cells #[.string { data := #[97] }, .string { data := #[98] }] 9 (0, 0)) := by
    rw [hw2]
    simp only [heap_at, World.size_alloc]
    repeat (first | rw [if_pos trivial] | rw [if_pos (by omega)] | rw [if_neg (by omega)])
  have r2 : w2.heap[w1.heap.size + 1 + 1]? = some (.cells #[.string { data := #[101] }, .slice (some ⟨w1.heap.size + 1, 0, none⟩) 2 2] 63 (0, 0)) := by
    rw [hw2]
    simp only [heap_at, World.size_alloc]
    repeat (first | rw [if_pos trivial] | rw [if_pos (by omega)] | rw [if_neg (by omega)])
  have hF : Facts w2 (.slice (some ⟨w1.heap.size + 1 + 1, 0, none⟩) 1 1) told6 := fact1 r2 (strs2' r1)
  have HBg := hide (roundBegin ruls6 told6 (.slice va ruls6.length vc) _ w2 (Kind.sl_later HV1.out hL2) hF)
  rw [beginP6, begin6] at HBg
  have HB2 := hide hL2.below
  have HW2 := hide hw2
  clear hL2 r1 r2 hF hw2
  go_wp2_with fail
  rw [← HW2.out]
  refine HBg.out.mono ?_
  rintro e w3 ⟨v3, er, rfl, ⟨her, hR3⟩, hB3⟩
  dsimp only at her hR3
  subst her
  obtain ⟨xa, xc, ya, yc, rfl, hO3, hN3⟩ := hR3.slices
  dsimp only at hO3 hN3 ⊢
  have HO3 : Hid (OwnF w3 (w2.heap.size + 1) (.slice xa 1 xc) told6) := hO3
  have HN3 : Hid (OwnF w3 (w2.heap.size + 1) (.slice ya 1 yc) told6) := hN3
  have e1 : told6.length = 1 := rfl
  rw [e1]
  have HB3 := hide (below_trans HB2.out hB3 HB2.out.size)
  have hw3 : w1.heap.size ≤ w3.heap.size := HB3.out.size
  obtain ⟨w4, hw4⟩ : ∃ w4, w4 = w3.alloc (.cells #[.slice xa 1 xc, .slice ya 1 yc, .int .i64 0, .int .i64 0, .bool false] 26) := ⟨_, rfl⟩
  have hL4 : Later w3 w4 := by rw [hw4]; exact (Later.refl _).alloc _
  have hr4 : w4.heap[w3.heap.size]? = some (.cells #[.slice xa 1 xc, .slice ya 1 yc, .int .i64 0, .int .i64 0, .bool false] 26 (0, 0)) := by rw [hw4]; exact heap_alloc_new w3 _
  have hz4 : w4.heap.size = w3.heap.size + 1 := by rw [hw4]; simp
  have hSt := roundSteps ruls6 ⟨told6, told6, 0, 0, false⟩ 9 (.slice va ruls6.length vc) (.slice xa 1 xc) (.slice ya 1 yc) w4 (Kind.sl_below HV1.out (below_trans HB3.out hL4.below HB3.out.size)) ((HO3.out.later hL4).facts (by decide)) ((HN3.out.later hL4).facts (by decide))
  rw [← begin6, stepsF6, begin6] at hSt
  have HSt := hide hSt
  have HB4 := hide (below_trans HB3.out hL4.below HB3.out.size)
  have HR4 := hide hr4
  have HW4 := hide hw4
  clear e1 hB3 hR3 hO3 hN3 HO3 HN3 hL4 hr4 hw4 hSt HBg HW2 HB2 HB3
  go_wp2_with fail
  rw [← HW4.out]
  refine HSt.out.mono ?_
  rintro e w5 ⟨v5, er, rfl, ⟨her, hR5⟩, hB5⟩
  dsimp only at her hR5
  subst her
  obtain ⟨za, zc, ua, uc, rfl, hO5, hN5⟩ := hR5.slices
  have HO5 : Hid (OwnF w5 (w4.heap.size + 2) (.slice za 2 zc) all6) := hO5
  have HN5 : Hid (OwnF w5 (w4.heap.size + 2) (.slice ua 2 uc) all6) := hN5
  have e1 : run6.known.length = 2 := rfl
  have e2 : run6.fresh.length = 2 := rfl
  have e3 : run6.level = 1 := rfl
  have e4 : run6.rounds = 2 := rfl
  have e5 : run6.done = true := rfl
  rw [e1, e2, e3, e4, e5]
  have hr5 : w5.heap[w3.heap.size]? = some (.cells #[.slice xa 1 xc, .slice ya 1 yc, .int .i64 0, .int .i64 0, .bool false] 26 (0, 0)) := by rw [hB5.block _ (by omega)]; exact HR4.out
  have hz5 := hB5.size
  obtain ⟨wp, hwp⟩ : ∃ wp, wp = put5 w5 w3.heap.size (.slice za 2 zc) (.slice ua 2 uc) (.int .i64 1) (.int .i64 2) (.bool true) := ⟨_, rfl⟩
  have hzp : wp.heap.size = w5.heap.size := by rw [hwp]; unfold put5; simp only [size_setCell]
  have hrp : wp.heap[w3.heap.size]? = some (.cells #[.slice za 2 zc, .slice ua 2 uc, .int .i64 1, .int .i64 2, .bool true] 26 (0, 0)) := by rw [hwp]; exact set_five hr5 _ _ _ _ _
  have hBp : Below w1.heap.size w1 wp := by rw [hwp]; exact Below.put5 (below_trans HB4.out hB5 HB4.out.size) hw3
  have hOp : OwnF wp (w4.heap.size + 2) (.slice za 2 zc) all6 := by rw [hwp]; exact HO5.out.put5 (by omega)
  have hNp : OwnF wp (w4.heap.size + 2) (.slice ua 2 uc) all6 := by rw [hwp]; exact HN5.out.put5 (by omega)
  obtain ⟨w6, hw6⟩ : ∃ w6, w6 = (wp.alloc (.cells #[.string { data := #[97] }, .string { data := #[98] }] 9)).alloc (.cells #[.string { data := #[101] }, .slice (some ⟨wp.heap.size, 0, none⟩) 2 2] 63) := ⟨_, rfl⟩
  have hL6 : Later wp w6 := by rw [hw6]; exact ((Later.refl _).alloc _).alloc _
  have r1 : w6.heap[wp.heap.size]? = some (.cells #[.string { data := #[97] }, .string { data := #[98] }] 9 (0, 0)) := by
    rw [hw6]
    simp only [heap_at, World.size_alloc]
    repeat (first | rw [if_pos trivial] | rw [if_pos (by omega)] | rw [if_neg (by omega)])
  have r2 : w6.heap[wp.heap.size + 1]? = some (.cells #[.string { data := #[101] }, .slice (some ⟨wp.heap.size, 0, none⟩) 2 2] 63 (0, 0)) := by
    rw [hw6]
    simp only [heap_at, World.size_alloc]
    repeat (first | rw [if_pos trivial] | rw [if_pos (by omega)] | rw [if_neg (by omega)])
  have hF6 : Facts w6 (.slice (some ⟨wp.heap.size + 1, 0, none⟩) 1 1) told6 := fact1 r2 (strs2' r1)
  have HB6 : Hid (Below w1.heap.size w1 w6) := below_trans hBp hL6.below hBp.size
  have HV6 : Hid (ruleK.sl Anyw w6 (.slice va ruls6.length vc) ruls6) := Kind.sl_below HV1.out HB6.out
  have hAl := roundAll ruls6 told6 (.slice va ruls6.length vc) _ w6 HV6.out hF6
  rw [allR6] at hAl
  have HAl := hide hAl
  have HR6 : Hid (w6.heap[w3.heap.size]? = some (.cells #[.slice za 2 zc, .slice ua 2 uc, .int .i64 1, .int .i64 2, .bool true] 26 (0, 0))) := by show _ = _; rw [hL6.block (by omega)]; exact hrp
  have HO6 := hide (hOp.later hL6)
  have HN6 := hide (hNp.later hL6)
  have hz6 := hL6.size
  rw [hzp, hwp] at hw6
  unfold put5 at hw6
  have HW6 := hide hw6
  obtain ⟨b0, b1, b2, b3, b4, ⟨g0, g1, g2, g3, g4⟩, _⟩ := row5 hr5
  rw [hzp] at HAl
  clear e1 e2 e3 e4 e5 hrp hBp hOp hNp hL6 r1 r2 hF6 hAl hw6 hwp HO5 HN5 hR5 hO5 hN5 hB5 hr5 HSt HB4 HR4 HW4
  go_wp2_with fail
  rw [← HW6.out]
  refine HAl.out.mono ?_
  rintro e w7 ⟨v7, er, rfl, ⟨her, _, hT7⟩, hB7⟩
  dsimp only at her hT7
  subst her
  have hF7 := hT7 rfl
  obtain ⟨a7, c7, rfl⟩ := sliceFacts hF7
  have e1 : all6.length = 2 := rfl
  rw [e1]
  have hr7 : w7.heap[w3.heap.size]? = some (.cells #[.slice za 2 zc, .slice ua 2 uc, .int .i64 1, .int .i64 2, .bool true] 26 (0, 0)) := by rw [hB7.block _ (by omega)]; exact HR6.out
  have hWr : Calls Tryz.prog 11 #[.slice va ruls6.length vc, .agg #[.slice za 2 zc, .slice ua 2 uc, .int .i64 1, .int .i64 2, .bool true]] w7 fun e w' => e = .returned (.int .i64 0) ∧ Below w7.heap.size w7 w' := by
    have h := wrongRunC ruls6 run6 (.slice va ruls6.length vc) (.slice za 2 zc) (.slice ua 2 uc) w7 (Kind.sl_below HV6.out hB7) (((HO6.out.facts (by decide)).below hB7)) (((HN6.out.facts (by decide)).below hB7))
    rw [wrong6] at h
    exact h
  have HWr := hide hWr
  have HB7 : Hid (Below w.heap.size w w7) := below_trans HB1.out (below_trans HB6.out hB7 HB6.out.size) HB1.out.size
  obtain ⟨q0, q1, q2, q3, q4, _, _⟩ := row5 hr7
  clear b0 b1 b2 b3 b4 g0 g1 g2 g3 g4 e1 hT7 hF7 hB7 hr7 hWr HAl HW6 HR6 HO6 HN6 HB6 HV6
  go_wp2_with fail
  refine HWr.out.mono ?_
  rintro e w8 ⟨rfl, hB8⟩
  have HB8 : Hid (Below w.heap.size w w8) := below_trans HB7.out hB8 HB7.out.size
  clear hB8 HWr
  go_wp2
  go_ret
  exact ⟨rfl, HB8.out⟩

set_option maxRecDepth 100000 in
set_option maxHeartbeats 2000000 in
theorem sameRun (r : RunD) (v1 v2 : Value) (w : World) (h1 : RunV w v1 r) (h2 : RunV w v2 r) :
    Calls Tryz.prog 10 #[v1, v2] w fun e w' => e = .returned (.bool true) ∧ Later w w' := by
  obtain ⟨kv, nv, rfl, hk1, hn1⟩ := h1
  obtain ⟨kv', nv', rfl, hk2, hn2⟩ := h2
  obtain ⟨ka, kc, rfl⟩ := sliceFacts hk1
  obtain ⟨na, nc, rfl⟩ := sliceFacts hn1
  obtain ⟨xa, xc, rfl⟩ := sliceFacts hk2
  obtain ⟨ya, yc, rfl⟩ := sliceFacts hn2
  obtain ⟨wb, hwb⟩ : ∃ wb, wb = (w.alloc (.cells #[.slice ka r.known.length kc, .slice na r.fresh.length nc, .int .i64 r.level, .int .i64 r.rounds, .bool r.done] 26)).alloc (.cells #[.slice xa r.known.length xc, .slice ya r.fresh.length yc, .int .i64 r.level, .int .i64 r.rounds, .bool r.done] 26) := ⟨_, rfl⟩
  have hLb : Later w wb := by rw [hwb]; exact ((Later.refl w).alloc _).alloc _
  have hzb : wb.heap.size = w.heap.size + 2 := by rw [hwb]; simp
  have hr1 : wb.heap[w.heap.size]? = some (.cells #[.slice ka r.known.length kc, .slice na r.fresh.length nc, .int .i64 r.level, .int .i64 r.rounds, .bool r.done] 26 (0, 0)) := by
    rw [hwb, Below.heap_alloc _ _ _ (by simp)]; exact heap_alloc_new w _
  have hr2 : wb.heap[w.heap.size + 1]? = some (.cells #[.slice xa r.known.length xc, .slice ya r.fresh.length yc, .int .i64 r.level, .int .i64 r.rounds, .bool r.done] 26 (0, 0)) := by
    have := heap_alloc_new (w.alloc (.cells #[.slice ka r.known.length kc, .slice na r.fresh.length nc, .int .i64 r.level, .int .i64 r.rounds, .bool r.done] 26)) (.cells #[.slice xa r.known.length xc, .slice ya r.fresh.length yc, .int .i64 r.level, .int .i64 r.rounds, .bool r.done] 26)
    rw [hwb]; simpa using this
  have HS1 := hide (rSame _ _ r.known wb (hk1.later hLb) (hk2.later hLb))
  have HN1 := hide (hn1.later hLb)
  have HN2 := hide (hn2.later hLb)
  have HR1 := hide hr1
  have HR2 := hide hr2
  have HL := hide hLb
  have HW := hide hwb
  clear hk1 hn1 hk2 hn2 hLb hr1 hr2 hwb
  go_enter Tryz.func10, Tryz.ntmps10
  go_wp2_with fail
  rw [← HW.out]
  refine HS1.out.mono ?_
  rintro e w1 ⟨rfl, hL1⟩
  have hr1 : w1.heap[w.heap.size]? = some (.cells #[.slice ka r.known.length kc, .slice na r.fresh.length nc, .int .i64 r.level, .int .i64 r.rounds, .bool r.done] 26 (0, 0)) := by rw [hL1.block (by omega)]; exact HR1.out
  have hr2 : w1.heap[w.heap.size + 1]? = some (.cells #[.slice xa r.known.length xc, .slice ya r.fresh.length yc, .int .i64 r.level, .int .i64 r.rounds, .bool r.done] 26 (0, 0)) := by rw [hL1.block (by omega)]; exact HR2.out
  obtain ⟨b0, b1, b2, b3, b4, _, _⟩ := row5 hr1
  obtain ⟨q0, q1, q2, q3, q4, _, _⟩ := row5 hr2
  have HS2 := hide (rSame _ _ r.fresh w1 (HN1.out.later hL1) (HN2.out.later hL1))
  have HR1' := hide hr1
  have HR2' := hide hr2
  have HL1 := hide (HL.out.trans hL1)
  have hz1 := hL1.size
  clear hL1 hr1 hr2 HS1 HR1 HR2 HN1 HN2 HW
  go_wp2_with fail
  refine HS2.out.mono ?_
  rintro e w2 ⟨rfl, hL2⟩
  clear b0 b1 b2 b3 b4 q0 q1 q2 q3 q4
  have hr1 : w2.heap[w.heap.size]? = some (.cells #[.slice ka r.known.length kc, .slice na r.fresh.length nc, .int .i64 r.level, .int .i64 r.rounds, .bool r.done] 26 (0, 0)) := by rw [hL2.block (by omega)]; exact HR1'.out
  have hr2 : w2.heap[w.heap.size + 1]? = some (.cells #[.slice xa r.known.length xc, .slice ya r.fresh.length yc, .int .i64 r.level, .int .i64 r.rounds, .bool r.done] 26 (0, 0)) := by rw [hL2.block (by omega)]; exact HR2'.out
  obtain ⟨b0, b1, b2, b3, b4, _, _⟩ := row5 hr1
  obtain ⟨q0, q1, q2, q3, q4, _, _⟩ := row5 hr2
  have HL2 := hide (HL1.out.trans hL2)
  clear hr1 hr2 hL2 HS2 HR1' HR2'
  go_wp2
  go_ret
  exact ⟨by simp, HL2.out⟩

end Go.Proofs.YtjdmpdhinelpoaaGreatDoor

/- The walk of RoundSame. -/
namespace Go.Proofs.YtjdmpdhinelpoaaGreatDoor
open Go.RowKit Go.Sort Go.Maps

/-- A set that All told, or nothing. -/
theorem once_facts {w : World} {v : Value} {er : Int} {x : Int × List FactB} (h : OnceT w v er x) (hx : x.1 ≠ 0 → x.2 = []) : Facts w v x.2 := by
  by_cases h0 : x.1 = 0
  · exact h.2.2 h0
  · rw [h.2.1 h0, hx h0]; exact facts_nil w

theorem allR_nil {p : List RuleD} {l : List FactB} (h : (allR p l).1 ≠ 0) : (allR p l).2 = [] := by
  unfold allR at h ⊢
  split
  · rfl
  · rename_i h1
    rw [if_neg h1] at h
    split
    · rfl
    · rename_i h2
      rw [if_neg h2] at h
      exact absurd rfl h

set_option maxRecDepth 100000 in
set_option maxHeartbeats 4000000 in
theorem roundSameW (pv fv : Value) (p : List RuleD) (l : List FactB) (w : World) (m : Int) (hm : w.cell? ⟨0, 0, none⟩ = some (.int .i64 m)) (hv : ruleK.sl Anyw w pv p) (hf : Facts w fv l) :
    Calls Tryz.prog 4 #[pv, fv] w fun e w' => e = .returned (.bool true) ∧ Below w.heap.size w w' := by
  have HA := hide (alive6 w m hm)
  obtain ⟨pa, pc, rfl⟩ := Kind.slice hv
  obtain ⟨fa, fc, rfl⟩ := sliceFacts hf
  have HV := hide hv
  have HF := hide hf
  clear hv hf hm
  go_enter Tryz.func4, Tryz.ntmps4
  go_wp2_with fail
  refine HA.out.mono ?_
  rintro e w1 ⟨rfl, hB1⟩
  have HB1 := hide hB1
  have HAll := hide (roundAll p l (.slice pa p.length pc) (.slice fa l.length fc) w1 (Kind.sl_below HV.out hB1) (HF.out.below hB1))
  clear hB1 HA
  go_wp2_with fail
  refine HAll.out.mono ?_
  rintro e w2 ⟨v2, e2, rfl, hT2, hB2⟩
  have HB2 : Hid (Below w.heap.size w w2) := below_trans HB1.out hB2 HB1.out.size
  have HN := hide (naiveAllC p l (.slice pa p.length pc) (.slice fa l.length fc) w2 (Kind.sl_below HV.out HB2.out) (HF.out.below HB2.out))
  have HT2 := hide hT2
  have hv2 : ∃ a n c, v2 = .slice a n c := by
    obtain ⟨a, c, e⟩ := sliceFacts (once_facts hT2 allR_nil); exact ⟨a, _, c, e⟩
  obtain ⟨a2, n2, c2, rfl⟩ := hv2
  clear hT2 hB2 HAll HB1
  go_wp2_with fail
  refine HN.out.mono ?_
  rintro e w3 ⟨v3, e3, rfl, hT3, hB3⟩
  have HB3 : Hid (Below w.heap.size w w3) := below_trans HB2.out hB3 HB2.out.size
  have he2 := HT2.out.1
  have he3 := hT3.1
  by_cases h2 : e2 = 4
  · subst h2
    clear hT3 hB3 HN HT2 he2 he3
    have hv3 : True := trivial
    go_wp2
    go_ret
    exact ⟨rfl, HB3.out⟩
  · by_cases h3 : e3 = 4
    · subst h3
      have hq2 : (e2 == 4) = false := by simpa using h2
      clear hT3 hB3 HN HT2 he2 he3 h2
      go_wp2
      go_ret
      exact ⟨rfl, HB3.out⟩
    · have hs := all_same (p := p) (l := l) (by rw [← he2]; exact h2) (by rw [← he3]; exact h3)
      have e23 : e2 = e3 := by rw [he2, he3, hs]
      subst e23
      have hq2 : (e2 == 4) = false := by simpa using h2
      have hF2 := (once_facts HT2.out allR_nil).below hB3
      rw [hs] at hF2
      have hF3 := once_facts hT3 (by rw [← hs]; exact allR_nil)
      have HSm := hide (rSame _ v3 _ w3 hF2 hF3)
      obtain ⟨a3, c3, rfl⟩ := sliceFacts hF3
      clear hs hF2 hF3 hT3 hB3 HN HT2 he2 he3 h2 h3
      go_wp2_with fail
      refine HSm.out.mono ?_
      rintro e w4 ⟨rfl, hL4⟩
      have HB4 : Hid (Below w.heap.size w w4) := below_trans HB3.out hL4.below HB3.out.size
      clear hL4 HSm
      go_wp2
      go_ret
      exact ⟨by simp, HB4.out⟩

end Go.Proofs.YtjdmpdhinelpoaaGreatDoor
