/- Texts of this claim, one behind the other. -/
import Derived.Test.YtkihcabplbbjcaaGreatDoorJ30
import Derived.Test.YtkihcabplbbjcaaGreatDoorJ23
import Derived.Test.YtkihcabplbbjcaaGreatDoorJ24
import Derived.Test.YtkihcabplbbjcaaGreatDoorJ4
/- The walk of chapter 7's statements' closed beginning, alive. -/
namespace Go.Proofs.YtkihcabplbbjcaaGreatDoor
open Go.RowKit Go.Sort Go.Maps

def ruls7 : List RuleD := [⟨⟨false, [98], [(true, [88])]⟩, [⟨false, [97], [(true, [88])]⟩]⟩]
def told7 : List FactB := [(kb [97], [kb [113]])]
def all7 : List FactB := [(kb [97], [kb [113]]), (kb [98], [kb [113]])]
def txt7 : Bs := [98, 40, 88, 41, 32, 58, 45, 32, 97, 40, 88, 41, 46]
def f7 : FactB := (kb [98], [kb [113]])
def x7 : PrfD := .mk f7 0 [.mk (kb [97], [kb [113]]) (-1) []]

theorem told_txt7 : toldRule txt7 = (ruls7, 0, 0) := by kernel_rfl
theorem strata7 : strataP ruls7 = ([0], 0, 0) := by kernel_rfl
theorem run7 : runI ruls7 [0] 1 0 told7 = (0, all7) := by decide +kernel
theorem up_told7 : Up told7 := by show List.Pairwise _ _; rw [eF_eq]; decide +kernel
theorem right_told7 : ∀ f ∈ told7, wrongF f = 0 := by decide +kernel
theorem fit_told7 : ∀ f ∈ told7, fitF ruls7 f = true := by decide +kernel
theorem good_told7 : GoodS ruls7 told7 := ⟨up_told7, fun f hf => wrongF_right.1 (right_told7 f hf), by decide, fit_told7⟩
theorem count7 : countP [0] = 1 := by decide
theorem allP7 : allP ruls7 told7 = (0, all7) := by
  have e1 : (strataP ruls7).2.1 = 0 := by rw [strata7]
  have e2 : (strataP ruls7).1 = [0] := by rw [strata7]
  have e3 : (factsP ruls7 told7).1 = 0 := by rw [good_facts good_told7]
  unfold allP
  rw [if_neg (fun h => h e1), if_neg (fun h => h e3), e2, count7, runI_eq]
  exact run7
theorem follow7 : followE ruls7 told7 = 0 := by rw [← (follow_all ruls7 told7).1, allP7]

theorem kids_two {a : AtomD} (hn : a.no = false) (k l : FactB) (ls : List FactB) (b : List BindD) : (kidsGo [a] (k :: l :: ls) b).1 ≠ 0 := by
  unfold kidsGo
  rw [if_neg (by rw [hn]; simp)]
  dsimp only
  cases meetB a k b with
  | none => simp
  | some b' => simp [kidsGo]

/-- Of what b(q) comes. -/
theorem step7 : ∀ of : List FactB, (∀ k ∈ of, k ∈ all7) → stepE all7 ⟨⟨false, [98], [(true, [88])]⟩, [⟨false, [97], [(true, [88])]⟩]⟩ f7 of = 0 → of = [(kb [97], [kb [113]])]
  | [], _, h => by exact absurd h (by decide +kernel)
  | [k], hk, h => by
    have := hk k (by simp)
    simp only [all7, List.mem_cons, List.not_mem_nil, or_false] at this
    rcases this with rfl | rfl
    · rfl
    · exact absurd h (by decide +kernel)
  | k :: l :: ls, _, h => by
    exfalso
    unfold stepE at h
    dsimp only at h
    split at h
    · cases h
    · rename_i b _
      have hk := kids_two (a := ⟨false, [97], [(true, [88])]⟩) rfl k l ls b
      rw [if_pos hk] at h
      exact hk h

theorem last7 : lastL told7 (pastP ruls7 told7) = all7 := by
  have h := (follow_all ruls7 told7).2 follow7
  rw [allP7] at h
  exact (Prod.ext_iff.1 h).2.symm

theorem prove7 : proveP ruls7 told7 f7 = (0, some x7) := by
  obtain ⟨_, _, _, _, hho, _⟩ := ground_of follow7
  unfold proveP
  rw [if_neg (by rw [follow7]; simp), if_neg (by decide +kernel)]
  obtain ⟨how, hh⟩ : ∃ how, how = wayP (errA (lastL told7 (pastP ruls7 told7))) ruls7 told7 (lastL told7 (pastP ruls7 told7)) (told7 :: pastP ruls7 told7) := ⟨_, rfl⟩
  rw [← hh] at hho ⊢
  rw [last7] at hho ⊢
  rw [if_neg (by decide +kernel)]
  have h1 : how (kb [97], [kb [113]]) = (-1, []) := by
    rw [hh]
    unfold wayP
    rw [if_pos (by decide +kernel)]
  have h2 : how f7 = (0, [(kb [97], [kb [113]])]) := by
    rcases hho.ok f7 (by simp [all7, f7]) with ⟨h, _⟩ | ⟨i, r, of, hr, he, hs, hk⟩
    · exact absurd h (by decide +kernel)
    · have hi : i = 0 := by
        have := (List.getElem?_eq_some_iff.1 hr).1
        simp [ruls7] at this
        exact this
      subst hi
      simp only [ruls7, List.getElem?_cons_zero, Option.some.injEq] at hr
      subst hr
      rw [he, step7 of hk hs]
      rfl
  have h3 : ∀ n s, muchS (s.1 + 1, max s.2 2) = false → proveGo how (n + 1) (kb [97], [kb [113]]) 2 s = (some (.mk (kb [97], [kb [113]]) (-1) []), (s.1 + 1, max s.2 2)) := fun n s hm => by
    unfold proveGo
    rw [if_neg (by rw [hm]; simp), h1]
    rfl
  have h4 : proveGo how 61 f7 1 (0, 0) = (some x7, (2, 2)) := by
    show proveGo how (59 + 1 + 1) f7 1 (0, 0) = _
    unfold proveGo
    rw [if_neg (by decide), h2]
    have h5 := h3 59 (1, 1) (by decide)
    have e : kidsP (fun g s => proveGo how (59 + 1) g (1 + 1) s) [(kb [97], [kb [113]])] (0 + 1, max 0 1) = (some [.mk (kb [97], [kb [113]]) (-1) []], (2, 2)) := by
      unfold kidsP
      have h6 : proveGo how (59 + 1) (kb [97], [kb [113]]) (1 + 1) (0 + 1, max 0 1) = (some (.mk (kb [97], [kb [113]]) (-1) []), (2, 2)) := h5
      rw [h6]
      rfl
    dsimp only
    rw [e]
    rfl
  rw [h4]

theorem size7 (n : Nat) : measGo (fun _ => false) (n + 3) [x7] (0, 0) = (2, 2) := by
  rw [show n + 3 = n + 1 + 1 + 1 from rfl]
  simp [measGo, x7, PrfD.kids]

end Go.Proofs.YtkihcabplbbjcaaGreatDoor

/- What Prove makes, Check takes: plain; and the walk of alive. -/
namespace Go.Proofs.YtkihcabplbbjcaaGreatDoor
open Go.RowKit Go.Sort Go.Maps

theorem cnt_deep : ∀ (n : Nat) (x : PrfD), Deep n x → cnt (n + 1) x = cnt n x
  | 0, x, h => h.elim
  | n + 1, x, h => by
    show 1 + (x.kids.map (cnt (n + 1))).sum = 1 + (x.kids.map (cnt n)).sum
    have e : x.kids.map (cnt (n + 1)) = x.kids.map (cnt n) := List.map_congr_left fun k hk => cnt_deep n k (h k hk)
    rw [e]

theorem prove_check {p : List RuleD} {told : List FactB} {f : FactB} {x : PrfD} (h : proveP p told f = (0, some x)) : x.fact = f ∧ checkE p told 60 x = 0 ∧ cnt 61 x ≤ 400 ∧ Deep 60 x ∧ followE p told = 0 := by
  unfold proveP at h
  split at h
  · simp at h
  · rename_i h0
    have h0 : followE p told = 0 := Classical.byContradiction h0
    obtain ⟨_, _, _, hall, hho, _⟩ := ground_of h0
    split at h
    · simp at h
    · split at h
      · simp at h
      · rename_i hin
        have hin : f ∈ lastL told (pastP p told) := by
          refine inB_iff.1 ?_
          cases e : inB (lastL told (pastP p told)) f with
          | true => rfl
          | false => exact absurd e hin
        split at h
        · simp at h
        · rename_i y hy
          simp only [Prod.mk.injEq, Option.some.injEq, true_and] at h
          subst h
          obtain ⟨s', hs⟩ : ∃ s', proveGo (wayP (errA (lastL told (pastP p told))) p told (lastL told (pastP p told)) (told :: pastP p told)) 61 f 1 (0, 0) = (some y, s') := ⟨_, Prod.ext hy rfl⟩
          obtain ⟨a1, a2, a3, a4⟩ := prove_ok hho 60 f 1 (0, 0) y s' rfl hin hs
          obtain ⟨b1, _⟩ := kids_bound 61 f 1 (0, 0) y s' hs
          have e1 : (allP p told).1 = 0 := by rw [hall]
          have e2 : (allP p told).2 = lastL told (pastP p told) := by rw [hall]
          have hc : cnt 61 y = cnt 60 y := cnt_deep 60 y a3
          have a1 : s'.1 = 0 + cnt 60 y := a1
          have hm := meas_le (en := muchS) 60 (60 + 2) [y] (0, 0) (fun z hz => by simp at hz; subst hz; exact a3)
          simp only [List.map_cons, List.map_nil, List.sum_cons, List.sum_nil, Nat.zero_add, Nat.add_zero] at hm
          refine ⟨a2, ?_, by omega, a3, h0⟩
          unfold checkE
          rw [if_neg (fun h => h e1), if_neg, e2]
          · exact a4 61 (by omega)
          · unfold muchS at hm ⊢
            simp only [Bool.or_eq_true, decide_eq_true_eq, not_or]
            omega

theorem factOne {w : World} {c : Nat} {n0 : ByteArray} {s0 : Value} {l0 : List ByteArray} {t : TypeId} {fr : Nat × Nat} (h : w.heap[c]? = some (.cells #[.string n0, s0] t fr)) (h0 : Strs w s0 l0) : Facts w (.slice (some ⟨c, 0, none⟩) 1 1) [(n0, l0)] := by
  refine ⟨by simp, _, 1, rfl, fun _ => ⟨c, 0, rfl, (Array.getElem?_eq_some_iff.1 h).1, fun i hi => ?_⟩⟩
  rw [cell_of_row _ _ _ _ _ _ h, cell_of_row _ _ _ _ _ _ h]
  simp at hi
  subst hi
  exact ⟨rfl, s0, rfl, h0⟩

theorem check7 : checkE ruls7 told7 60 x7 = 0 := (prove_check prove7).2.1

set_option maxRecDepth 100000 in
set_option maxHeartbeats 4000000 in
theorem alive7 (w : World) (m : Int) (hm : w.cell? ⟨0, 0, none⟩ = some (.int .i64 m)) : Calls Tryz.prog 14 #[] w fun e w' => e = .returned (.bool true) ∧ Below w.heap.size w w' := by
  have HP := hide (parseC (bs txt7) w m hm)
  rw [raw_bs, told_txt7] at HP
  clear hm
  go_enter Tryz.func14, Tryz.ntmps14
  go_wp2_with fail
  refine HP.out.mono ?_
  rintro e w1 ⟨v1, rfl, hV1, hB1⟩
  dsimp only at hV1 ⊢
  have HV1 := hide (Kind.sl_any hV1)
  have HB1 := hide hB1
  obtain ⟨va, vc, rfl⟩ := Kind.slice hV1
  clear HP hV1 hB1
  obtain ⟨w2, hw2⟩ : ∃ w2, w2 = (((w1.alloc (.cells #[.int .i64 0, .int .i64 0] 72)).alloc (.cells #[.string { data := #[113] }] 9)).alloc (.cells #[.string { data := #[97] }, .slice (some ⟨w1.heap.size + 1, 0, none⟩) 1 1] 27)).alloc (.cells #[.string { data := #[113] }] 9) := ⟨_, rfl⟩
  have hL2 : Later w1 w2 := by rw [hw2]; exact (by repeat (first | exact Later.refl _ | assumption | refine Later.drewN ?_ _ | refine Later.drew ?_ | refine Later.alloc ?_ _ | refine Later.grow ?_ _))
  have r1 : w2.heap[w1.heap.size + 1]? = some (.cells #[.string { data := #[113] }] 9 (0, 0)) := by
    rw [hw2]
    simp only [heap_at, World.size_alloc]
    repeat (first | rw [if_pos trivial] | rw [if_pos (by omega)] | rw [if_neg (by omega)])
  have r2 : w2.heap[w1.heap.size + 1 + 1]? = some (.cells #[.string { data := #[97] }, .slice (some ⟨w1.heap.size + 1, 0, none⟩) 1 1] 27 (0, 0)) := by
    rw [hw2]
    simp only [heap_at, World.size_alloc]
    repeat (first | rw [if_pos trivial] | rw [if_pos (by omega)] | rw [if_neg (by omega)])
  have r3 : w2.heap[w1.heap.size + 1 + 1 + 1]? = some (.cells #[.string { data := #[113] }] 9 (0, 0)) := by
    rw [hw2]
    simp only [heap_at, World.size_alloc]
    repeat (first | rw [if_pos trivial] | rw [if_pos (by omega)] | rw [if_neg (by omega)])
  have hF : Facts w2 (.slice (some ⟨w1.heap.size + 1 + 1, 0, none⟩) 1 1) told7 := factOne r2 (strs1 r1)
  have hFV : FactV w2 (.agg #[.string { data := #[98] }, .slice (some ⟨w1.heap.size + 1 + 1 + 1, 0, none⟩) 1 1]) f7 := ⟨_, rfl, strs1 r3⟩
  have HPr := hide (proveC ruls7 told7 f7 (.slice va ruls7.length vc) _ _ w2 (Kind.sl_later HV1.out hL2) hF hFV)
  rw [prove7] at HPr
  have HB2 := hide (below_trans HB1.out hL2.below HB1.out.size)
  have HV2 := hide (Kind.sl_later HV1.out hL2)
  have HW2 := hide hw2
  clear hL2 r1 r2 r3 hF hFV hw2 HB1 HV1
  go_wp2_with (first | (rw [← HW2.out]) | fail)
  refine HPr.out.mono ?_
  rintro e w3 ⟨v3, rfl, hO3, hB3⟩
  obtain ⟨s3, k3, rfl, hs3, hk3⟩ := (hO3 : PrfV 60 (From w2.heap.size) w3 v3 x7)
  obtain ⟨sa, sc, rfl⟩ := Kind.slice hs3
  obtain ⟨ka, kc, rfl⟩ := Kind.slice hk3
  have hP3 : PrfV 60 Anyw w3 (.agg #[.string (kb [98]), .slice sa 1 sc, .int .i64 0, .slice ka 1 kc]) x7 := ⟨_, _, rfl, Kind.sl_any hs3, Kind.sl_any hk3⟩
  obtain ⟨w4, hw4⟩ : ∃ w4, w4 = w3.alloc (.cells #[.string (kb [98]), .slice sa 1 sc, .int .i64 0, .slice ka 1 kc] 30) := ⟨_, rfl⟩
  have hL4 : Later w3 w4 := by rw [hw4]; exact (Later.refl w3).alloc _
  have hR4 : w4.heap[w3.heap.size]? = some (.cells #[.string (kb [98]), .slice sa 1 sc, .int .i64 0, .slice ka 1 kc] 30 (0, 0)) := by rw [hw4]; exact heap_alloc_new w3 _
  have hB4 := below_trans (below_trans HB2.out hB3 HB2.out.size) hL4.below (below_trans HB2.out hB3 HB2.out.size).size
  have hP4 := hP3.below hL4.below
  have hc7 : cnt 61 x7 ≤ 4000000 := by have := (prove_check prove7).2.2.1; omega
  have hSz := sizeC 60 x7 (.agg #[.string (kb [98]), .slice sa 1 sc, .int .i64 0, .slice ka 1 kc]) w4 hP4 hc7 (by omega)
  rw [show 60 + 2 = 59 + 3 from rfl, size7 59] at hSz
  have HSz := hide hSz
  have HV4 := hide (Kind.sl_below HV2.out (below_trans hB3 hL4.below hB3.size))
  have HP4 := hide hP4
  have HB4 := hide hB4
  have HW4 := hide hw4
  have HR4 := hide hR4
  obtain ⟨⟨l0, l1, l2, l3⟩, ⟨l4, l5, l6⟩, _, _⟩ := rowP4 hR4
  rw [show (Value.agg #[.string x7.fact.1, .slice sa x7.fact.2.length sc, .int .i64 x7.rule, .slice ka x7.kids.length kc]) = .agg #[.string (kb [98]), .slice sa 1 sc, .int .i64 0, .slice ka 1 kc] from rfl]
  clear hs3 hk3 hP3 hL4 hR4 hB4 hP4 hSz hw4 hB3 HPr HW2 HB2 HV2
  go_wp2_with (first | (rw [← HW4.out]) | fail)
  refine HSz.out.mono ?_
  rintro e w5 ⟨rfl, hB5⟩
  have hr5 := (hB5.block _ (Array.getElem?_eq_some_iff.1 HR4.out).1).trans HR4.out
  obtain ⟨w6, hw6⟩ : ∃ w6, w6 = (w5.alloc (.cells #[.string { data := #[113] }] 9)).alloc (.cells #[.string { data := #[97] }, .slice (some ⟨w5.heap.size, 0, none⟩) 1 1] 27) := ⟨_, rfl⟩
  have hL6 : Later w5 w6 := by rw [hw6]; exact (by repeat (first | exact Later.refl _ | assumption | refine Later.drewN ?_ _ | refine Later.drew ?_ | refine Later.alloc ?_ _ | refine Later.grow ?_ _))
  have r1 : w6.heap[w5.heap.size]? = some (.cells #[.string { data := #[113] }] 9 (0, 0)) := by
    rw [hw6]
    simp only [heap_at, World.size_alloc]
    repeat (first | rw [if_pos trivial] | rw [if_pos (by omega)] | rw [if_neg (by omega)])
  have r2 : w6.heap[w5.heap.size + 1]? = some (.cells #[.string { data := #[97] }, .slice (some ⟨w5.heap.size, 0, none⟩) 1 1] 27 (0, 0)) := by
    rw [hw6]
    simp only [heap_at, World.size_alloc]
    repeat (first | rw [if_pos trivial] | rw [if_pos (by omega)] | rw [if_neg (by omega)])
  have hF : Facts w6 (.slice (some ⟨w5.heap.size + 1, 0, none⟩) 1 1) told7 := factOne r2 (strs1 r1)
  have hr6 := (hL6.block (Array.getElem?_eq_some_iff.1 hr5).1).trans hr5
  have hB46 := below_trans hB5 hL6.below hB5.size
  have hCk := checkC ruls7 told7 60 x7 (.slice va ruls7.length vc) _ _ w6 (Kind.sl_below HV4.out hB46) hF (HP4.out.below hB46) hc7 (by omega)
  rw [check7] at hCk
  have HCk := hide hCk
  have HB6 := hide (below_trans HB4.out hB46 HB4.out.size)
  have HW6 := hide hw6
  obtain ⟨⟨_, _, m2, _⟩, _, _, _⟩ := rowP4 hr5
  obtain ⟨⟨n0, n1, n2, n3⟩, ⟨n4, n5, n6⟩, _, _⟩ := rowP4 hr6
  clear hL6 r1 r2 hF hr6 hr5 hB46 hCk hw6 hB5 HSz HP4 HV4 HB4 HW4 HR4 l0 l1 l2 l3 l4 l5 l6
  go_wp2_with (first | (rw [← HW6.out]) | fail)
  refine HCk.out.mono ?_
  rintro e w7 ⟨rfl, hB7⟩
  have HB7 := hide (below_trans HB6.out hB7 HB6.out.size)
  clear hB7 HCk HB6 HW6
  go_wp2
  go_ret
  exact ⟨rfl, HB7.out⟩

end Go.Proofs.YtkihcabplbbjcaaGreatDoor

/- The walk of ProofAll. -/
namespace Go.Proofs.YtkihcabplbbjcaaGreatDoor
open Go.RowKit Go.Sort Go.Maps

theorem prove_cases {p : List RuleD} {told all : List FactB} (h : allP p told = (0, all)) (f : FactB) : Rises all ∧ ((inB all f = false ∧ ∃ er, er ≠ 0 ∧ proveP p told f = (er, none)) ∨ (inB all f = true ∧ (proveP p told f = (4, none) ∨ ∃ x, proveP p told f = (0, some x)))) := by
  have h0 : followE p told = 0 := by rw [← (follow_all p told).1, h]
  obtain ⟨_, _, hg, hall, _⟩ := ground_of h0
  rw [h] at hall
  have e : all = lastL told (pastP p told) := (Prod.ext_iff.1 hall).2
  rw [← e] at hg
  refine ⟨hg.up, ?_⟩
  unfold proveP
  rw [if_neg (fun hn => hn h0), ← e]
  cases hi : inB all f with
  | false =>
    left
    refine ⟨rfl, ?_⟩
    split
    · rename_i hw
      exact ⟨_, hw, rfl⟩
    · exact ⟨6, by decide, by rw [if_pos rfl]⟩
  | true =>
    right
    refine ⟨rfl, ?_⟩
    have hw : wrongF f = 0 := wrongF_right.2 (hg.right f (inB_iff.1 hi))
    rw [if_neg (fun hn => hn hw), if_neg (by simp)]
    split
    · exact Or.inl rfl
    · rename_i x _
      exact Or.inr ⟨x, rfl⟩

end Go.Proofs.YtkihcabplbbjcaaGreatDoor

/- The walk of ProofRight. -/
namespace Go.Proofs.YtkihcabplbbjcaaGreatDoor
open Go.RowKit Go.Sort Go.Maps

/-- What the rules make of all is there. -/
theorem closed_all {p : List RuleD} {told all : List FactB} (h : allP p told = (0, all)) : (∀ r ∈ p, RightR r) ∧ (∀ f ∈ told, f ∈ all) ∧ ∀ r ∈ p, ∀ env f, FitsB (fun _ => all) r.body env → fillB r.head env = some f → f ∈ all := by
  have h0 : followE p told = 0 := by rw [← (follow_all p told).1, h]
  obtain ⟨hp, hl, τ, hτ, hst, hr⟩ := allP_ok h
  obtain ⟨_, _, _, hsub, hmod⟩ := all_model h
  have hall : allP p told = (0, lastL told (pastP p told)) := (follow_all p told).2 h0
  have e : all = lastL told (pastP p told) := by rw [h] at hall; exact (Prod.ext_iff.1 hall).2
  have hrun : runPast p (p.map fun r => τ r.head.name) (countP (p.map fun r => τ r.head.name)) 0 told = (0, pastP p told) := by
    have h1 := run_past p (p.map fun r => τ r.head.name) (countP (p.map fun r => τ r.head.name)) 0 told
    rw [hr] at h1
    refine Prod.ext h1.1.symm ?_
    unfold pastP
    rw [hst]
  refine ⟨hp.rules, hsub, fun r hr' env f hfit hfill => ?_⟩
  have hways := run_ways hp hτ _ 0 hl hrun r hr' (Nat.zero_le _) (by rw [Nat.zero_add]; exact lt_countP (List.mem_map.2 ⟨r, hr', rfl⟩))
  rw [← e] at hways
  obtain ⟨x, hx⟩ : ∃ x, headsP r all = some x := by
    unfold headsP allB
    cases hg : metGo (fun _ => all) 0 r.body [[]] with
    | none => exact absurd hg hways
    | some ms => exact ⟨_, rfl⟩
  exact hmod r hr' x hx f ((heads_mem (covers_right (hp.rules r hr')) hx f).2 ⟨env, hfit, hfill⟩)

set_option maxRecDepth 100000 in
set_option maxHeartbeats 8000000 in
theorem proofRightW (n : Nat) (pv tv xv : Value) (p : List RuleD) (told : List FactB) (x : PrfD) (w : World) (m : Int) (hm : w.cell? ⟨0, 0, none⟩ = some (.int .i64 m)) (hpv : ruleK.sl Anyw w pv p) (ht : Facts w tv told) (hx : PrfV n Anyw w xv x) (hn : cnt (n + 1) x ≤ 4000000) (hnn : n ≤ 4000000) :
    Calls Tryz.prog 4 #[pv, tv, xv] w fun e w' => e = .returned (.bool true) ∧ Below w.heap.size w w' := by
  have hxv := hx
  obtain ⟨s9, k9, rfl, hs9, hk9⟩ := hx
  obtain ⟨sa9, sc9, rfl⟩ := Kind.slice hs9
  obtain ⟨ka9, kc9, rfl⟩ := Kind.slice hk9
  obtain ⟨pa, pc, rfl⟩ := Kind.slice hpv
  obtain ⟨ta, tc, rfl⟩ := sliceFacts ht
  obtain ⟨w1, hw1⟩ : ∃ w1, w1 = w.alloc (.cells #[.string x.fact.1, .slice sa9 x.fact.2.length sc9, .int .i64 x.rule, .slice ka9 x.kids.length kc9] 30) := ⟨_, rfl⟩
  have hL1 : Later w w1 := by rw [hw1]; exact (Later.refl w).alloc _
  have hr0 : w1.heap[w.heap.size]? = some (.cells #[.string x.fact.1, .slice sa9 x.fact.2.length sc9, .int .i64 x.rule, .slice ka9 x.kids.length kc9] 30 (0, 0)) := by rw [hw1]; exact heap_alloc_new w _
  have hm1 : w1.cell? ⟨0, 0, none⟩ = some (.int .i64 m) := by
    have hlt := World.block_lt_of_cell? w _ hm
    rw [World.cell?_of_block (w := w) (hL1.block hlt)]; exact hm
  have HAl := hide (alive7 w1 m hm1)
  have HPv := hide hpv
  have HTv := hide ht
  have HXv := hide hxv
  have HW1 := hide hw1
  have HL1 := hide hL1
  have HR0 := hide hr0
  have hsz1 := (Array.getElem?_eq_some_iff.1 hr0).1
  clear hpv ht hxv hs9 hk9 hw1 hL1 hr0 hm1 hm
  go_enter Tryz.func4, Tryz.ntmps4
  go_wp2_with (first | (rw [← HW1.out]) | fail)
  refine HAl.out.mono ?_
  rintro e w2 ⟨rfl, hB2⟩
  have hBw2 := below_trans HL1.out.below hB2 HL1.out.size
  have hr02 := (hB2.block _ hsz1).trans HR0.out
  have HCk := hide (checkC p told n x _ _ _ w2 (Kind.sl_below HPv.out hBw2) (HTv.out.below hBw2) (HXv.out.below hBw2) hn hnn)
  have HB2 := hide hBw2
  have HR02 := hide hr02
  obtain ⟨⟨l0, l1, l2, l3⟩, ⟨l4, l5, l6⟩, _, _⟩ := rowP4 hr02
  obtain ⟨ck, hck⟩ : ∃ ck, ck = checkE p told n x := ⟨_, rfl⟩
  rw [← hck] at HCk
  have HCe := hide hck
  clear hck hB2 hBw2 hr02 HAl HW1
  go_wp2_with fail
  refine HCk.out.mono ?_
  rintro e w3 ⟨rfl, hB3⟩
  have hBw3 := below_trans HB2.out hB3 HB2.out.size
  have hl02 := (Array.getElem?_eq_some_iff.1 HR02.out).1
  have hr03 := (hB3.block _ hl02).trans HR02.out
  have HB3 := hide hBw3
  have HR03 := hide hr03
  by_cases h0 : ck = 0
  · subst h0
    have hA := naiveAllC p told _ _ w3 (Kind.sl_below HPv.out hBw3) (HTv.out.below hBw3)
    obtain ⟨e0, all, hae⟩ : ∃ e0 all, allP p told = (e0, all) := ⟨_, _, rfl⟩
    rw [hae] at hA
    have hce := HCe.out
    unfold checkE at hce
    rw [hae] at hce
    dsimp only at hce
    have he0 : e0 = 0 := by
      refine Classical.byContradiction fun hne => ?_
      rw [if_pos hne] at hce
      exact hne hce.symm
    subst he0
    rw [if_neg (by simp)] at hce
    have hwx : wrongX p told all (n + 1) x = 0 := by
      split at hce
      · cases hce
      · exact hce.symm
    have hdeep : Deep (n + 1) x := HXv.out.deep
    obtain ⟨cl1, cl2, cl3⟩ := closed_all hae
    have hmem : inB all x.fact = true := inB_iff.2 (wrong_right cl1 cl2 cl3 (n + 1) x hdeep hwx x (Sub.here x))
    have hup : Rises all := (prove_cases hae x.fact).1
    have HA := hide hA
    have HMem := hide hmem
    have HUp := hide hup
    clear cl1 cl2 cl3 hA hce hwx hdeep hmem hup hae hB3 hBw3 hr03 HCk l0 l1 l2 l3 l4 l5 l6
    go_wp2_with fail
    refine HA.out.mono ?_
    rintro e w4 ⟨v4, er4, rfl, ⟨her, _, hT4⟩, hB4⟩
    dsimp only at her hT4
    subst her
    have hF4 := hT4 rfl
    have hb4 := below_trans HB3.out hB4 HB3.out.size
    have hl03 := (Array.getElem?_eq_some_iff.1 HR03.out).1
    have hr04 := (hB4.block _ hl03).trans HR03.out
    have hin := inC v4 (.agg #[.string x.fact.1, .slice sa9 x.fact.2.length sc9]) all x.fact w4 hF4 (HXv.out.below hb4).fact HUp.out
    rw [in_eq, HMem.out] at hin
    have HIn := hide hin
    obtain ⟨a4, c4, rfl⟩ := sliceFacts hF4
    have HB4 := hide hb4
    obtain ⟨⟨l0, l1, l2, l3⟩, ⟨l4, l5, l6⟩, _, _⟩ := rowP4 hr04
    clear hT4 hF4 hb4 hr04 hin hB4 HA
    go_wp2_with fail
    refine HIn.out.mono ?_
    rintro e w5 ⟨rfl, hL5⟩
    have HB5 := hide (below_trans HB4.out hL5.below HB4.out.size)
    clear hL5 HIn
    go_wp2
    go_ret
    exact ⟨rfl, HB5.out⟩
  · have hne : (ck != 0) = true := by simpa using h0
    clear h0 HCe hr03 hB3 hBw3
    go_wp2
    go_ret
    exact ⟨rfl, HB3.out⟩

end Go.Proofs.YtkihcabplbbjcaaGreatDoor
