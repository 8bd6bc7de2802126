/- Texts of this claim, one behind the other. -/
import Derived.Test.YtkihcabplbbjcaaGreatDoorJ30
import Derived.Test.YtkihcabplbbjcaaGreatDoorJ23
import Derived.Test.YtkihcabplbbjcaaGreatDoorJ24
import Derived.Test.YtkihcabplbbjcaaGreatDoorJ4
import Derived.Test.YtkihcabplbbjcaaGreatDoorJ12
/- The walk of chapter 7's statements' closed beginning, alive. -/
namespace Go.Proofs.YtkihcabplbbjcaaGreatDoor
open Go.RowKit Go.Sort Go.Maps

def ruls7 : List RuleD := [⟨⟨false, [98], [(true, [88])]⟩, [⟨false, [97], [(true, [88])]⟩]⟩]
def told7 : List FactB := [(kb [97], [kb [113]])]
def all7 : List FactB := [(kb [97], [kb [113]]), (kb [98], [kb [113]])]
def txt7 : Bs := [98, 40, 88, 41, 32, 58, 45, 32, 97, 40, 88, 41, 46]
def f7 : FactB := (kb [98], [kb [113]])
def x7 : PrfD := .mk f7 0 [.mk (kb [97], [kb [113]]) (-1) []]

theorem told_txt7 : toldRule txt7 = (ruls7, 0, 0) := by kernel_rfl
theorem strata7 : strataP ruls7 = ([0], 0, 0) := by kernel_rfl
theorem run7 : runI ruls7 [0] 1 0 told7 = (0, all7) := by decide +kernel
theorem up_told7 : Up told7 := by show List.Pairwise _ _; rw [eF_eq]; decide +kernel
theorem right_told7 : ∀ f ∈ told7, wrongF f = 0 := by decide +kernel
theorem fit_told7 : ∀ f ∈ told7, fitF ruls7 f = true := by decide +kernel
theorem good_told7 : GoodS ruls7 told7 := ⟨up_told7, fun f hf => wrongF_right.1 (right_told7 f hf), by decide, fit_told7⟩
theorem count7 : countP [0] = 1 := by decide
theorem allP7 : allP ruls7 told7 = (0, all7) := by
  have e1 : (strataP ruls7).2.1 = 0 := by rw [strata7]
  have e2 : (strataP ruls7).1 = [0] := by rw [strata7]
  have e3 : (factsP ruls7 told7).1 = 0 := by rw [good_facts good_told7]
  unfold allP
  rw [if_neg (fun h => h e1), if_neg (fun h => h e3), e2, count7, runI_eq]
  exact run7
theorem follow7 : followE ruls7 told7 = 0 := by rw [← (follow_all ruls7 told7).1, allP7]

theorem kids_two {a : AtomD} (hn : a.no = false) (k l : FactB) (ls : List FactB) (b : List BindD) : (kidsGo [a] (k :: l :: ls) b).1 ≠ 0 := by
  unfold kidsGo
  rw [if_neg (by rw [hn]; simp)]
  dsimp only
  cases meetB a k b with
  | none => simp
  | some b' => simp [kidsGo]

/-- Of what b(q) comes. -/
theorem step7 : ∀ of : List FactB, (∀ k ∈ of, k ∈ all7) → stepE all7 ⟨⟨false, [98], [(true, [88])]⟩, [⟨false, [97], [(true, [88])]⟩]⟩ f7 of = 0 → of = [(kb [97], [kb [113]])]
  | [], _, h => by exact absurd h (by decide +kernel)
  | [k], hk, h => by
    have := hk k (by simp)
    simp only [all7, List.mem_cons, List.not_mem_nil, or_false] at this
    rcases this with rfl | rfl
    · rfl
    · exact absurd h (by decide +kernel)
  | k :: l :: ls, _, h => by
    exfalso
    unfold stepE at h
    dsimp only at h
    split at h
    · cases h
    · rename_i b _
      have hk := kids_two (a := ⟨false, [97], [(true, [88])]⟩) rfl k l ls b
      rw [if_pos hk] at h
      exact hk h

theorem last7 : lastL told7 (pastP ruls7 told7) = all7 := by
  have h := (follow_all ruls7 told7).2 follow7
  rw [allP7] at h
  exact (Prod.ext_iff.1 h).2.symm

theorem prove7 : proveP ruls7 told7 f7 = (0, some x7) := by
  obtain ⟨_, _, _, _, hho, _⟩ := ground_of follow7
  unfold proveP
  rw [if_neg (by rw [follow7]; simp), if_neg (by decide +kernel)]
  obtain ⟨how, hh⟩ : ∃ how, how = wayP (errA (lastL told7 (pastP ruls7 told7))) ruls7 told7 (lastL told7 (pastP ruls7 told7)) (told7 :: pastP ruls7 told7) := ⟨_, rfl⟩
  rw [← hh] at hho ⊢
  rw [last7] at hho ⊢
  rw [if_neg (by decide +kernel)]
  have h1 : how (kb [97], [kb [113]]) = (-1, []) := by
    rw [hh]
    unfold wayP
    rw [if_pos (by decide +kernel)]
  have h2 : how f7 = (0, [(kb [97], [kb [113]])]) := by
    rcases hho.ok f7 (by simp [all7, f7]) with ⟨h, _⟩ | ⟨i, r, of, hr, he, hs, hk⟩
    · exact absurd h (by decide +kernel)
    · have hi : i = 0 := by
        have := (List.getElem?_eq_some_iff.1 hr).1
        simp [ruls7] at this
        exact this
      subst hi
      simp only [ruls7, List.getElem?_cons_zero, Option.some.injEq] at hr
      subst hr
      rw [he, step7 of hk hs]
      rfl
  have h3 : ∀ n s, muchS (s.1 + 1, max s.2 2) = false → proveGo how (n + 1) (kb [97], [kb [113]]) 2 s = (some (.mk (kb [97], [kb [113]]) (-1) []), (s.1 + 1, max s.2 2)) := fun n s hm => by
    unfold proveGo
    rw [if_neg (by rw [hm]; simp), h1]
    rfl
  have h4 : proveGo how 61 f7 1 (0, 0) = (some x7, (2, 2)) := by
    show proveGo how (59 + 1 + 1) f7 1 (0, 0) = _
    unfold proveGo
    rw [if_neg (by decide), h2]
    have h5 := h3 59 (1, 1) (by decide)
    have e : kidsP (fun g s => proveGo how (59 + 1) g (1 + 1) s) [(kb [97], [kb [113]])] (0 + 1, max 0 1) = (some [.mk (kb [97], [kb [113]]) (-1) []], (2, 2)) := by
      unfold kidsP
      have h6 : proveGo how (59 + 1) (kb [97], [kb [113]]) (1 + 1) (0 + 1, max 0 1) = (some (.mk (kb [97], [kb [113]]) (-1) []), (2, 2)) := h5
      rw [h6]
      rfl
    dsimp only
    rw [e]
    rfl
  rw [h4]

theorem size7 (n : Nat) : measGo (fun _ => false) (n + 3) [x7] (0, 0) = (2, 2) := by
  rw [show n + 3 = n + 1 + 1 + 1 from rfl]
  simp [measGo, x7, PrfD.kids]

end Go.Proofs.YtkihcabplbbjcaaGreatDoor

/- What Prove makes, Check takes: plain; and the walk of alive. -/
namespace Go.Proofs.YtkihcabplbbjcaaGreatDoor
open Go.RowKit Go.Sort Go.Maps

theorem cnt_deep : ∀ (n : Nat) (x : PrfD), Deep n x → cnt (n + 1) x = cnt n x
  | 0, x, h => h.elim
  | n + 1, x, h => by
    show 1 + (x.kids.map (cnt (n + 1))).sum = 1 + (x.kids.map (cnt n)).sum
    have e : x.kids.map (cnt (n + 1)) = x.kids.map (cnt n) := List.map_congr_left fun k hk => cnt_deep n k (h k hk)
    rw [e]

theorem prove_check {p : List RuleD} {told : List FactB} {f : FactB} {x : PrfD} (h : proveP p told f = (0, some x)) : x.fact = f ∧ checkE p told 60 x = 0 ∧ cnt 61 x ≤ 400 ∧ Deep 60 x ∧ followE p told = 0 := by
  unfold proveP at h
  split at h
  · simp at h
  · rename_i h0
    have h0 : followE p told = 0 := Classical.byContradiction h0
    obtain ⟨_, _, _, hall, hho, _⟩ := ground_of h0
    split at h
    · simp at h
    · split at h
      · simp at h
      · rename_i hin
        have hin : f ∈ lastL told (pastP p told) := by
          refine inB_iff.1 ?_
          cases e : inB (lastL told (pastP p told)) f with
          | true => rfl
          | false => exact absurd e hin
        split at h
        · simp at h
        · rename_i y hy
          simp only [Prod.mk.injEq, Option.some.injEq, true_and] at h
          subst h
          obtain ⟨s', hs⟩ : ∃ s', proveGo (wayP (errA (lastL told (pastP p told))) p told (lastL told (pastP p told)) (told :: pastP p told)) 61 f 1 (0, 0) = (some y, s') := ⟨_, Prod.ext hy rfl⟩
          obtain ⟨a1, a2, a3, a4⟩ := prove_ok hho 60 f 1 (0, 0) y s' rfl hin hs
          obtain ⟨b1, _⟩ := kids_bound 61 f 1 (0, 0) y s' hs
          have e1 : (allP p told).1 = 0 := by rw [hall]
          have e2 : (allP p told).2 = lastL told (pastP p told) := by rw [hall]
          have hc : cnt 61 y = cnt 60 y := cnt_deep 60 y a3
          have a1 : s'.1 = 0 + cnt 60 y := a1
          have hm := meas_le (en := muchS) 60 (60 + 2) [y] (0, 0) (fun z hz => by simp at hz; subst hz; exact a3)
          simp only [List.map_cons, List.map_nil, List.sum_cons, List.sum_nil, Nat.zero_add, Nat.add_zero] at hm
          refine ⟨a2, ?_, by omega, a3, h0⟩
          unfold checkE
          rw [if_neg (fun h => h e1), if_neg, e2]
          · exact a4 61 (by omega)
          · unfold muchS at hm ⊢
            simp only [Bool.or_eq_true, decide_eq_true_eq, not_or]
            omega

theorem factOne {w : World} {c : Nat} {n0 : ByteArray} {s0 : Value} {l0 : List ByteArray} {t : TypeId} {fr : Nat × Nat} (h : w.heap[c]? = some (.cells #[.string n0, s0] t fr)) (h0 : Strs w s0 l0) : Facts w (.slice (some ⟨c, 0, none⟩) 1 1) [(n0, l0)] := by
  refine ⟨by simp, _, 1, rfl, fun _ => ⟨c, 0, rfl, (Array.getElem?_eq_some_iff.1 h).1, fun i hi => ?_⟩⟩
  rw [cell_of_row _ _ _ _ _ _ h, cell_of_row _ _ _ _ _ _ h]
  simp at hi
  subst hi
  exact ⟨rfl, s0, rfl, h0⟩

theorem check7 : checkE ruls7 told7 60 x7 = 0 := (prove_check prove7).2.1

set_option maxRecDepth 100000 in
set_option maxHeartbeats 4000000 in
theorem alive7 (w : World) (m : Int) (hm : w.cell? ⟨0, 0, none⟩ = some (.int .i64 m)) : Calls Tryz.prog 14 #[] w fun e w' => e = .returned (.bool true) ∧ Below w.heap.size w w' := by
  have HP := hide (parseC (bs txt7) w m hm)
  rw [raw_bs, told_txt7] at HP
  clear hm
  go_enter Tryz.func14, Tryz.ntmps14
  go_wp2_with fail
  refine HP.out.mono ?_
  rintro e w1 ⟨v1, rfl, hV1, hB1⟩
  dsimp only at hV1 ⊢
  have HV1 := hide (Kind.sl_any hV1)
  have HB1 := hide hB1
  obtain ⟨va, vc, rfl⟩ := Kind.slice hV1
  clear HP hV1 hB1
  obtain ⟨w2, hw2⟩ : ∃ w2, w2 = (((w1.alloc (.cells #[.int .i64 0, .int .i64 0] 72)).alloc (.cells #[.string { data := #[113] }] 9)).alloc (.cells #[.string { data := #[97] }, .slice (some ⟨w1.heap.size + 1, 0, none⟩) 1 1] 27)).alloc (.cells #[.string { data := #[113] }] 9) := ⟨_, rfl⟩
  have hL2 : Later w1 w2 := by rw [hw2]; exact (by repeat (first | exact Later.refl _ | assumption | refine Later.drewN ?_ _ | refine Later.drew ?_ | refine Later.alloc ?_ _ | refine Later.grow ?_ _))
  have r1 : w2.heap[w1.heap.size + 1]? = some (.cells #[.string { data := #[113] }] 9 (0, 0)) := by
    rw [hw2]
    simp only [heap_at, World.size_alloc]
    repeat (first | rw [if_pos trivial] | rw [if_pos (by omega)] | rw [if_neg (by omega)])
  have r2 : w2.heap[w1.heap.size + 1 + 1]? = some (.cells #[.string { data := #[97] }, .slice (some ⟨w1.heap.size + 1, 0, none⟩) 1 1] 27 (0, 0)) := by
    rw [hw2]
    simp only [heap_at, World.size_alloc]
    repeat (first | rw [if_pos trivial] | rw [if_pos (by omega)] | rw [if_neg (by omega)])
  have r3 : w2.heap[w1.heap.size + 1 + 1 + 1]? = some (.cells #[.string { data := #[113] }] 9 (0, 0)) := by
    rw [hw2]
    simp only [heap_at, World.size_alloc]
    repeat (first | rw [if_pos trivial] | rw [if_pos (by omega)] | rw [if_neg (by omega)])
  have hF : Facts w2 (.slice (some ⟨w1.heap.size + 1 + 1, 0, none⟩) 1 1) told7 := factOne r2 (strs1 r1)
  have hFV : FactV w2 (.agg #[.string { data := #[98] }, .slice (some ⟨w1.heap.size + 1 + 1 + 1, 0, none⟩) 1 1]) f7 := ⟨_, rfl, strs1 r3⟩
  have HPr := hide (proveC ruls7 told7 f7 (.slice va ruls7.length vc) _ _ w2 (Kind.sl_later HV1.out hL2) hF hFV)
  rw [prove7] at HPr
  have HB2 := hide (below_trans HB1.out hL2.below HB1.out.size)
  have HV2 := hide (Kind.sl_later HV1.out hL2)
  have HW2 := hide hw2
  clear hL2 r1 r2 r3 hF hFV hw2 HB1 HV1
  go_wp2_with (first | (rw [← HW2.out]) | fail)
  refine HPr.out.mono ?_
  rintro e w3 ⟨v3, rfl, hO3, hB3⟩
  obtain ⟨s3, k3, rfl, hs3, hk3⟩ := (hO3 : PrfV 60 (From w2.heap.size) w3 v3 x7)
  obtain ⟨sa, sc, rfl⟩ := Kind.slice hs3
  obtain ⟨ka, kc, rfl⟩ := Kind.slice hk3
  have hP3 : PrfV 60 Anyw w3 (.agg #[.string (kb [98]), .slice sa 1 sc, .int .i64 0, .slice ka 1 kc]) x7 := ⟨_, _, rfl, Kind.sl_any hs3, Kind.sl_any hk3⟩
  obtain ⟨w4, hw4⟩ : ∃ w4, w4 = w3.alloc (.cells #[.string (kb [98]), .slice sa 1 sc, .int .i64 0, .slice ka 1 kc] 30) := ⟨_, rfl⟩
  have hL4 : Later w3 w4 := by rw [hw4]; exact (Later.refl w3).alloc _
  have hR4 : w4.heap[w3.heap.size]? = some (.cells #[.string (kb [98]), .slice sa 1 sc, .int .i64 0, .slice ka 1 kc] 30 (0, 0)) := by rw [hw4]; exact heap_alloc_new w3 _
  have hB4 := below_trans (below_trans HB2.out hB3 HB2.out.size) hL4.below (below_trans HB2.out hB3 HB2.out.size).size
  have hP4 := hP3.below hL4.below
  have hc7 : cnt 61 x7 ≤ 4000000 := by have := (prove_check prove7).2.2.1; omega
  have hSz := sizeC 60 x7 (.agg #[.string (kb [98]), .slice sa 1 sc, .int .i64 0, .slice ka 1 kc]) w4 hP4 hc7 (by omega)
  rw [show 60 + 2 = 59 + 3 from rfl, size7 59] at hSz
  have HSz := hide hSz
  have HV4 := hide (Kind.sl_below HV2.out (below_trans hB3 hL4.below hB3.size))
  have HP4 := hide hP4
  have HB4 := hide hB4
  have HW4 := hide hw4
  have HR4 := hide hR4
  obtain ⟨⟨l0, l1, l2, l3⟩, ⟨l4, l5, l6⟩, _, _⟩ := rowP4 hR4
  rw [show (Value.agg #[.string x7.fact.1, .slice sa x7.fact.2.length sc, .int .i64 x7.rule, .slice ka x7.kids.length kc]) = .agg #[.string (kb [98]), .slice sa 1 sc, .int .i64 0, .slice ka 1 kc] from rfl]
  clear hs3 hk3 hP3 hL4 hR4 hB4 hP4 hSz hw4 hB3 HPr HW2 HB2 HV2
  go_wp2_with (first | (rw [← HW4.out]) | fail)
  refine HSz.out.mono ?_
  rintro e w5 ⟨rfl, hB5⟩
  have hr5 := (hB5.block _ (Array.getElem?_eq_some_iff.1 HR4.out).1).trans HR4.out
  obtain ⟨w6, hw6⟩ : ∃ w6, w6 = (w5.alloc (.cells #[.string { data := #[113] }] 9)).alloc (.cells #[.string { data := #[97] }, .slice (some ⟨w5.heap.size, 0, none⟩) 1 1] 27) := ⟨_, rfl⟩
  have hL6 : Later w5 w6 := by rw [hw6]; exact (by repeat (first | exact Later.refl _ | assumption | refine Later.drewN ?_ _ | refine Later.drew ?_ | refine Later.alloc ?_ _ | refine Later.grow ?_ _))
  have r1 : w6.heap[w5.heap.size]? = some (.cells #[.string { data := #[113] }] 9 (0, 0)) := by
    rw [hw6]
    simp only [heap_at, World.size_alloc]
    repeat (first | rw [if_pos trivial] | rw [if_pos (by omega)] | rw [if_neg (by omega)])
  have r2 : w6.heap[w5.heap.size + 1]? = some (.cells #[.string { data := #[97] }, .slice (some ⟨w5.heap.size, 0, none⟩) 1 1] 27 (0, 0)) := by
    rw [hw6]
    simp only [heap_at, World.size_alloc]
    repeat (first | rw [if_pos trivial] | rw [if_pos (by omega)] | rw [if_neg (by omega)])
  have hF : Facts w6 (.slice (some ⟨w5.heap.size + 1, 0, none⟩) 1 1) told7 := factOne r2 (strs1 r1)
  have hr6 := (hL6.block (Array.getElem?_eq_some_iff.1 hr5).1).trans hr5
  have hB46 := below_trans hB5 hL6.below hB5.size
  have hCk := checkC ruls7 told7 60 x7 (.slice va ruls7.length vc) _ _ w6 (Kind.sl_below HV4.out hB46) hF (HP4.out.below hB46) hc7 (by omega)
  rw [check7] at hCk
  have HCk := hide hCk
  have HB6 := hide (below_trans HB4.out hB46 HB4.out.size)
  have HW6 := hide hw6
  obtain ⟨⟨_, _, m2, _⟩, _, _, _⟩ := rowP4 hr5
  obtain ⟨⟨n0, n1, n2, n3⟩, ⟨n4, n5, n6⟩, _, _⟩ := rowP4 hr6
  clear hL6 r1 r2 hF hr6 hr5 hB46 hCk hw6 hB5 HSz HP4 HV4 HB4 HW4 HR4 l0 l1 l2 l3 l4 l5 l6
  go_wp2_with (first | (rw [← HW6.out]) | fail)
  refine HCk.out.mono ?_
  rintro e w7 ⟨rfl, hB7⟩
  have HB7 := hide (below_trans HB6.out hB7 HB6.out.size)
  clear hB7 HCk HB6 HW6
  go_wp2
  go_ret
  exact ⟨rfl, HB7.out⟩

end Go.Proofs.YtkihcabplbbjcaaGreatDoor

/- The walk of ProofAll. -/
namespace Go.Proofs.YtkihcabplbbjcaaGreatDoor
open Go.RowKit Go.Sort Go.Maps

set_option maxRecDepth 100000 in
set_option maxHeartbeats 4000000 in
theorem sameZero (w : World) : Calls Tryz.prog 13 #[.agg #[.string ⟨#[]⟩, .slice none 0 0, .int .i64 0, .slice none 0 0], .agg #[.string ⟨#[]⟩, .slice none 0 0, .int .i64 0, .slice none 0 0]] w fun e w' => e = .returned (.bool true) ∧ Later w w' := by
  obtain ⟨w1, hw1⟩ : ∃ w1, w1 = (w.alloc (.cells #[.string ⟨#[]⟩, .slice none 0 0, .int .i64 0, .slice none 0 0] 30)).alloc (.cells #[.string ⟨#[]⟩, .slice none 0 0, .int .i64 0, .slice none 0 0] 30) := ⟨_, rfl⟩
  have hL1 : Later w w1 := by rw [hw1]; exact ((Later.refl w).alloc _).alloc _
  have hr0 : w1.heap[w.heap.size]? = some (.cells #[.string ⟨#[]⟩, .slice none 0 0, .int .i64 0, .slice none 0 0] 30 (0, 0)) := by
    rw [hw1]; simp only [heap_at, World.size_alloc]
    repeat (first | rw [if_pos trivial] | rw [if_pos (by omega)] | rw [if_neg (by omega)])
  have hr1 : w1.heap[w.heap.size + 1]? = some (.cells #[.string ⟨#[]⟩, .slice none 0 0, .int .i64 0, .slice none 0 0] 30 (0, 0)) := by
    rw [hw1]; simp only [heap_at, World.size_alloc]
    repeat (first | rw [if_pos trivial] | rw [if_pos (by omega)] | rw [if_neg (by omega)])
  have hz : ∀ w : World, FactV w (.agg #[.string ⟨#[]⟩, .slice none 0 0]) (⟨#[]⟩, []) := fun w => ⟨_, rfl, ⟨by simp, none, 0, rfl, fun h => absurd rfl h⟩⟩
  have hE := rEqual (.agg #[.string ⟨#[]⟩, .slice none 0 0]) (.agg #[.string ⟨#[]⟩, .slice none 0 0]) (⟨#[]⟩, []) (⟨#[]⟩, []) w1 (hz _) (hz _)
  rw [show sameF (⟨#[]⟩, []) (⟨#[]⟩, []) = true by decide +kernel] at hE
  have HE := hide hE
  obtain ⟨⟨a0, a1, a2, a3⟩, ⟨a4, a5, a6⟩, _, _⟩ := rowP4 hr0
  obtain ⟨⟨b0, b1, b2, b3⟩, ⟨b4, b5, b6⟩, _, _⟩ := rowP4 hr1
  have HW1 := hide hw1
  have HL1 := hide hL1
  have HR0 := hide hr0
  have HR1 := hide hr1
  clear hw1 hL1 hr0 hr1 hz hE
  go_enter Tryz.func13, Tryz.ntmps13
  go_wp2_with (first | (rw [← HW1.out]) | fail)
  refine HE.out.mono ?_
  rintro e w2 ⟨rfl, hL2⟩
  have hr02 := (hL2.block (Array.getElem?_eq_some_iff.1 HR0.out).1).trans HR0.out
  have hr12 := (hL2.block (Array.getElem?_eq_some_iff.1 HR1.out).1).trans HR1.out
  obtain ⟨⟨a0, a1, a2, a3⟩, ⟨a4, a5, a6⟩, _, _⟩ := rowP4 hr02
  obtain ⟨⟨b0, b1, b2, b3⟩, ⟨b4, b5, b6⟩, _, _⟩ := rowP4 hr12
  have HL2 := hide (HL1.out.trans hL2)
  clear hL2 hr02 hr12 HE HW1
  go_wp2
  go_loopg [31] 0 (fun g i wr => g = 0 ∧ i = .int .i64 0 ∧ wr = w2)
  case atStart => exact ⟨rfl, rfl, rfl⟩
  case round =>
    obtain ⟨_, rfl, rfl⟩ := hrel
    go_wp2
    go_ret
    exact ⟨rfl, HL2.out⟩

theorem prove_cases {p : List RuleD} {told all : List FactB} (h : allP p told = (0, all)) (f : FactB) : Rises all ∧ ((inB all f = false ∧ ∃ er, er ≠ 0 ∧ proveP p told f = (er, none)) ∨ (inB all f = true ∧ (proveP p told f = (4, none) ∨ ∃ x, proveP p told f = (0, some x)))) := by
  have h0 : followE p told = 0 := by rw [← (follow_all p told).1, h]
  obtain ⟨_, _, hg, hall, _⟩ := ground_of h0
  rw [h] at hall
  have e : all = lastL told (pastP p told) := (Prod.ext_iff.1 hall).2
  rw [← e] at hg
  refine ⟨hg.up, ?_⟩
  unfold proveP
  rw [if_neg (fun hn => hn h0), ← e]
  cases hi : inB all f with
  | false =>
    left
    refine ⟨rfl, ?_⟩
    split
    · rename_i hw
      exact ⟨_, hw, rfl⟩
    · exact ⟨6, by decide, by rw [if_pos rfl]⟩
  | true =>
    right
    refine ⟨rfl, ?_⟩
    have hw : wrongF f = 0 := wrongF_right.2 (hg.right f (inB_iff.1 hi))
    rw [if_neg (fun hn => hn hw), if_neg (by simp)]
    split
    · exact Or.inl rfl
    · rename_i x _
      exact Or.inr ⟨x, rfl⟩

set_option maxRecDepth 100000 in
set_option maxHeartbeats 8000000 in
theorem proofAllW (pv tv fv : Value) (p : List RuleD) (told : List FactB) (f : FactB) (w : World) (m : Int) (hm : w.cell? ⟨0, 0, none⟩ = some (.int .i64 m)) (hpv : ruleK.sl Anyw w pv p) (ht : Facts w tv told) (hf : FactV w fv f) :
    Calls Tryz.prog 5 #[pv, tv, fv] w fun e w' => e = .returned (.bool true) ∧ Below w.heap.size w w' := by
  obtain ⟨s, rfl, hs⟩ := hf
  obtain ⟨sa, sc, rfl⟩ := sliceStr hs
  obtain ⟨pa, pc, rfl⟩ := Kind.slice hpv
  obtain ⟨ta, tc, rfl⟩ := sliceFacts ht
  obtain ⟨w1, hw1⟩ : ∃ w1, w1 = w.alloc (.cells #[.string f.1, .slice sa f.2.length sc] 27) := ⟨_, rfl⟩
  have hL1 : Later w w1 := by rw [hw1]; exact (Later.refl w).alloc _
  have hr0 : w1.heap[w.heap.size]? = some (.cells #[.string f.1, .slice sa f.2.length sc] 27 (0, 0)) := by rw [hw1]; exact heap_alloc_new w _
  have hm1 : w1.cell? ⟨0, 0, none⟩ = some (.int .i64 m) := by
    have hlt := World.block_lt_of_cell? w _ hm
    rw [World.cell?_of_block (w := w) (hL1.block hlt)]; exact hm
  have HAl := hide (alive7 w1 m hm1)
  have HPv := hide hpv
  have HTv := hide ht
  have HSt := hide hs
  have HW1 := hide hw1
  have HL1 := hide hL1
  have HR0 := hide hr0
  have hsz1 := (Array.getElem?_eq_some_iff.1 hr0).1
  clear hpv ht hs hw1 hL1 hr0 hm1 hm
  obtain ⟨fn, fargs⟩ := f
  dsimp only at *
  go_enter Tryz.func5, Tryz.ntmps5
  go_wp2_with (first | (rw [← HW1.out]) | fail)
  refine HAl.out.mono ?_
  rintro e w2 ⟨rfl, hB2⟩
  have hBw2 := below_trans HL1.out.below hB2 HL1.out.size
  have hr02 := (hB2.block _ hsz1).trans HR0.out
  have hA := naiveAllC p told _ _ w2 (Kind.sl_below HPv.out hBw2) (HTv.out.below hBw2)
  have HA := hide hA
  have HB2 := hide hBw2
  have HR02 := hide hr02
  clear hA hB2 hBw2 hr02 HAl HW1
  go_wp2_with fail
  refine HA.out.mono ?_
  rintro e w3 ⟨v3, er3, rfl, ⟨her, hT1, hT3⟩, hB3⟩
  have hB3w := below_trans HB2.out hB3 HB2.out.size
  have HB3 := hide hB3w
  have hl02 := (Array.getElem?_eq_some_iff.1 HR02.out).1
  have hr03 := (hB3.block _ hl02).trans HR02.out
  have HR03 := hide hr03
  obtain ⟨e0, all, hae⟩ : ∃ e0 all, allP p told = (e0, all) := ⟨_, _, rfl⟩
  rw [hae] at her hT1 hT3
  dsimp only at her hT1 hT3
  subst her
  clear HA
  by_cases h0 : er3 = 0
  · subst h0
    have hF3 := hT3 rfl
    obtain ⟨a3, c3, rfl⟩ := sliceFacts hF3
    obtain ⟨hup, hcs⟩ := prove_cases hae (fn, fargs)
    have hFV3 : FactV w3 (.agg #[.string fn, .slice sa fargs.length sc]) (fn, fargs) := ⟨_, rfl, HSt.out.below HB3.out⟩
    have HPr := hide (proveC p told (fn, fargs) _ _ _ w3 (Kind.sl_below HPv.out HB3.out) (HTv.out.below HB3.out) hFV3)
    obtain ⟨PP, hPP⟩ : ∃ PP, PP = proveP p told (fn, fargs) := ⟨_, rfl⟩
    rw [← hPP] at HPr hcs
    obtain ⟨q0, q1, _, _, _⟩ := row2 hr03
    have q1' : w3.cell? ⟨w.heap.size, 0 + 1, none⟩ = some (.slice sa fargs.length sc) := q1
    have HF3 := hide hF3
    have HUp := hide hup
    have HCs := hide hcs
    have HPP := hide hPP
    have hl03 := (Array.getElem?_eq_some_iff.1 hr03).1
    clear hT1 hT3 hF3 hup hcs hPP hFV3 q1 hr03 hB3 hB3w hae
    go_wp2_with fail
    refine HPr.out.mono ?_
    rintro e w4 ⟨v4, rfl, hO4, hB4⟩
    have hBw4 := below_trans HB3.out hB4 HB3.out.size
    have hr04 := (hB4.block _ hl03).trans HR03.out
    have HFix : Hid (∀ w', Below w4.heap.size w4 w' → (w'.cell? ⟨w.heap.size, 0, none⟩ = some (.string fn) ∧ w'.cell? ⟨w.heap.size, 0 + 1, none⟩ = some (.slice sa fargs.length sc)) ∧ FactV w' (.agg #[.string fn, .slice sa fargs.length sc]) (fn, fargs) ∧ Facts w' (.slice a3 all.length c3) all ∧ Below w.heap.size w w') := fun w' h => by
      have hr := (h.block _ (Array.getElem?_eq_some_iff.1 hr04).1).trans hr04
      have hb := below_trans hBw4 h hBw4.size
      exact ⟨⟨by rw [cell_of_row _ _ _ _ _ _ hr]; rfl, by rw [cell_of_row _ _ _ _ _ _ hr]; rfl⟩, ⟨_, rfl, HSt.out.below hb⟩, HF3.out.below (below_trans hB4 h hB4.size), hb⟩
    have HB34 := hide hB4
    clear HPr q0 q1' hr04 hB4 hBw4
    rcases HCs.out with ⟨hi, er, her, hpe⟩ | ⟨hi, hpe | ⟨x, hpe⟩⟩
    · rw [hpe] at hO4 ⊢
      obtain rfl : v4 = zeroP := hO4
      obtain ⟨es, hes⟩ : ∃ es : ByteArray, es = ⟨#[]⟩ := ⟨_, rfl⟩
      rw [show zeroP = .agg #[.string es, .slice none 0 0, .int .i64 0, .slice none 0 0] by rw [hes]; rfl]
      obtain ⟨w5, hw5⟩ : ∃ w5, w5 = w4.alloc (.cells #[.string es, .slice none 0 0, .int .i64 0, .slice none 0 0] 30) := ⟨_, rfl⟩
      have hL5 : Later w4 w5 := by rw [hw5]; exact (Later.refl w4).alloc _
      have hR5 : w5.heap[w4.heap.size]? = some (.cells #[.string es, .slice none 0 0, .int .i64 0, .slice none 0 0] 30 (0, 0)) := by rw [hw5]; exact heap_alloc_new w4 _
      obtain ⟨⟨y0, y1⟩, hfv, hfs, hb5⟩ := HFix.out w5 hL5.below
      have hin := inC (.slice a3 all.length c3) _ all (fn, fargs) w5 hfs hfv HUp.out
      rw [in_eq, hi] at hin
      have HIn := hide hin
      have HW5 := hide hw5
      have HR5 := hide hR5
      have HB5 := hide hb5
      have hne : (er != 0) = true := by simpa using her
      have HHes := hide hes
      clear hin hw5 hR5 hL5 hfv hfs hb5 hpe hi her hes HCs
      go_wp2_with (first | (rw [← HW5.out]) | fail)
      refine HIn.out.mono ?_
      rintro e w6 ⟨rfl, hL6⟩
      have hr6 := (hL6.block (Array.getElem?_eq_some_iff.1 HR5.out).1).trans HR5.out
      rw [HHes.out] at hr6
      obtain ⟨⟨l0, l1, l2, l3⟩, ⟨l4, l5, l6⟩, _, _⟩ := rowP4 hr6
      have HS := hide (sameZero w6)
      have HB6 := hide (below_trans HB5.out hL6.below HB5.out.size)
      clear hL6 hr6 HIn HW5 y0 y1
      go_wp2_with fail
      refine HS.out.mono ?_
      rintro e w7 ⟨rfl, hL7⟩
      have HB7 := hide (below_trans HB6.out hL7.below HB6.out.size)
      clear hL7 HS
      go_wp2
      go_ret
      exact ⟨rfl, HB7.out⟩
    · rw [hpe] at hO4 ⊢
      obtain rfl : v4 = zeroP := hO4
      obtain ⟨es, hes⟩ : ∃ es : ByteArray, es = ⟨#[]⟩ := ⟨_, rfl⟩
      rw [show zeroP = .agg #[.string es, .slice none 0 0, .int .i64 0, .slice none 0 0] by rw [hes]; rfl]
      obtain ⟨w5, hw5⟩ : ∃ w5, w5 = w4.alloc (.cells #[.string es, .slice none 0 0, .int .i64 0, .slice none 0 0] 30) := ⟨_, rfl⟩
      have hL5 : Later w4 w5 := by rw [hw5]; exact (Later.refl w4).alloc _
      obtain ⟨⟨y0, y1⟩, hfv, hfs, hb5⟩ := HFix.out w5 hL5.below
      have hin := inC (.slice a3 all.length c3) _ all (fn, fargs) w5 hfs hfv HUp.out
      rw [in_eq, hi] at hin
      have HIn := hide hin
      have HW5 := hide hw5
      have HB5 := hide hb5
      clear hin hw5 hL5 hfv hfs hb5 hpe hi hes HCs
      go_wp2_with (first | (rw [← HW5.out]) | fail)
      refine HIn.out.mono ?_
      rintro e w6 ⟨rfl, hL6⟩
      have HB6 := hide (below_trans HB5.out hL6.below HB5.out.size)
      clear hL6 HIn HW5 y0 y1
      go_wp2
      go_ret
      exact ⟨rfl, HB6.out⟩
    · rw [hpe] at hO4 ⊢
      obtain ⟨s9, k9, rfl, hs9, hk9⟩ := (hO4 : PrfV 60 (From w3.heap.size) w4 v4 x)
      obtain ⟨sa9, sc9, rfl⟩ := Kind.slice hs9
      obtain ⟨ka9, kc9, rfl⟩ := Kind.slice hk9
      have hpe' : proveP p told (fn, fargs) = (0, some x) := HPP.out.symm.trans hpe
      obtain ⟨hxf, hck, hcn, _, _⟩ := prove_check hpe'
      have hP4 : PrfV 60 Anyw w4 (.agg #[.string x.fact.1, .slice sa9 x.fact.2.length sc9, .int .i64 x.rule, .slice ka9 x.kids.length kc9]) x := ⟨_, _, rfl, Kind.sl_any hs9, Kind.sl_any hk9⟩
      obtain ⟨w5, hw5⟩ : ∃ w5, w5 = w4.alloc (.cells #[.string x.fact.1, .slice sa9 x.fact.2.length sc9, .int .i64 x.rule, .slice ka9 x.kids.length kc9] 30) := ⟨_, rfl⟩
      have hL5 : Later w4 w5 := by rw [hw5]; exact (Later.refl w4).alloc _
      have hR5 : w5.heap[w4.heap.size]? = some (.cells #[.string x.fact.1, .slice sa9 x.fact.2.length sc9, .int .i64 x.rule, .slice ka9 x.kids.length kc9] 30 (0, 0)) := by rw [hw5]; exact heap_alloc_new w4 _
      obtain ⟨⟨y0, y1⟩, hfv, hfs, hb5⟩ := HFix.out w5 hL5.below
      have hin := inC (.slice a3 all.length c3) _ all (fn, fargs) w5 hfs hfv HUp.out
      rw [in_eq, hi] at hin
      have HIn := hide hin
      have HW5 := hide hw5
      have HL5 := hide hL5
      have HR5 := hide hR5
      have HB5 := hide hb5
      have HP4 := hide hP4
      have HCk := hide hck
      have HXf := hide hxf
      clear hin hw5 hR5 hL5 hfv hfs hb5 hpe hpe' hi hs9 hk9 hP4 hxf hck HCs
      go_wp2_with (first | (rw [← HW5.out]) | fail)
      refine HIn.out.mono ?_
      rintro e w6 ⟨rfl, hL6⟩
      have hr6 := (hL6.block (Array.getElem?_eq_some_iff.1 HR5.out).1).trans HR5.out
      have hL46 := HL5.out.trans hL6
      obtain ⟨⟨y0, y1⟩, hfv, _, hb6⟩ := HFix.out w6 hL46.below
      have hP6 := HP4.out.below hL46.below
      have hCm := compareF _ _ x.fact (fn, fargs) w6 hP6.fact hfv
      rw [show cmpF x.fact (fn, fargs) = 0 by rw [HXf.out]; exact three_cmpF.refl _] at hCm
      have HCm := hide hCm
      have HB6 := hide hb6
      have HP6 := hide hP6
      have HR6 := hide hr6
      obtain ⟨⟨l0, l1, l2, l3⟩, ⟨l4, l5, l6⟩, _, _⟩ := rowP4 hr6
      clear hL6 hr6 hL46 hfv hb6 hP6 hCm HIn HW5 HL5 HR5 HB5 HP4
      go_wp2_with fail
      refine HCm.out.mono ?_
      rintro e w7 ⟨rfl, hL7⟩
      have hr7 := (hL7.block (Array.getElem?_eq_some_iff.1 HR6.out).1).trans HR6.out
      have hb7 := below_trans HB6.out hL7.below HB6.out.size
      have hCh := checkC p told 60 x _ _ _ w7 (Kind.sl_below HPv.out hb7) (HTv.out.below hb7) (HP6.out.below hL7.below) (show cnt 61 x ≤ 4000000 by omega) (by omega)
      rw [HCk.out] at hCh
      have HCh := hide hCh
      have HB7 := hide hb7
      obtain ⟨⟨l0, l1, l2, l3⟩, ⟨l4, l5, l6⟩, _, _⟩ := rowP4 hr7
      clear hL7 hr7 hb7 hCh HCm HP6 HR6
      go_wp2_with fail
      refine HCh.out.mono ?_
      rintro e w8 ⟨rfl, hB8⟩
      have HB8 := hide (below_trans HB7.out hB8 HB7.out.size)
      clear hB8 HCh
      go_wp2
      go_ret
      exact ⟨rfl, HB8.out⟩
  · have hv := hT1 h0
    subst hv
    have hne : (er3 != 0) = true := by simpa using h0
    clear hT1 hT3 h0 hae hr03 hB3 hB3w
    go_wp2
    go_ret
    exact ⟨rfl, HB3.out⟩

end Go.Proofs.YtkihcabplbbjcaaGreatDoor

/- The document's answer: the walk of ref.Same, where the two lists hold the same. -/
namespace Go.Proofs.YtkihcabplbbjcaaGreatDoor
open Go.RowKit Go.Sort

end Go.Proofs.YtkihcabplbbjcaaGreatDoor
