/- Texts of this claim, one behind the other. -/
import Derived.Test.YtalggolacdlnnaaGreatDoorJ24
import Derived.Test.YtalggolacdlnnaaGreatDoorJ21
import Derived.Test.YtalggolacdlnnaaGreatDoorJ6
import Derived.ProofKit
import Derived.SliceStrings
import Derived.Deep.Slices
import Derived.Deep.Strs
import Derived.Lib.SmallJoins
import Derived.SizedLaws
import Derived.Test.YtalggolacdlnnaaGreatDoorJ9
/- A chain of roads: plain, reckoned by the kernel. Nothing of the program. -/
namespace Go.Proofs.YtalggolacdlnnaaGreatDoor

def chR : List RuleD :=
  [⟨⟨false, [119, 97, 121], [(true, [88]), (true, [89])]⟩, [⟨false, [114, 111, 97, 100], [(true, [88]), (true, [89])]⟩]⟩,
   ⟨⟨false, [119, 97, 121], [(true, [88]), (true, [90])]⟩, [⟨false, [119, 97, 121], [(true, [88]), (true, [89])]⟩, ⟨false, [114, 111, 97, 100], [(true, [89]), (true, [90])]⟩]⟩,
   ⟨⟨false, [99, 117, 116], [(true, [88]), (true, [89])]⟩, [⟨false, [116, 111, 119, 110], [(true, [88])]⟩, ⟨false, [116, 111, 119, 110], [(true, [89])]⟩, ⟨true, [119, 97, 121], [(true, [88]), (true, [89])]⟩]⟩]
def chN (i : Nat) : ByteArray := ⟨#[116, UInt8.ofNat (97 + i)]⟩
def chRoad (a b : Nat) : FactB := (⟨#[114, 111, 97, 100]⟩, [chN a, chN b])
def chWay (a b : Nat) : FactB := (⟨#[119, 97, 121]⟩, [chN a, chN b])
/-- So many roads, one behind the other. -/
def chL : Nat → List FactB
  | 0 => []
  | n + 1 => chL n ++ [chRoad n (n + 1)]
def chRun (n : Nat) : RunD := ⟨chL n, chL n, 0, 0, false⟩

def upB : List FactB → Bool
  | a :: b :: l => decide (eF a b < 0) && upB (b :: l)
  | _ => true

/-- The way to the end is known behind as many rounds, not fewer. -/
def chOk (n : Nat) : Bool := upB (chL n) && ((chL n).all fun f => fitF chR f) && (match stepsJ chR [0, 0, 1] (n - 1) (chRun n) with
    | (e, x) => decide (e = 0) && !inB x.known (chWay 0 n)) && (match stepsJ chR [0, 0, 1] n (chRun n) with
    | (e, x) => decide (e = 0) && inB x.known (chWay 0 n))

theorem ch1 : chOk 1 = true := by decide +kernel
theorem ch2 : chOk 2 = true := by decide +kernel
theorem ch3 : chOk 3 = true := by decide +kernel
theorem ch4 : chOk 4 = true := by decide +kernel
theorem ch5 : chOk 5 = true := by decide +kernel
theorem ch6 : chOk 6 = true := by decide +kernel
theorem ch7 : chOk 7 = true := by decide +kernel

theorem ch_ok {n : Nat} (h1 : 1 ≤ n) (h7 : n ≤ 7) : chOk n = true := by
  have h : n = 1 ∨ n = 2 ∨ n = 3 ∨ n = 4 ∨ n = 5 ∨ n = 6 ∨ n = 7 := by omega
  rcases h with rfl | rfl | rfl | rfl | rfl | rfl | rfl
  · exact ch1
  · exact ch2
  · exact ch3
  · exact ch4
  · exact ch5
  · exact ch6
  · exact ch7

theorem upB_up : ∀ {l : List FactB}, upB l = true → Up l
  | [], _ => List.Pairwise.nil
  | [a], _ => List.pairwise_singleton _ _
  | a :: b :: l, h => by
    unfold upB at h
    simp only [Bool.and_eq_true, decide_eq_true_eq] at h
    have ih := upB_up h.2
    rw [← eF_eq] at h
    refine List.pairwise_cons.2 ⟨fun c hc => ?_, ih⟩
    rcases List.mem_cons.1 hc with rfl | hc
    · exact h.1
    · exact three_cmpF.trans _ _ _ h.1 ((List.pairwise_cons.1 ih).1 c hc)

theorem chL_len : ∀ n, (chL n).length = n
  | 0 => rfl
  | n + 1 => by rw [chL, List.length_append, chL_len n]; rfl

end Go.Proofs.YtalggolacdlnnaaGreatDoor

/- The walk of TopChain. -/
namespace Go.Proofs.YtalggolacdlnnaaGreatDoor
open Go.RowKit Go.Sort Go.Maps

theorem chL_sub : ∀ {n m : Nat}, n ≤ m → ∀ f ∈ chL n, f ∈ chL m
  | n, 0, h, f, hf => by
    obtain rfl : n = 0 := by omega
    exact hf
  | n, m + 1, h, f, hf => by
    by_cases e : n = m + 1
    · rw [← e]; exact hf
    · exact List.mem_append.2 (Or.inl (chL_sub (by omega) f hf))

theorem ch_right : ∀ f ∈ chL 7, wrongF f = 0 := by decide +kernel
theorem ch_rules : roadsR = chR := rfl
theorem ch_strata : strataP chR = ([0, 0, 1], 0, 0) := strata_roads
theorem ch_name (i : Nat) : nmB i = chN i := rfl

theorem ch_plain {n : Nat} (h1 : 1 ≤ n) (h7 : n ≤ 7) : forE chR (chL n) = 0 ∧ Up (chL n) ∧ runOf chR (chL n) = chRun n ∧ ∃ x y, stepsF chR (chRun n) ((n : Int) - 1) = (0, x) ∧ inB x.known (chWay 0 n) = false ∧ Up x.known ∧ x.known.length ≤ 200 ∧ x.fresh.length ≤ 200 ∧ stepsF chR (chRun n) (n : Int) = (0, y) ∧ inB y.known (chWay 0 n) = true ∧ Up y.known ∧ y.known.length ≤ 200 ∧ y.fresh.length ≤ 200 := by
  have h := ch_ok h1 h7
  unfold chOk at h
  simp only [Bool.and_eq_true, decide_eq_true_eq] at h
  obtain ⟨⟨⟨a1, a2⟩, a3⟩, a4⟩ := h
  have hup := upB_up a1
  have hg : GoodS chR (chL n) := ⟨hup, fun f hf => wrongF_right.1 (ch_right f (chL_sub h7 f hf)), by rw [chL_len]; omega, fun f hf => List.all_eq_true.1 a2 f hf⟩
  have e1 : (strataP chR).2.1 = 0 := by rw [ch_strata]
  have e2 : (strataP chR).1 = [0, 0, 1] := by rw [ch_strata]
  have hfo : forE chR (chL n) = 0 := by
    unfold forE
    rw [if_neg (fun h => h e1), good_facts hg]
  have hrun : runOf chR (chL n) = chRun n := by
    unfold runOf chRun
    rw [e2]
    rfl
  have hw : wrongRunP chR (chRun n) = 0 := by rw [← hrun]; exact begin_right hfo
  have hsf : ∀ j : Nat, j ≤ 1000 → stepsF chR (chRun n) (j : Int) = stepsP chR [0, 0, 1] j (chRun n) := fun j hj => by
    unfold stepsF
    rw [if_neg (by simp [hw]), if_neg (by simp; omega), e2]
    rfl
  have hgood : ∀ j x, stepsP chR [0, 0, 1] j (chRun n) = (0, x) → Up x.known ∧ x.known.length ≤ 200 ∧ x.fresh.length ≤ 200 := fun j x hx => by
    obtain ⟨h3, h4⟩ := wrongRun_zero hw
    obtain ⟨hp, _, τ, _, hs, _⟩ := forE_zero h3
    have e : (strataP chR).1 = chR.map fun r => τ r.head.name := by rw [hs]
    rw [← e2, e] at hx
    rw [e] at h4
    have hr := steps_right hp _ j h4 hx
    exact ⟨hr.good.up, hr.good.few, Nat.le_trans (up_le hr.up hr.sub) hr.good.few⟩
  rw [← stepsJ_eq] at a3 a4
  obtain ⟨ex, x, hx⟩ : ∃ e x, stepsP chR [0, 0, 1] (n - 1) (chRun n) = (e, x) := ⟨_, _, rfl⟩
  obtain ⟨ey, y, hy⟩ : ∃ e x, stepsP chR [0, 0, 1] n (chRun n) = (e, x) := ⟨_, _, rfl⟩
  rw [hx] at a3
  rw [hy] at a4
  simp only [Bool.not_eq_true'] at a3
  obtain ⟨rfl, a5⟩ := a3
  obtain ⟨rfl, a6⟩ := a4
  obtain ⟨g1, g2, g3⟩ := hgood _ _ hx
  obtain ⟨g4, g5, g6⟩ := hgood _ _ hy
  refine ⟨hfo, hup, hrun, x, y, ?_, a5, g1, g2, g3, ?_, a6, g4, g5, g6⟩
  · rw [show (n : Int) - 1 = ((n - 1 : Nat) : Int) by omega, hsf _ (by omega), hx]
  · rw [hsf _ (by omega), hy]

set_option maxRecDepth 100000 in
set_option maxHeartbeats 8000000 in
theorem chainW (n : Int) (w : World) (m : Int) (hm : w.cell? ⟨0, 0, none⟩ = some (.int .i64 m)) :
    Calls Tryz.prog 3 #[.int .i64 n] w fun e w' => e = .returned (.bool true) ∧ Below w.heap.size w w' := by
  have HA := hide (aliveT w m hm)
  have hmlt : 0 < w.heap.size := by
    refine Classical.byContradiction fun h => ?_
    rw [World.cell?, Array.getElem?_eq_none (by simpa using h)] at hm
    simp at hm
  have HP : Hid (∀ w', Below w.heap.size w w' → Calls Tryz.prog 6 #[.string (bs roadsT)] w' fun e w'' => ∃ v, e = .returned (.tuple #[v, .agg #[.int .i64 0, .int .i64 0]]) ∧ ruleK.sl Anyw w'' v chR ∧ Below w'.heap.size w' w'') := fun w' hb => by
    refine (parseC (bs roadsT) w' m (by rw [hb.cell (p := ⟨0, 0, none⟩) hmlt]; exact hm)).mono ?_
    rintro e w'' ⟨v, rfl, hV, hB⟩
    rw [raw_bs, told_roads] at hV ⊢
    exact ⟨v, rfl, Kind.sl_any hV, hB⟩
  clear hm hmlt
  go_enter Tryz.func3, Tryz.ntmps3
  go_wp2_with fail
  refine HA.out.mono ?_
  rintro e w1 ⟨rfl, hB1⟩
  have HB1 := hide hB1
  clear HA hB1
  by_cases hn1 : n < 1
  · go_wp2
    go_ret
    exact ⟨rfl, HB1.out⟩
  · by_cases hn7 : 7 < n
    · go_wp2
      go_ret
      exact ⟨rfl, HB1.out⟩
    · obtain ⟨k, rfl⟩ : ∃ k : Nat, n = (k : Int) := ⟨n.toNat, by omega⟩
      have hk1 : 1 ≤ k := by omega
      have hk7 : k ≤ 7 := by omega
      have HPl := hide (ch_plain hk1 hk7)
      go_wp2
      go_loopg [3, 22] k (fun g v i wr => ∃ j : Nat, j + g = k ∧ i = .int .i64 j ∧ Hid (OwnF wr w1.heap.size v (chL j)) ∧ Hid (Later w1 wr))
      case atStart => exact ⟨0, by omega, rfl, OwnF.nil _ _, Later.refl _⟩
      case round =>
        obtain ⟨j, hj, rfl, HO, HL⟩ := hrel
        obtain ⟨va, vc, rfl⟩ := HO.out.slice
        have hlj := chL_len j
        by_cases hlt : j < k
        · have hltz : (j : Int) < (k : Int) := by omega
          have hRd := roadL j (j + 1) (by omega) (by omega) wr
          rw [show ((j + 1 : Nat) : Int) = (j : Int) + 1 by omega] at hRd
          have HRd := hide hRd
          have HLj := hide hlj
          clear hRd hlj
          go_wp2_with fail
          refine HRd.out.mono ?_
          rintro e w3 ⟨v3, rfl, hF3, hL3, hfar⟩
          obtain ⟨s, rfl, hs⟩ := hF3
          obtain ⟨_, s', es, hfar⟩ := hfar
          simp only [Value.agg.injEq, Array.mk.injEq, List.cons.injEq, and_true] at es
          obtain ⟨rfl, rfl⟩ := es
          obtain ⟨sA', sC', rfl⟩ := sliceStr hs
          have hO3 := HO.out.later hL3
          have hL13 : Later w1 w3 := HL.out.trans hL3
          obtain ⟨v5, w5, hrun, hO5, hg5, hd5⟩ := hO3.append (⟨#[114, 111, 97, 100]⟩, [nmB j, nmB (j + 1)]) _ hs (fun q e => by
            have h1 := hfar q e
            have h2 := HL.out.size
            refine ⟨by omega, by omega, fun e' => ?_⟩
            have h3 := (HO.out.lt e').2
            omega) (by have := HLj.out; omega) hL13.size rfl
          have HL5 : Hid (Later w1 w5) := hL13.more hg5 hd5 fun q e => (HO.out.lt e).1
          have HO5 : Hid (OwnF w5 w1.heap.size v5 (chL (j + 1))) := hO5
          have hlv : ∃ a n c, v5 = .slice a n c := by obtain ⟨a, c, e⟩ := hO5.slice; exact ⟨a, _, c, e⟩
          obtain ⟨a5, n5, c5, rfl⟩ := hlv
          have HR5 := hide hrun
          clear hfar hs hO3 hL13 hrun hO5 hg5 hd5 HRd hL3
          go_wp2_with (at_builtin; refine wpList_append_run rfl (.tmp 25) (.tmp 30) 23 rfl _ _ _ _ rfl rfl HR5.out ?_)
          go_roundg (k - (j + 1))
          case measure => omega
          case rel => exact ⟨j + 1, by omega, by go_num, HO5, HL5⟩
        · obtain rfl : j = k := by omega
          obtain ⟨hfo, hup, hrun, X, Y, hx, hx2, hxu, hxk, hxf, hy, hy2, hyu, hyk, hyf⟩ := HPl.out
          have hbeg : beginP chR (chL j) = (0, chRun j) := by unfold beginP; rw [if_neg (by simp [hfo]), hrun]
          have hRk : (chRun j).known.length ≤ 200 := by show (chL j).length ≤ 200; omega
          have hRf : (chRun j).fresh.length ≤ 200 := by show (chL j).length ≤ 200; omega
          have HBr : Hid (Below w.heap.size w wr) := below_trans HB1.out HL.out.below HB1.out.size
          have HPr := hide (HP.out wr HBr.out)
          have HUp := hide hup
          have HBeg := hide hbeg
          have HX := hide hx
          have HY := hide hy
          have HX2 := hide hx2
          have HY2 := hide hy2
          have HXu := hide hxu
          have HYu := hide hyu
          have HLj := hide hlj
          generalize chRun j = R at *
          clear hfo hup hrun hx hy hx2 hy2 hxu hyu hbeg HPl hlj HP
          go_wp2_with fail
          refine HPr.out.mono ?_
          rintro e w2 ⟨v2, rfl, hV2, hB2⟩
          obtain ⟨pa, pc, rfl⟩ := Kind.slice hV2
          obtain ⟨w3, hw3⟩ : ∃ w3, w3 = w2.alloc (.cells #[.int .i64 0, .int .i64 0] 32) := ⟨_, rfl⟩
          have hL3 : Later w2 w3 := by rw [hw3]; exact (Later.refl _).alloc _
          have HV3 := hide (Kind.sl_later hV2 hL3)
          have HB3 : Hid (Below w.heap.size w w3) := below_trans (below_trans HBr.out hB2 HBr.out.size) hL3.below (Nat.le_trans HBr.out.size hB2.size)
          have hF3 : Facts w3 (.slice va (chL j).length vc) (chL j) := ((HO.out.facts (by have := HLj.out; omega)).below hB2).later hL3
          have HOf := hide (ofC _ (chL j) w3 hF3)
          have HW3 := hide hw3
          clear hV2 hB2 hL3 hF3 hw3 HPr HO HL HBr
          go_wp2_with fail
          rw [← HW3.out]
          refine HOf.out.mono ?_
          rintro e w4 ⟨v4, s, rfl, hS, hO4, hL4⟩
          obtain rfl : s = chL j := by rw [setF_of hS.1 hS.2.1, setF_up_self HUp.out]
          have hF4 := hO4.facts (by have := HLj.out; omega)
          obtain ⟨a4, c4, rfl⟩ := hO4.slice
          have HB4 : Hid (Below w.heap.size w w4) := below_trans HB3.out hL4.below HB3.out.size
          have HV4 := hide (Kind.sl_later HV3.out hL4)
          have hBg := roundBegin chR (chL j) (.slice pa chR.length pc) _ w4 HV4.out hF4
          rw [HBeg.out] at hBg
          have HBg := hide hBg
          clear hS hO4 hL4 hF4 hBg HOf HW3 HB3 HV3 HBeg
          go_wp2_with fail
          refine HBg.out.mono ?_
          rintro e w5 ⟨v5, er, rfl, ⟨her, hR5⟩, hB5⟩
          dsimp only at her hR5
          subst her
          obtain ⟨ra, rc, sa, sc, rfl, hO5, hN5⟩ := hR5.slices
          obtain ⟨w6, hw6⟩ : ∃ w6, w6 = w5.alloc (.cells #[.slice ra R.known.length rc, .slice sa R.fresh.length sc, .int .i64 R.level, .int .i64 R.rounds, .bool R.done] 36) := ⟨_, rfl⟩
          have hL6 : Later w5 w6 := by rw [hw6]; exact (Later.refl _).alloc _
          have hr6 : w6.heap[w5.heap.size]? = some (.cells #[.slice ra R.known.length rc, .slice sa R.fresh.length sc, .int .i64 R.level, .int .i64 R.rounds, .bool R.done] 36 (0, 0)) := by rw [hw6]; exact heap_alloc_new w5 _
          have HB6 : Hid (Below w.heap.size w w6) := below_trans (below_trans HB4.out hB5 HB4.out.size) hL6.below (Nat.le_trans HB4.out.size hB5.size)
          have HV6 := hide (Kind.sl_later (Kind.sl_below HV4.out hB5) hL6)
          have HK6 := hide ((hO5.later hL6).facts (by omega))
          have HN6 := hide ((hN5.later hL6).facts (by omega))
          have hSt := roundSteps chR R ((j : Int) - 1) (.slice pa chR.length pc) _ _ w6 HV6.out HK6.out HN6.out
          rw [HX.out] at hSt
          have HSt := hide hSt
          have hz6 : w5.heap.size < w6.heap.size := (Array.getElem?_eq_some_iff.1 hr6).1
          have HR6 := hide hr6
          have HW6 := hide hw6
          clear hR5 hO5 hN5 hB5 hL6 hr6 hw6 hSt HBg HB4 HV4 HX
          go_wp2_with fail
          rw [← HW6.out]
          refine HSt.out.mono ?_
          rintro e w7 ⟨v7, er, rfl, ⟨her, hR7⟩, hB7⟩
          dsimp only at her hR7
          subst her
          obtain ⟨xa, xc, ya, yc, rfl, hO7, hN7⟩ := hR7.slices
          obtain ⟨w8, hw8⟩ : ∃ w8, w8 = w7.alloc (.cells #[.slice xa X.known.length xc, .slice ya X.fresh.length yc, .int .i64 X.level, .int .i64 X.rounds, .bool X.done] 36) := ⟨_, rfl⟩
          have hL8 : Later w7 w8 := by rw [hw8]; exact (Later.refl _).alloc _
          have hx8 : w8.heap[w7.heap.size]? = some (.cells #[.slice xa X.known.length xc, .slice ya X.fresh.length yc, .int .i64 X.level, .int .i64 X.rounds, .bool X.done] 36 (0, 0)) := by rw [hw8]; exact heap_alloc_new w7 _
          have hB68 : Below w6.heap.size w6 w8 := below_trans hB7 hL8.below hB7.size
          have hr8 : w8.heap[w5.heap.size]? = some (.cells #[.slice ra R.known.length rc, .slice sa R.fresh.length sc, .int .i64 R.level, .int .i64 R.rounds, .bool R.done] 36 (0, 0)) := by rw [hB68.block _ hz6]; exact HR6.out
          have HB8 : Hid (Below w.heap.size w w8) := below_trans HB6.out hB68 HB6.out.size
          have HFX := hide ((hO7.later hL8).facts (by omega))
          have hSt2 := roundSteps chR R (j : Int) (.slice pa chR.length pc) _ _ w8 (Kind.sl_below HV6.out hB68) (HK6.out.below hB68) (HN6.out.below hB68)
          rw [HY.out] at hSt2
          have HSt2 := hide hSt2
          have hz8 : w7.heap.size < w8.heap.size := (Array.getElem?_eq_some_iff.1 hx8).1
          have HX8 := hide hx8
          have HW8 := hide hw8
          obtain ⟨b0, b1, b2, b3, b4, _, _⟩ := row5 hr8
          rw [hw8] at b0 b1 b2 b3 b4
          clear hR7 hO7 hN7 hB7 hL8 hx8 hr8 hw8 hB68 hSt2 HSt HW6 HR6 HK6 HN6 HV6 HB6 HY
          go_wp2_with fail
          rw [← HW8.out]
          refine HSt2.out.mono ?_
          rintro e w9 ⟨v9, er, rfl, ⟨her, hR9⟩, hB9⟩
          dsimp only at her hR9
          subst her
          clear b0 b1 b2 b3 b4
          obtain ⟨za, zc, ua, uc, rfl, hO9, hN9⟩ := hR9.slices
          obtain ⟨wz, hwz⟩ : ∃ wz, wz = w9.alloc (.cells #[.slice za Y.known.length zc, .slice ua Y.fresh.length uc, .int .i64 Y.level, .int .i64 Y.rounds, .bool Y.done] 36) := ⟨_, rfl⟩
          have hLz : Later w9 wz := by rw [hwz]; exact (Later.refl _).alloc _
          have hyz : wz.heap[w9.heap.size]? = some (.cells #[.slice za Y.known.length zc, .slice ua Y.fresh.length uc, .int .i64 Y.level, .int .i64 Y.rounds, .bool Y.done] 36 (0, 0)) := by rw [hwz]; exact heap_alloc_new w9 _
          have hB8z : Below w8.heap.size w8 wz := below_trans hB9 hLz.below hB9.size
          have hxz : wz.heap[w7.heap.size]? = some (.cells #[.slice xa X.known.length xc, .slice ya X.fresh.length yc, .int .i64 X.level, .int .i64 X.rounds, .bool X.done] 36 (0, 0)) := by rw [hB8z.block _ hz8]; exact HX8.out
          have HBz : Hid (Below w.heap.size w wz) := below_trans HB8.out hB8z HB8.out.size
          have HFXz := hide (HFX.out.below hB8z)
          have HFYz := hide ((hO9.later hLz).facts (by omega))
          have HS : Hid (∀ w', Below wz.heap.size wz w' → w'.cell? ⟨w7.heap.size, 0, none⟩ = some (.slice xa X.known.length xc) ∧ w'.cell? ⟨w9.heap.size, 0, none⟩ = some (.slice za Y.known.length zc)) := fun w' h =>
            ⟨(row5 ((h.block _ (Array.getElem?_eq_some_iff.1 hxz).1).trans hxz)).1, (row5 ((h.block _ (Array.getElem?_eq_some_iff.1 hyz).1).trans hyz)).1⟩
          have HWy : Hid (∀ w', Below wz.heap.size wz w' → Calls Tryz.prog 11 #[.int .i64 0, .int .i64 (j : Nat)] w' fun e w'' => ∃ v, e = .returned v ∧ FactV w'' v (chWay 0 j) ∧ Below wz.heap.size wz w'') := fun w' h =>
            (wayC 0 j (by omega) (by omega) w').mono fun e w'' ⟨v, he, hF, hL⟩ => ⟨v, he, hF, below_trans h hL.below h.size⟩
          have HIx : Hid (∀ w' t, Below wz.heap.size wz w' → FactV w' t (chWay 0 j) → Calls Tryz.prog 10 #[.slice xa X.known.length xc, t] w' fun e w'' => e = .returned (.bool false) ∧ Below wz.heap.size wz w'') := fun w' t h ht => by
            have hI := inC _ t X.known (chWay 0 j) w' (HFXz.out.below h) ht HXu.out
            rw [in_eq, HX2.out] at hI
            exact hI.mono fun e w'' ⟨he, hL⟩ => ⟨he, below_trans h hL.below h.size⟩
          have HIy : Hid (∀ w' t, Below wz.heap.size wz w' → FactV w' t (chWay 0 j) → Calls Tryz.prog 10 #[.slice za Y.known.length zc, t] w' fun e w'' => e = .returned (.bool true) ∧ Below wz.heap.size wz w'') := fun w' t h ht => by
            have hI := inC _ t Y.known (chWay 0 j) w' (HFYz.out.below h) ht HYu.out
            rw [in_eq, HY2.out] at hI
            exact hI.mono fun e w'' ⟨he, hL⟩ => ⟨he, below_trans h hL.below h.size⟩
          have HWz := hide hwz
          clear hR9 hO9 hN9 hB9 hLz hyz hxz hB8z hwz HSt2 HW8 HX8 HB8 HFX HFXz HFYz HXu HYu HX2 HY2
          go_wp2
          rw [← HWz.out]
          clear HWz
          refine wp_region_held_drew (S := fun w' => Below wz.heap.size wz w') (by kernel_rfl) (Below.refl _ _).drew (fun hHeld => ?_)
          refine take_at (i := 0) (d := some 59) (v := ?_) rfl rfl (by kernel_rfl) (by kernel_rfl) (by kernel_rfl) (fun _ _ _ h => h) (Or.inl ⟨by rfl, ?_⟩) hHeld ?_
          rotate_left
          · intro w hSw; (try dsimp only at hSw);  go_simp; try with_reducible rfl
          simp only [Act.put, List.setIfInBounds_toArray, List.set_cons_zero, List.set_cons_succ]
          refine take_at (i := 1) (d := some 60) (v := ?_) rfl rfl (by kernel_rfl) (by kernel_rfl) (by kernel_rfl) (fun _ _ _ h => h) (Or.inl ⟨by rfl, ?_⟩) hHeld ?_
          rotate_left
          · intro w hSw; (try dsimp only at hSw);  go_simp; try with_reducible rfl
          simp only [Act.put, List.setIfInBounds_toArray, List.set_cons_zero, List.set_cons_succ]
          refine take_at (i := 2) (d := some 61) (v := ?_) rfl rfl (by kernel_rfl) (by kernel_rfl) (by kernel_rfl) (fun _ _ _ h => h) (Or.inl ⟨by rfl, ?_⟩) hHeld ?_
          rotate_left
          · intro w hSw; (try dsimp only at hSw);  go_simp; try with_reducible rfl
          simp only [Act.put, List.setIfInBounds_toArray, List.set_cons_zero, List.set_cons_succ]
          refine take_at (i := 3) (d := some 62) (v := ?_) rfl rfl (by kernel_rfl) (by kernel_rfl) (by kernel_rfl) (fun _ _ _ h => h) (Or.inl ⟨by rfl, ?_⟩) hHeld ?_
          rotate_left
          · intro w hSw; (try dsimp only at hSw);  go_simp; try with_reducible rfl
          simp only [Act.put, List.setIfInBounds_toArray, List.set_cons_zero, List.set_cons_succ]
          refine take_at (i := 4) (d := some 63) (v := ?_) rfl rfl (by kernel_rfl) (by kernel_rfl) (by kernel_rfl) (fun _ _ _ h => h) (Or.inl ⟨by rfl, ?_⟩) hHeld ?_
          rotate_left
          · intro w hSw; (try dsimp only at hSw);  go_simp; try with_reducible rfl
          simp only [Act.put, List.setIfInBounds_toArray, List.set_cons_zero, List.set_cons_succ]
          refine take_at (i := 5) (d := some 64) (v := ?_) rfl rfl (by kernel_rfl) (by kernel_rfl) (by kernel_rfl) (fun _ _ _ h => h) (Or.inl ⟨by rfl, ?_⟩) hHeld ?_
          rotate_left
          · intro w hSw; (try dsimp only at hSw);  go_simp; try with_reducible rfl
          simp only [Act.put, List.setIfInBounds_toArray, List.set_cons_zero, List.set_cons_succ]
          refine take_at (i := 6) (d := some 65) (v := ?_) rfl rfl (by kernel_rfl) (by kernel_rfl) (by kernel_rfl) (fun _ _ _ h => h) (Or.inl ⟨by rfl, ?_⟩) hHeld ?_
          rotate_left
          · intro w hSw; (try dsimp only at hSw);  go_simp; try with_reducible rfl
          simp only [Act.put, List.setIfInBounds_toArray, List.set_cons_zero, List.set_cons_succ]
          refine take_at (i := 7) (d := some 66) (v := ?_) rfl rfl (by kernel_rfl) (by kernel_rfl) (by kernel_rfl) (fun _ _ _ h => h) (Or.inl ⟨by rfl, ?_⟩) hHeld ?_
          rotate_left
          · intro w hSw; (try dsimp only at hSw);  go_simp; try with_reducible rfl
          simp only [Act.put, List.setIfInBounds_toArray, List.set_cons_zero, List.set_cons_succ]
          refine take_at (i := 8) (d := some 67) (v := ?_) rfl rfl (by kernel_rfl) (by kernel_rfl) (by kernel_rfl) (fun _ _ _ h => h) (Or.inl ⟨by rfl, ?_⟩) hHeld ?_
          rotate_left
          · intro w hSw; (try dsimp only at hSw);  go_simp; try with_reducible rfl
          simp only [Act.put, List.setIfInBounds_toArray, List.set_cons_zero, List.set_cons_succ]
          refine take_at (i := 9) (d := some 68) (v := ?_) rfl rfl (by kernel_rfl) (by kernel_rfl) (by kernel_rfl) (fun _ _ _ h => h) (Or.inl ⟨by rfl, ?_⟩) hHeld ?_
          rotate_left
          · intro w hSw; (try dsimp only at hSw);  go_simp; try with_reducible rfl
          simp only [Act.put, List.setIfInBounds_toArray, List.set_cons_zero, List.set_cons_succ]
          refine take_at (i := 10) (d := some 69) (v := ?_) rfl rfl (by kernel_rfl) (by kernel_rfl) (by kernel_rfl) (fun _ _ _ h => h) (Or.inl ⟨by rfl, ?_⟩) hHeld ?_
          rotate_left
          · intro w hSw; (try dsimp only at hSw);  go_simp; try with_reducible rfl
          simp only [Act.put, List.setIfInBounds_toArray, List.set_cons_zero, List.set_cons_succ]
          refine take_at (i := 11) (d := some 70) (v := ?_) rfl rfl (by kernel_rfl) (by kernel_rfl) (by kernel_rfl) (fun _ _ _ h => h) (Or.inl ⟨by rfl, ?_⟩) hHeld ?_
          rotate_left
          · intro w hSw; (try dsimp only at hSw);  go_simp; try with_reducible rfl
          simp only [Act.put, List.setIfInBounds_toArray, List.set_cons_zero, List.set_cons_succ]
          refine take_at (i := 12) (d := some 71) (v := ?_) rfl rfl (by kernel_rfl) (by kernel_rfl) (by kernel_rfl) (fun _ _ _ h => h) (Or.inl ⟨by rfl, ?_⟩) hHeld ?_
          rotate_left
          · intro w hSw; (try dsimp only at hSw); have q0 := (HS.out _ hSw).1; go_simp; try with_reducible rfl
          simp only [Act.put, List.setIfInBounds_toArray, List.set_cons_zero, List.set_cons_succ]
          refine take_at (i := 13) (d := some 72) (v := ?_) rfl rfl (by kernel_rfl) (by kernel_rfl) (by kernel_rfl) (fun _ _ _ h => h) (Or.inl ⟨by rfl, ?_⟩) hHeld ?_
          rotate_left
          · intro w hSw; (try dsimp only at hSw);  go_simp; try with_reducible rfl
          simp only [Act.put, List.setIfInBounds_toArray, List.set_cons_zero, List.set_cons_succ]
          refine wpAnyH_ready (rs := [14]) (by kernel_rfl) (by simp) ?_
          refine AllReadyH.cons rfl (fun K hK => ?_) AllReadyH.nil
          go_simp
          refine (HWy.out _ hHeld).mono ?_
          rintro e wa ⟨ta, rfl, hFa, hBa⟩
          refine hK.out _ _ hBa (fun hHeld => ?_)
          clear hK K
          refine wpAnyH_ready (rs := [15]) (by kernel_rfl) (by simp) ?_
          refine AllReadyH.cons rfl (fun K hK => ?_) AllReadyH.nil
          go_simp
          refine (HIx.out _ ta hBa hFa).mono ?_
          rintro e wc ⟨rfl, hBc⟩
          refine hK.out _ _ hBc (fun hHeld => ?_)
          clear hK K
          refine take_at (i := 16) (d := some 75) (v := ?_) rfl rfl (by kernel_rfl) (by kernel_rfl) (by kernel_rfl) (fun _ _ _ h => h) (Or.inl ⟨by rfl, ?_⟩) hHeld ?_
          rotate_left
          · intro w hSw; (try dsimp only at hSw);  go_simp; try with_reducible rfl
          simp only [Act.put, List.setIfInBounds_toArray, List.set_cons_zero, List.set_cons_succ]
          refine take_at (i := 17) (d := some 76) (v := ?_) rfl rfl (by kernel_rfl) (by kernel_rfl) (by kernel_rfl) (fun _ _ _ h => h) (Or.inl ⟨by rfl, ?_⟩) hHeld ?_
          rotate_left
          · intro w hSw; (try dsimp only at hSw);  go_simp; try with_reducible rfl
          simp only [Act.put, List.setIfInBounds_toArray, List.set_cons_zero, List.set_cons_succ]
          refine take_at (i := 18) (d := some 77) (v := ?_) rfl rfl (by kernel_rfl) (by kernel_rfl) (by kernel_rfl) (fun _ _ _ h => h) (Or.inl ⟨by rfl, ?_⟩) hHeld ?_
          rotate_left
          · intro w hSw; (try dsimp only at hSw);  go_simp; try with_reducible rfl
          simp only [Act.put, List.setIfInBounds_toArray, List.set_cons_zero, List.set_cons_succ]
          refine take_at (i := 19) (d := some 78) (v := ?_) rfl rfl (by kernel_rfl) (by kernel_rfl) (by kernel_rfl) (fun _ _ _ h => h) (Or.inl ⟨by rfl, ?_⟩) hHeld ?_
          rotate_left
          · intro w hSw; (try dsimp only at hSw);  go_simp; try with_reducible rfl
          simp only [Act.put, List.setIfInBounds_toArray, List.set_cons_zero, List.set_cons_succ]
          refine take_at (i := 20) (d := some 79) (v := ?_) rfl rfl (by kernel_rfl) (by kernel_rfl) (by kernel_rfl) (fun _ _ _ h => h) (Or.inl ⟨by rfl, ?_⟩) hHeld ?_
          rotate_left
          · intro w hSw; (try dsimp only at hSw); have q0 := (HS.out _ hSw).2; go_simp; try with_reducible rfl
          simp only [Act.put, List.setIfInBounds_toArray, List.set_cons_zero, List.set_cons_succ]
          refine take_at (i := 21) (d := some 80) (v := ?_) rfl rfl (by kernel_rfl) (by kernel_rfl) (by kernel_rfl) (fun _ _ _ h => h) (Or.inl ⟨by rfl, ?_⟩) hHeld ?_
          rotate_left
          · intro w hSw; (try dsimp only at hSw);  go_simp; try with_reducible rfl
          simp only [Act.put, List.setIfInBounds_toArray, List.set_cons_zero, List.set_cons_succ]
          refine wpAnyH_ready (rs := [22]) (by kernel_rfl) (by simp) ?_
          refine AllReadyH.cons rfl (fun K hK => ?_) AllReadyH.nil
          go_simp
          refine (HWy.out _ hBc).mono ?_
          rintro e wd ⟨td, rfl, hFd, hBd⟩
          refine hK.out _ _ hBd (fun hHeld => ?_)
          clear hK K
          refine wpAnyH_ready (rs := [23]) (by kernel_rfl) (by simp) ?_
          refine AllReadyH.cons rfl (fun K hK => ?_) AllReadyH.nil
          go_simp
          refine (HIy.out _ td hBd hFd).mono ?_
          rintro e we ⟨rfl, hBe⟩
          refine hK.out _ _ hBe (fun hHeld => ?_)
          clear hK K
          refine take_at (i := 24) (d := some 83) (v := ?_) rfl rfl (by kernel_rfl) (by kernel_rfl) (by kernel_rfl) (fun _ _ _ h => h) (Or.inl ⟨by rfl, ?_⟩) hHeld ?_
          rotate_left
          · intro w hSw; (try dsimp only at hSw);  go_simp; try with_reducible rfl
          simp only [Act.put, List.setIfInBounds_toArray, List.set_cons_zero, List.set_cons_succ]
          refine take_at (i := 25) (d := some 2) (v := ?_) rfl rfl (by kernel_rfl) (by kernel_rfl) (by kernel_rfl) (fun _ _ _ h => h) (Or.inl ⟨by rfl, ?_⟩) hHeld ?_
          rotate_left
          · intro w hSw; (try dsimp only at hSw);  go_simp; try with_reducible rfl
          simp only [Act.put, List.setIfInBounds_toArray, List.set_cons_zero, List.set_cons_succ]
          refine wpAnyH_done (by kernel_rfl) ?_ _
          have HBf : Hid (Below w.heap.size w we) := below_trans HBz.out hBe HBz.out.size
          clear hHeld hFa hBa hBc hFd hBd hBe
          go_wp2
          go_ret
          exact ⟨rfl, HBf.out⟩

end Go.Proofs.YtalggolacdlnnaaGreatDoor

/- Programs among a call's arguments, opened: how they lie in memory, and that no list of theirs is longer than the form's reach, no text longer than Go's. -/
namespace Go.Proofs.YtalggolacdlnnaaGreatDoor
open Go.RowKit Go.Sort Go.ChangeShapes Go.WideShapes Go.ChangeAt Go.Deep

variable {H : Type} {enc : TypeId × Value → H} {W : World}

theorem ownP : ownKnob Tryz.prog.godebug = none := by kernel_rfl
theorem laidOutP : laidOutB Tryz.prog = true := by kernel_rfl
theorem cellsStrP : Tryz.prog.cellsOf 9 = 1 := by kernel_rfl
theorem addr_plainP {a : Addr} {v : Value} (h : W.cell? (a.add 0) = some v) : ∃ b off, a = ⟨b, off, none⟩ := by
  obtain ⟨b, off, spot⟩ := a
  have hspot : spot = none := by simpa [Addr.add] using World.cell?_spot h
  subst hspot
  exact ⟨b, off, rfl⟩

/-- Each list within reach. -/
def Sized (t : TypeId) (d : DataW H) : Prop := (d.weights Tryz.prog t).all (· ≤ reachBytes) = true
/-- How a type's values are opened. -/
def Opens {α : Type} (enc : TypeId × Value → H) (W : World) (ty : TypeId) (K : Kind α) (ok : α → Prop) : Prop :=
  ∀ n cs x, DataW.trod enc Tryz.prog W 0 (fun _ => true) true n ty cs = some x → Sized ty x.1 → ∃ a, K.is Anyw W cs a ∧ ok a

theorem sized_all {e : TypeId} {l : List (DataW H)} (h : (DataW.weightsAll Tryz.prog e l).all (· ≤ reachBytes) = true) : ∀ d ∈ l, Sized e d := by
  induction l with
  | nil => intro d hd; cases hd
  | cons x r ih =>
    simp only [DataW.weightsAll, List.all_append, Bool.and_eq_true] at h
    intro d hd
    rcases List.mem_cons.1 hd with rfl | hd
    · exact h.1
    · exact ih h.2 d hd

set_option maxRecDepth 100000 in
theorem openSlB {α : Type} {K : Kind α} {T ty : TypeId} {ok : α → Prop} (hT : Tryz.prog.underlying T = some (.slice ty)) (hc : Tryz.prog.cellsOf ty = K.size) (hby : 16 ≤ Tryz.prog.bytesOf ty) (hsz : 0 < K.size) (E : Opens enc W ty K ok)
    {n : Nat} {v : Value} {x : DataW H × List MemPlace} (hf : DataW.trod enc Tryz.prog W 0 (fun _ => true) true n T [v] = some x) (hw : Sized T x.1) : ∃ l, K.sl Anyw W v l ∧ (∀ a ∈ l, ok a) ∧ l.length * Tryz.prog.bytesOf ty ≤ reachBytes := by
  rcases open_slice hT hf with ⟨hcs, _⟩ | ⟨a, len, cap, m, k, D, Pl, hcs, _, hl, hm, hmm, hx, hel⟩
  · simp only [List.cons.injEq, and_true] at hcs
    exact ⟨[], by rw [hcs]; exact K.sl_nil _ _ _ _, fun a ha => (by cases ha), by simp⟩
  · simp only [List.cons.injEq, and_true] at hcs
    simp only [if_true] at hmm
    subst hmm
    rw [hc] at hel
    have hd : x.1 = .slice ((List.range len).map D) ((List.range (m - len)).map fun j => D (len + j)) := by rw [hx]
    have hw2 : (decide ((len + (m - len)) * Tryz.prog.bytesOf ty ≤ reachBytes) && ((DataW.weightsAll Tryz.prog ty ((List.range len).map D)).all (· ≤ reachBytes) && (DataW.weightsAll Tryz.prog ty ((List.range (m - len)).map fun j => D (len + j))).all (· ≤ reachBytes))) = true := by
      have := hw
      unfold Sized at this
      rw [hd, DataW.weights, hT] at this
      simpa using this
    simp only [Bool.and_eq_true] at hw2
    have hlen : len ≤ 8796093022208 := by
      have h1 : (len + (m - len)) * Tryz.prog.bytesOf ty ≤ reachBytes := of_decide_eq_true hw2.1
      have h2 : len * 16 ≤ (len + (m - len)) * Tryz.prog.bytesOf ty := Nat.mul_le_mul (by omega) hby
      unfold reachBytes at h1
      omega
    have each : ∀ i : Fin len, ∃ z : α, ∃ cs', W.cells? 0 (a.add (i.1 * K.size)) K.size = some cs' ∧ K.is Anyw W cs' z ∧ ok z := fun i => by
      obtain ⟨cs', k1, k2⟩ := hel i.1 (by omega)
      obtain ⟨z, hz, hk⟩ := E _ _ _ k2 (sized_all hw2.2.1 _ (List.mem_map.2 ⟨i.1, List.mem_range.2 i.2, rfl⟩))
      exact ⟨z, cs', k1, hz, hk⟩
    refine ⟨List.ofFn fun i => Classical.choose (each i), ⟨⟨by simpa using hlen, ?_⟩, some a, m, by rw [hcs]; simp, fun hne => ?_⟩, fun z hz => ?_, ?_⟩
    · rw [hcs]; show len ≤ m; omega
    rotate_left
    rotate_left
    · have h1 : (len + (m - len)) * Tryz.prog.bytesOf ty ≤ reachBytes := of_decide_eq_true hw2.1
      rw [List.length_ofFn]
      exact Nat.le_trans (Nat.mul_le_mul_right _ (by omega)) h1
    rotate_left
    · rw [List.mem_ofFn] at hz
      obtain ⟨i, rfl⟩ := hz
      obtain ⟨_, _, _, hok⟩ := Classical.choose_spec (each i)
      exact hok
    have h0 : 0 < len := by
      refine Nat.pos_of_ne_zero fun e => hne ?_
      subst e; rfl
    have first : ∀ i : Fin len, ∀ cs', W.cells? 0 (a.add (i.1 * K.size)) K.size = some cs' → ∀ j u, cs'[j]? = some u → W.cell? ((a.add (i.1 * K.size)).add j) = some u := fun i cs' k1 j u hu => by
      obtain ⟨h1, _, hcell⟩ := World.cells?_some k1
      have hj : j < cs'.length := (List.getElem?_eq_some_iff.1 hu).1
      have := hcell j (by omega)
      rw [this]; exact hu
    have hplain : ∃ b off, a = ⟨b, off, none⟩ := by
      obtain ⟨cs', k0, k1, _⟩ := Classical.choose_spec (each ⟨0, h0⟩)
      have hl := K.len k1
      have hu : cs'[0]? = some (cs'[0]'(by omega)) := List.getElem?_eq_getElem (by omega)
      have := first ⟨0, h0⟩ cs' k0 0 _ hu
      exact addr_plainP (W := W) (v := cs'[0]'(by omega)) (by simpa [Addr.add] using this)
    obtain ⟨b, off, rfl⟩ := hplain
    have hlt : b < W.heap.size := by
      obtain ⟨cs', k0, k1, _⟩ := Classical.choose_spec (each ⟨0, h0⟩)
      have hl := K.len k1
      have hu : cs'[0]? = some (cs'[0]'(by omega)) := List.getElem?_eq_getElem (by omega)
      have := first ⟨0, h0⟩ cs' k0 0 _ hu
      rw [Addr.add_lit, Addr.add_lit] at this
      exact World.block_lt_of_cell? W _ this
    refine ⟨b, off, rfl, trivial, hlt, fun i z hi => ?_⟩
    have hi' : i < len := by simpa using (List.getElem?_eq_some_iff.1 hi).1
    rw [List.getElem?_ofFn, dif_pos hi'] at hi
    injection hi with hi
    subst hi
    obtain ⟨cs', k0, k1, _⟩ := Classical.choose_spec (each ⟨i, hi'⟩)
    refine ⟨cs', k1, fun j u hu => ?_⟩
    have := first ⟨i, hi'⟩ cs' k0 j u hu
    rw [Addr.add_lit, Addr.add_lit] at this
    exact this

theorem openSl {α : Type} {K : Kind α} {T ty : TypeId} {ok : α → Prop} (hT : Tryz.prog.underlying T = some (.slice ty)) (hc : Tryz.prog.cellsOf ty = K.size) (hby : 16 ≤ Tryz.prog.bytesOf ty) (hsz : 0 < K.size) (E : Opens enc W ty K ok)
    {n : Nat} {v : Value} {x : DataW H × List MemPlace} (hf : DataW.trod enc Tryz.prog W 0 (fun _ => true) true n T [v] = some x) (hw : Sized T x.1) : ∃ l, K.sl Anyw W v l ∧ ∀ a ∈ l, ok a := by
  obtain ⟨l, h1, h2, _⟩ := openSlB hT hc hby hsz E hf hw
  exact ⟨l, h1, h2⟩

/-- No text is longer than Go's. -/
def okT (t : TermD) : Prop := t.2.length ≤ maxLen
def okA (a : AtomD) : Prop := a.name.length ≤ maxLen ∧ ∀ t ∈ a.terms, okT t
def okR (r : RuleD) : Prop := okA r.head ∧ ∀ a ∈ r.body, okA a

theorem cellsTerm : Tryz.prog.cellsOf 125 = 2 := by kernel_rfl
theorem cellsTerms : Tryz.prog.cellsOf 48 = 1 := by kernel_rfl
theorem cellsAtom : Tryz.prog.cellsOf 50 = 3 := by kernel_rfl
theorem cellsAtoms : Tryz.prog.cellsOf 51 = 1 := by kernel_rfl
theorem cellsBool : Tryz.prog.cellsOf 4 = 1 := by kernel_rfl
theorem bytesTerm : Tryz.prog.bytesOf 125 = 24 := by kernel_rfl
theorem bytesAtom : Tryz.prog.bytesOf 50 = 48 := by kernel_rfl

theorem cellsRule : Tryz.prog.cellsOf 53 = 4 := by kernel_rfl
theorem bytesRule : Tryz.prog.bytesOf 53 = 72 := by kernel_rfl

set_option maxRecDepth 100000 in
theorem opensTerm : Opens enc W 125 termK okT := by
  intro n cs x h _
  obtain ⟨y0, y1, m, hx, hl, h0, h1⟩ := trod_struct2 Tryz.underlying125 h
  rw [cellsTerm] at hl
  match cs, hl with
  | [c0, c1], _ =>
    have e0 : Tryz.prog.cellsOf 4 = 1 := cellsBool
    have e1 : Tryz.prog.cellsOf 9 = 1 := cellsStrP
    simp only [e0, e1, List.drop_zero, List.drop_succ_cons, List.take_succ_cons, List.take_zero] at h0 h1
    obtain ⟨b, hb, _⟩ := DataW.trod_bool Tryz.underlying4 h0
    obtain ⟨s, hs, _, hsz⟩ := DataW.trod_string Tryz.underlying9 h1
    simp only [List.cons.injEq, and_true] at hb hs
    exact ⟨(b, raw s), by show [c0, c1] = _; rw [hb, hs, bs_raw], by show (raw s).length ≤ _; rw [length_raw]; exact hsz⟩

set_option maxRecDepth 100000 in
theorem opensAtom : Opens enc W 50 atomK okA := by
  intro n cs x h hw
  obtain ⟨y0, y1, y2, m, hx, hl, h0, h1, h2⟩ := trod_struct3 Tryz.underlying50 h
  rw [cellsAtom] at hl
  match cs, hl with
  | [c0, c1, c2], _ =>
    have e0 : Tryz.prog.cellsOf 4 = 1 := cellsBool
    have e1 : Tryz.prog.cellsOf 9 = 1 := cellsStrP
    have e2 : Tryz.prog.cellsOf 48 = 1 := cellsTerms
    simp only [e0, e1, e2, List.drop_zero, List.drop_succ_cons, List.take_succ_cons, List.take_zero] at h0 h1 h2
    obtain ⟨b, hb, _⟩ := DataW.trod_bool Tryz.underlying4 h0
    obtain ⟨s, hs, _, hsz⟩ := DataW.trod_string Tryz.underlying9 h1
    simp only [List.cons.injEq, and_true] at hb hs
    have hw2 : Sized 48 y2.1 := by
      unfold Sized at hw ⊢
      rw [hx, DataW.weights, Tryz.underlying50] at hw
      simp only [List.map_cons, List.map_nil, DataW.weightsEach, List.all_append, Bool.and_eq_true] at hw
      exact hw.2.2.1
    obtain ⟨l, hl, hlk⟩ := openSl Tryz.underlying48 cellsTerm (by rw [bytesTerm]; decide) (by decide) opensTerm h2 hw2
    exact ⟨⟨b, raw s, l⟩, ⟨c2, by show [c0, c1, c2] = _; rw [hb, hs, bs_raw], hl⟩, by show (raw s).length ≤ _; rw [length_raw]; exact hsz, hlk⟩

set_option maxRecDepth 100000 in
theorem opensRule : Opens enc W 53 ruleK okR := by
  intro n cs x h hw
  obtain ⟨y0, y1, m, hx, hl, h0, h1⟩ := trod_struct2 Tryz.underlying53 h
  rw [cellsRule] at hl
  match cs, hl with
  | [c0, c1, c2, c3], _ =>
    have e0 : Tryz.prog.cellsOf 50 = 3 := cellsAtom
    have e1 : Tryz.prog.cellsOf 51 = 1 := cellsAtoms
    simp only [e0, e1, List.drop_zero, List.drop_succ_cons, List.take_succ_cons, List.take_zero] at h0 h1
    have hws : Sized 50 y0.1 ∧ Sized 51 y1.1 := by
      unfold Sized at hw ⊢
      rw [hx, DataW.weights, Tryz.underlying53] at hw
      simp only [List.map_cons, List.map_nil, DataW.weightsEach, List.all_append, Bool.and_eq_true] at hw
      exact ⟨hw.1, hw.2.1⟩
    obtain ⟨a, ⟨v, ev, hv⟩, hak⟩ := opensAtom _ _ _ h0 hws.1
    obtain ⟨l, hl, hlk⟩ := openSl Tryz.underlying51 cellsAtom (by rw [bytesAtom]; decide) (by decide) opensAtom h1 hws.2
    simp only [List.cons.injEq, and_true] at ev
    exact ⟨⟨a, l⟩, ⟨v, c3, by show [c0, c1, c2, c3] = _; rw [ev.1, ev.2.1, ev.2.2], hv, hl⟩, hak, hlk⟩

set_option maxRecDepth 100000 in
theorem openRules {b0 : Nat} {v : Value} {d : DataW H} {p : List MemPlace} (hv : Value.okWide Tryz.prog W .any b0 29 v) (h : DataW.Trod enc Tryz.prog W 0 (fun _ => true) true 29 v d p) (hw : Sized 29 d) : ∃ l, ruleK.sl Anyw W v l ∧ ∀ r ∈ l, okR r := by
  obtain ⟨a0, len0, cap0, rfl⟩ := okWide_slice Tryz.underlying29 hv
  obtain ⟨fuel, hf⟩ := h
  exact openSl Tryz.underlying29 cellsRule (by rw [bytesRule]; decide) (by decide) opensRule (x := (d, p)) (by simpa [Value.cells] using hf) hw

/-- What the form's reach says of an argument. -/
theorem sized_at {ts : List TypeId} {ds : List (DataW H)} (h : (DataW.weightsEach Tryz.prog ts ds).all (· ≤ reachBytes) = true) {j : Nat} {t : TypeId} {d : DataW H} (ht : ts[j]? = some t) (hd : ds[j]? = some d) : Sized t d :=
  List.all_eq_true.2 fun k hk => List.all_eq_true.1 h _ (DataW.weights_mem_each ht hd k hk)

end Go.Proofs.YtalggolacdlnnaaGreatDoor

/- Facts, atoms and texts among a call's arguments, opened, each list within the form's reach. -/
namespace Go.Proofs.YtalggolacdlnnaaGreatDoor
open Go.RowKit Go.Sort Go.ChangeShapes Go.WideShapes Go.ChangeAt Go.Deep

variable {H : Type} {enc : TypeId × Value → H} {W : World}

/-- A fact lies in two cells. -/
def factK : Kind FactD where
  size := 2
  is := fun B w c f => ∃ s, c = [.string f.1, s] ∧ bsK.sl B w s f.2
  len := fun ⟨s, h, _⟩ => by subst h; rfl
  one := fun ⟨s, h, hs⟩ u hu => by
    subst h
    obtain ⟨a, cap, rfl⟩ := Kind.slice hs
    simp at hu; rcases hu with rfl | rfl <;> rfl
  kept := fun ⟨v, h, hs⟩ h1 h2 => ⟨v, h, Kind.sl_kept hs h1 h2⟩
  mono := fun ⟨v, h, hs⟩ h1 => ⟨v, h, Kind.sl_mono hs h1⟩

theorem sl_strs {B : Nat → Prop} {w : World} {v : Value} {l : List ByteArray} (h : bsK.sl B w v l) : Strs w v l := by
  obtain ⟨⟨h0, _⟩, a, cap, rfl, h1⟩ := h
  refine ⟨h0, a, cap, rfl, fun hne => ?_⟩
  obtain ⟨b, off, rfl, _, hb, hc⟩ := h1 hne
  refine ⟨b, off, rfl, hb, fun i hi => ?_⟩
  obtain ⟨c, rfl, c2⟩ := hc i _ (List.getElem?_eq_getElem hi)
  have := c2 0 _ rfl
  rw [List.getD_eq_getElem?_getD, List.getElem?_eq_getElem hi]
  simpa [bsK] using this

theorem sl_facts {B : Nat → Prop} {w : World} {v : Value} {l : List FactD} (h : factK.sl B w v l) (hl : l.length ≤ 3518437208883) : Facts w v l := by
  obtain ⟨_, a, cap, rfl, h1⟩ := h
  refine ⟨hl, a, cap, rfl, fun hne => ?_⟩
  obtain ⟨b, off, rfl, _, hb, hc⟩ := h1 hne
  refine ⟨b, off, rfl, hb, fun i hi => ?_⟩
  obtain ⟨c, ⟨s, rfl, hs⟩, c2⟩ := hc i _ (List.getElem?_eq_getElem hi)
  rw [List.getD_eq_getElem?_getD, List.getElem?_eq_getElem hi]
  exact ⟨by simpa [factK] using c2 0 _ rfl, s, by simpa [factK] using c2 1 _ rfl, sl_strs hs⟩

def okS (s : ByteArray) : Prop := s.size ≤ maxLen
def okFt (f : FactD) : Prop := okS f.1 ∧ ∀ s ∈ f.2, okS s

theorem cellsFactP : Tryz.prog.cellsOf 26 = 2 := by kernel_rfl
theorem cellsStrsP : Tryz.prog.cellsOf 24 = 1 := by kernel_rfl
theorem bytesFactP : Tryz.prog.bytesOf 26 = 40 := by kernel_rfl
theorem bytesStrP : Tryz.prog.bytesOf 9 = 16 := by kernel_rfl

set_option maxRecDepth 100000 in
theorem opensStr : Opens enc W 9 bsK okS := by
  intro n cs x h _
  obtain ⟨s, hs, _, hsz⟩ := DataW.trod_string Tryz.underlying9 h
  exact ⟨s, hs, hsz⟩

set_option maxRecDepth 100000 in
theorem opensFact : Opens enc W 26 factK okFt := by
  intro n cs x h hw
  obtain ⟨y0, y1, m, hx, hl, h0, h1⟩ := trod_struct2 Tryz.underlying26 h
  rw [cellsFactP] at hl
  match cs, hl with
  | [c0, c1], _ =>
    have e0 : Tryz.prog.cellsOf 9 = 1 := cellsStrP
    have e1 : Tryz.prog.cellsOf 24 = 1 := cellsStrsP
    simp only [e0, e1, List.drop_zero, List.drop_succ_cons, List.take_succ_cons, List.take_zero] at h0 h1
    obtain ⟨s, hs, _, hsz⟩ := DataW.trod_string Tryz.underlying9 h0
    simp only [List.cons.injEq, and_true] at hs
    have hw2 : Sized 24 y1.1 := by
      unfold Sized at hw ⊢
      rw [hx, DataW.weights, Tryz.underlying26] at hw
      simp only [List.map_cons, List.map_nil, DataW.weightsEach, List.all_append, Bool.and_eq_true] at hw
      exact hw.2.1
    obtain ⟨l, hl, hlk⟩ := openSl Tryz.underlying24 cellsStrP (by rw [bytesStrP]; decide) (by decide) opensStr h1 hw2
    exact ⟨(s, l), ⟨c1, by show [c0, c1] = _; rw [hs], hl⟩, hsz, hlk⟩

set_option maxRecDepth 100000 in
theorem openFactsS {b0 : Nat} {v : Value} {d : DataW H} {p : List MemPlace} (hv : Value.okWide Tryz.prog W .any b0 23 v) (h : DataW.Trod enc Tryz.prog W 0 (fun _ => true) true 23 v d p) (hw : Sized 23 d) : ∃ l, Facts W v l ∧ ∀ f ∈ l, okFt f := by
  obtain ⟨a0, len0, cap0, rfl⟩ := okWide_slice Tryz.underlying23 hv
  obtain ⟨fuel, hf⟩ := h
  obtain ⟨l, h1, h2, h3⟩ := openSlB Tryz.underlying23 cellsFactP (by rw [bytesFactP]; decide) (by decide) opensFact (x := (d, p)) (by simpa [Value.cells] using hf) hw
  rw [bytesFactP] at h3
  exact ⟨l, sl_facts h1 (by unfold reachBytes at h3; omega), h2⟩

set_option maxRecDepth 100000 in
theorem openAtoms {b0 : Nat} {v : Value} {d : DataW H} {p : List MemPlace} (hv : Value.okWide Tryz.prog W .any b0 51 v) (h : DataW.Trod enc Tryz.prog W 0 (fun _ => true) true 51 v d p) (hw : Sized 51 d) : ∃ l, atomK.sl Anyw W v l ∧ (∀ a ∈ l, okA a) ∧ l.length * 48 ≤ reachBytes := by
  obtain ⟨a0, len0, cap0, rfl⟩ := okWide_slice Tryz.underlying51 hv
  obtain ⟨fuel, hf⟩ := h
  obtain ⟨l, h1, h2, h3⟩ := openSlB Tryz.underlying51 cellsAtom (by rw [bytesAtom]; decide) (by decide) opensAtom (x := (d, p)) (by simpa [Value.cells] using hf) hw
  rw [bytesAtom] at h3
  exact ⟨l, h1, h2, h3⟩

set_option maxRecDepth 100000 in
theorem openStrsS {b0 : Nat} {v : Value} {d : DataW H} {p : List MemPlace} (hv : Value.okWide Tryz.prog W .any b0 24 v) (h : DataW.Trod enc Tryz.prog W 0 (fun _ => true) true 24 v d p) (hw : Sized 24 d) : ∃ l, Strs W v l ∧ ∀ s ∈ l, okS s := by
  obtain ⟨a0, len0, cap0, rfl⟩ := okWide_slice Tryz.underlying24 hv
  obtain ⟨fuel, hf⟩ := h
  obtain ⟨l, h1, h2, _⟩ := openSlB Tryz.underlying24 cellsStrP (by rw [bytesStrP]; decide) (by decide) opensStr (x := (d, p)) (by simpa [Value.cells] using hf) hw
  exact ⟨l, sl_strs h1, h2⟩

end Go.Proofs.YtalggolacdlnnaaGreatDoor
