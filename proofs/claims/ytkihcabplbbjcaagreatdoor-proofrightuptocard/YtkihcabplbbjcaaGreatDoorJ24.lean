/- Texts of this claim, one behind the other. -/
import Derived.Test.YtkihcabplbbjcaaGreatDoorJ15
import Derived.Test.YtkihcabplbbjcaaGreatDoorJ23
import Derived.Test.YtkihcabplbbjcaaGreatDoorJ5
/- The walks of proof.Check and proof.Size. -/
namespace Go.Proofs.YtkihcabplbbjcaaGreatDoor
open Go.RowKit Go.Sort

/-- What Check tells. -/
def checkE (p : List RuleD) (told : List FactB) (n : Nat) (x : PrfD) : Int :=
  if (allP p told).1 ≠ 0 then (allP p told).1 else if muchS (measGo muchS (n + 2) [x] (0, 0)) then 4 else wrongX p told (allP p told).2 (n + 1) x

theorem right_sizes {p : List RuleD} (hp : RightP p) : ∀ r ∈ p, r.head.terms.length ≤ 4 ∧ r.body.length ≤ 5 ∧ ∀ a ∈ r.body, a.terms.length ≤ 4 := fun r hr => by
  have hR := hp.rules r hr
  obtain ⟨h5, hat⟩ := body_right hR.body
  exact ⟨(wrongAtom_zero hR.head).2.1, h5, fun a ha => (wrongAtom_zero (hat a ha)).2.1⟩

set_option maxRecDepth 100000 in
set_option maxHeartbeats 4000000 in
theorem checkC (p : List RuleD) (told : List FactB) (n : Nat) (x : PrfD) (pv tv xv : Value) (w : World) (hp : ruleK.sl Anyw w pv p) (ht : Facts w tv told) (hx : PrfV n Anyw w xv x) (hn : cnt (n + 1) x ≤ 4000000) (hnn : n ≤ 4000000) :
    Calls Tryz.prog 9 #[pv, tv, xv] w fun e w' => e = .returned (.int .i64 (checkE p told n x)) ∧ Below w.heap.size w w' := by
  have hxv := hx
  obtain ⟨s, kv, rfl, hs, hkv⟩ := hx
  obtain ⟨pa, pc, rfl⟩ := Kind.slice hp
  obtain ⟨ta, tc, rfl⟩ := sliceFacts ht
  obtain ⟨sa, sc, rfl⟩ := Kind.slice hs
  obtain ⟨ka, kc, rfl⟩ := Kind.slice hkv
  obtain ⟨w1, hw1⟩ : ∃ w1, w1 = w.alloc (.cells #[.string x.fact.1, .slice sa x.fact.2.length sc, .int .i64 x.rule, .slice ka x.kids.length kc] 30) := ⟨_, rfl⟩
  have hL1 : Later w w1 := by rw [hw1]; exact (Later.refl w).alloc _
  have hr1 : w1.heap[w.heap.size]? = some (.cells #[.string x.fact.1, .slice sa x.fact.2.length sc, .int .i64 x.rule, .slice ka x.kids.length kc] 30 (0, 0)) := by rw [hw1]; exact heap_alloc_new w _
  have hlt1 : w.heap.size < w1.heap.size := (Array.getElem?_eq_some_iff.1 hr1).1
  have HAl := hide (naiveAllC p told (.slice pa p.length pc) (.slice ta told.length tc) w1 (Kind.sl_later hp hL1) (ht.later hL1))
  have HMe : Hid (∀ w', Below w.heap.size w w' → Calls Tryz.prog 19 #[.agg #[.string x.fact.1, .slice sa x.fact.2.length sc, .int .i64 x.rule, .slice ka x.kids.length kc], .func (.func 21) #[] #[]] w' fun e w'' => e = .returned (.agg #[.int .i64 (measGo muchS (n + 2) [x] (0, 0)).1, .int .i64 (measGo muchS (n + 2) [x] (0, 0)).2]) ∧ Below w'.heap.size w' w'') := fun w' h =>
    measureC x n 21 muchS _ w' (hxv.below h) hn hnn (fun _ _ => rfl) muchC
  have HWr : Hid (∀ (M : List FactB) (av : Value) (w' : World), allP p told = (0, M) → Below w.heap.size w w' → Facts w' av M → Calls Tryz.prog 22 #[.agg #[.slice pa p.length pc, .slice ta told.length tc, av], .agg #[.string x.fact.1, .slice sa x.fact.2.length sc, .int .i64 x.rule, .slice ka x.kids.length kc]] w' fun e w'' => e = .returned (.int .i64 (wrongX p told M (n + 1) x)) ∧ Later w' w'') := fun M av w' hM h ha => by
    obtain ⟨h1, h2, h3, _, _⟩ := all_model hM
    exact wrongXC p told M (right_sizes h1) h1.few h2.up h3.up n x _ _ av _ w' (Kind.sl_below hp h) (ht.below h) ha (hxv.below h)
  have HL1 := hide hL1
  have HR1 := hide hr1
  have HW1 := hide hw1
  have HC : Hid (∀ w', Below w1.heap.size w1 w' → w'.cell? ⟨w.heap.size, 0, none⟩ = some (.string x.fact.1) ∧ w'.cell? ⟨w.heap.size, 0 + 1, none⟩ = some (.slice sa x.fact.2.length sc) ∧ w'.cell? ⟨w.heap.size, 0 + 2, none⟩ = some (.int .i64 x.rule) ∧ w'.cell? ⟨w.heap.size, 0 + 3, none⟩ = some (.slice ka x.kids.length kc)) := fun w' h => by
    have h1 := (h.block _ hlt1).trans hr1
    refine ⟨?_, ?_, ?_, ?_⟩
    · rw [cell_of_row _ _ _ _ _ _ h1]; rfl
    · rw [cell_of_row _ _ _ _ _ _ h1]; rfl
    · rw [cell_of_row _ _ _ _ _ _ h1]; rfl
    · rw [cell_of_row _ _ _ _ _ _ h1]; rfl
  obtain ⟨RR, hRR⟩ : ∃ RR : Int, RR = checkE p told n x := ⟨_, rfl⟩
  rw [← hRR]
  unfold checkE at hRR
  obtain ⟨er, M, hM⟩ : ∃ er M, allP p told = (er, M) := ⟨_, _, rfl⟩
  rw [hM] at HAl hRR
  dsimp only at hRR
  have HM := hide hM
  have HRR := hide hRR
  obtain ⟨ms, hms⟩ : ∃ ms, ms = measGo muchS (n + 2) [x] (0, 0) := ⟨_, rfl⟩
  rw [← hms] at HMe HRR
  clear hxv hp ht hs hkv hn hL1 hr1 hw1 hRR hM hms
  obtain ⟨⟨fn, fargs⟩, rl, kids⟩ := x
  dsimp only [PrfD.fact, PrfD.rule, PrfD.kids] at *
  go_enter Tryz.func9, Tryz.ntmps9
  go_wp2_with (first | (rw [← HW1.out]) | fail)
  refine HAl.out.mono ?_
  rintro e w2 ⟨v2, er2, rfl, ⟨he2, hT0, hT1⟩, hB2⟩
  dsimp only at he2 hT0 hT1
  subst he2
  have HB2 := hide (below_trans HL1.out.below hB2 HL1.out.size)
  have hB2' := hB2
  by_cases h0 : er2 = 0
  · subst h0
    have hF2 := hT1 rfl
    obtain ⟨aa, ac, rfl⟩ := sliceFacts hF2
    have HF2 := hide hF2
    have HE : Hid (RR = if muchS ms then 4 else wrongX p told M (n + 1) (.mk (fn, fargs) rl kids)) := by show _ = _; rw [HRR.out, if_neg (by simp)]
    have H3 := hide (HMe.out w2 HB2.out)
    obtain ⟨y0, y1, y2, y3⟩ := HC.out w2 hB2
    have HB12 := hide hB2'
    obtain ⟨mc, md⟩ := ms
    dsimp only at H3
    clear hT0 hT1 hF2 hB2 hB2' HAl HMe HRR HW1
    go_wp2_with fail
    refine H3.out.mono ?_
    rintro e w3 ⟨rfl, hB3⟩
    have H4 := hide (muchC mc md w3)
    have HB3 := hide (below_trans HB2.out hB3 HB2.out.size)
    have hB13 := below_trans HB12.out hB3 HB12.out.size
    have HF3 := hide (HF2.out.below hB3)
    clear hB3 H3 y0 y1 y2 y3
    go_wp2_with fail
    refine H4.out.mono ?_
    rintro e w4 ⟨rfl, hL4⟩
    have HB4 := hide (below_trans HB3.out hL4.below HB3.out.size)
    have hB14 := below_trans hB13 hL4.below hB13.size
    cases hmu : muchS (mc, md) with
    | true =>
      have HE2 : Hid (RR = 4) := by show _ = _; rw [HE.out, hmu]; rfl
      clear hmu hL4 hB13 hB14 H4 HE HWr
      go_wp2
      go_ret
      exact ⟨by rw [HE2.out]; rfl, HB4.out⟩
    | false =>
      have HE2 : Hid (RR = wrongX p told M (n + 1) (.mk (fn, fargs) rl kids)) := by show _ = _; rw [HE.out, hmu]; rfl
      have H5 := hide (HWr.out M (.slice aa M.length ac) w4 HM.out HB4.out (HF3.out.later hL4))
      obtain ⟨y0, y1, y2, y3⟩ := HC.out w4 hB14
      clear hmu hL4 hB13 hB14 H4 HE HWr
      generalize wrongX p told M (n + 1) (.mk (fn, fargs) rl kids) = WX at *
      go_wp2_with fail
      refine H5.out.mono ?_
      rintro e w5 ⟨rfl, hL5⟩
      have HB5 := hide (below_trans HB4.out hL5.below HB4.out.size)
      clear hL5 H5 y0 y1 y2 y3
      go_wp2
      go_ret
      exact ⟨by rw [HE2.out]; rfl, HB5.out⟩
  · have hq : (er2 != 0) = true := by simpa using h0
    have HE : Hid (RR = er2) := by show _ = _; rw [HRR.out, if_pos h0]
    obtain rfl := hT0 h0
    clear hT0 hT1 HRR HMe HWr HAl h0 hB2 hB2'
    go_wp2
    go_ret
    exact ⟨by rw [HE.out]; rfl, HB2.out⟩

set_option maxRecDepth 100000 in
set_option maxHeartbeats 2000000 in
theorem sizeC (n : Nat) (x : PrfD) (xv : Value) (w : World) (hx : PrfV n Anyw w xv x) (hn : cnt (n + 1) x ≤ 4000000) (hnn : n ≤ 4000000) :
    Calls Tryz.prog 7 #[xv] w fun e w' => e = .returned (.tuple #[.int .i64 (measGo (fun _ => false) (n + 2) [x] (0, 0)).1, .int .i64 (measGo (fun _ => false) (n + 2) [x] (0, 0)).2]) ∧ Below w.heap.size w w' := by
  have hxv := hx
  obtain ⟨s, kv, rfl, hs, hkv⟩ := hx
  obtain ⟨sa, sc, rfl⟩ := Kind.slice hs
  obtain ⟨ka, kc, rfl⟩ := Kind.slice hkv
  obtain ⟨w1, hw1⟩ : ∃ w1, w1 = w.alloc (.cells #[.string x.fact.1, .slice sa x.fact.2.length sc, .int .i64 x.rule, .slice ka x.kids.length kc] 30) := ⟨_, rfl⟩
  have hL1 : Later w w1 := by rw [hw1]; exact (Later.refl w).alloc _
  have hr1 : w1.heap[w.heap.size]? = some (.cells #[.string x.fact.1, .slice sa x.fact.2.length sc, .int .i64 x.rule, .slice ka x.kids.length kc] 30 (0, 0)) := by rw [hw1]; exact heap_alloc_new w _
  have y0 : w1.cell? ⟨w.heap.size, 0, none⟩ = some (.string x.fact.1) := by rw [cell_of_row _ _ _ _ _ _ hr1]; rfl
  have y1 : w1.cell? ⟨w.heap.size, 0 + 1, none⟩ = some (.slice sa x.fact.2.length sc) := by rw [cell_of_row _ _ _ _ _ _ hr1]; rfl
  have y2 : w1.cell? ⟨w.heap.size, 0 + 2, none⟩ = some (.int .i64 x.rule) := by rw [cell_of_row _ _ _ _ _ _ hr1]; rfl
  have y3 : w1.cell? ⟨w.heap.size, 0 + 3, none⟩ = some (.slice ka x.kids.length kc) := by rw [cell_of_row _ _ _ _ _ _ hr1]; rfl
  have HMe := hide (measureC x n 20 (fun _ => false) _ w1 (hxv.below hL1.below) hn hnn (fun _ _ => rfl) sizeNo)
  obtain ⟨mc, md, hms⟩ : ∃ a b, measGo (fun _ => false) (n + 2) [x] (0, 0) = (a, b) := ⟨_, _, rfl⟩
  rw [hms] at HMe ⊢
  have HL1 := hide hL1
  have HW1 := hide hw1
  dsimp only at HMe ⊢
  clear hxv hs hkv hn hL1 hr1 hw1 hms
  obtain ⟨⟨fn, fargs⟩, rl, kids⟩ := x
  dsimp only [PrfD.fact, PrfD.rule, PrfD.kids] at *
  go_enter Tryz.func7, Tryz.ntmps7
  go_wp2_with (first | (rw [← HW1.out]) | fail)
  refine HMe.out.mono ?_
  rintro e w2 ⟨rfl, hB2⟩
  have HB2 := hide (below_trans HL1.out.below hB2 HL1.out.size)
  clear hB2 HMe y0 y1 y2 y3
  go_wp2
  go_quiet (fail)
  go_wp2
  exact bodyPost_ret (v := .tuple #[.int .i64 mc, .int .i64 md]) (by simp [results, Tryz.results7, go_sem]) rfl ⟨rfl, below_drewN (HB2.out.alloc HB2.out.size _) _⟩

end Go.Proofs.YtkihcabplbbjcaaGreatDoor

/- The walk of proof.filled. -/
namespace Go.Proofs.YtkihcabplbbjcaaGreatDoor
open Go.RowKit Go.Sort

theorem filledL_step {body : List AtomD} {l : List BindD} {j : Nat} {a : AtomD} (h : body[j]? = some a) : filledL (body.take (j + 1)) l = filledL (body.take j) l ++ (if a.no then [] else (fillB a l).toList) := by
  unfold filledL
  rw [List.take_add_one, h, List.filterMap_append]
  congr 1
  simp only [Option.toList, List.filterMap_cons, List.filterMap_nil]
  cases a.no with
  | true => rfl
  | false =>
    simp only [Bool.false_eq_true, if_false]
    cases fillB a l <;> rfl

theorem filledL_len (body : List AtomD) (l : List BindD) : (filledL body l).length ≤ body.length := List.length_filterMap_le _ _

set_option maxRecDepth 100000 in
set_option maxHeartbeats 4000000 in
theorem filledP (body : List AtomD) (l : List BindD) (bv lv : Value) (w : World) (hb : atomK.sl Anyw w bv body) (hl : bindK.sl Anyw w lv l) (h5 : body.length ≤ 1000) :
    Calls Tryz.prog 144 #[bv, lv] w fun e w' => ∃ v', e = .returned v' ∧ OwnF w' w.heap.size v' (filledL body l) ∧ Later w w' := by
  obtain ⟨ba, bc, rfl⟩ := Kind.slice hb
  obtain ⟨la, lc, rfl⟩ := Kind.slice hl
  have HB := hide hb
  have HL := hide hl
  clear hb hl
  go_enter Tryz.func144, Tryz.ntmps144
  go_wp2
  go_loopg [5, 12] body.length (fun g o i wr => ∃ j : Nat, j + g = body.length ∧ i = .int .i64 j ∧ Hid (OwnF wr w.heap.size o (filledL (body.take j) l)) ∧ Hid (Later w wr))
  case atStart => exact ⟨0, by omega, rfl, (by rw [List.take_zero]; exact OwnF.nil _ _ : OwnF _ _ _ _), Later.refl _⟩
  case round =>
    obtain ⟨j, hj, rfl, HO, HW⟩ := hrel
    have hol := filledL_len (body.take j) l
    rw [List.length_take] at hol
    obtain ⟨oa, on, oc, rfl⟩ : ∃ a n c, u5 = .slice a n c := by obtain ⟨a, c, e⟩ := sliceFacts (HO.out.facts (by omega)); exact ⟨a, _, c, e⟩
    by_cases hlt : j < body.length
    · obtain ⟨a, ha⟩ : ∃ a, body[j]? = some a := ⟨_, List.getElem?_eq_getElem hlt⟩
      obtain ⟨b1, o1, _, e1, hb1, ⟨xv, hce, htv⟩, hc⟩ := Kind.sl_at HB.out ha
      subst e1
      subst hce
      have d0 : wr.cell? ⟨b1, o1 + j * 3, none⟩ = some (.bool a.no) := by rw [HW.out.cell (p := ⟨b1, o1 + j * 3, none⟩) hb1]; simpa [atomK] using hc 0 _ rfl
      have d1 : wr.cell? ⟨b1, o1 + j * 3 + 1, none⟩ = some (.string (bs a.name)) := by rw [HW.out.cell (p := ⟨b1, o1 + j * 3 + 1, none⟩) hb1]; simpa [atomK] using hc 1 _ rfl
      have d2 : wr.cell? ⟨b1, o1 + j * 3 + 2, none⟩ = some xv := by rw [HW.out.cell (p := ⟨b1, o1 + j * 3 + 2, none⟩) hb1]; simpa [atomK] using hc 2 _ rfl
      obtain ⟨xa, xc, rfl⟩ := Kind.slice htv
      have hst := filledL_step (l := l) ha
      obtain ⟨wa, hwa⟩ : ∃ wa, wa = wr.alloc (.cells #[.bool a.no, .string (bs a.name), .slice xa a.terms.length xc] 90) := ⟨_, rfl⟩
      have hLa : Later wr wa := by rw [hwa]; exact (Later.refl wr).alloc _
      have hRa : wa.heap[wr.heap.size]? = some (.cells #[.bool a.no, .string (bs a.name), .slice xa a.terms.length xc] 90 (0, 0)) := by rw [hwa]; exact heap_alloc_new wr _
      obtain ⟨c0, c1, c2, hla⟩ := row3m hRa
      have c1' : wa.cell? ⟨wr.heap.size, 0 + 1, none⟩ = some (.string (bs a.name)) := c1
      have c2' : wa.cell? ⟨wr.heap.size, 0 + 2, none⟩ = some (.slice xa a.terms.length xc) := c2
      have hLA := HW.out.trans hLa
      have HFi := hide (fillL a (.slice xa a.terms.length xc) (.slice la l.length lc) l wa (Kind.sl_later htv hLA) (Kind.sl_later HL.out hLA))
      have HLa := hide hLA
      have HLr := hide hLa
      have HRa := hide hRa
      have HWa := hide hwa
      have hszw := HW.out.size
      obtain ⟨ok, hok⟩ : ∃ ok, ok = (fillB a l).isSome := ⟨_, rfl⟩
      rw [← hok] at HFi
      have HOk := hide hok
      have HSt := hide hst
      clear hc ha htv hwa hLa hRa hLA hok hst
      generalize bs a.name = nm at *
      go_wp2_with (first | (rw [← HWa.out]) | fail)
      refine HFi.out.mono ?_
      rintro e w2 ⟨v2, rfl, hfv, hL2, hFar⟩
      obtain ⟨s2, rfl, hs2⟩ := hfv
      obtain ⟨ya, yc, rfl⟩ := sliceStr hs2
      obtain ⟨fn, fargs, hfl⟩ : ∃ fn fargs, filled a l = (fn, fargs) := ⟨_, _, rfl⟩
      rw [hfl] at hs2
      rw [hfl] at hFar
      dsimp only at hs2 hFar
      simp only [hfl]
      obtain ⟨wf, hwf⟩ : ∃ wf, wf = w2.alloc (.cells #[.string fn, .slice ya fargs.length yc] 27) := ⟨_, rfl⟩
      have hLf : Later w2 wf := by rw [hwf]; exact (Later.refl w2).alloc _
      have hRf : wf.heap[w2.heap.size]? = some (.cells #[.string fn, .slice ya fargs.length yc] 27 (0, 0)) := by rw [hwf]; exact heap_alloc_new w2 _
      have hraf := ((hL2.trans hLf).block hla).trans HRa.out
      have f0 : wf.cell? ⟨w2.heap.size, 0, none⟩ = some (.string fn) := by rw [cell_of_row _ _ _ _ _ _ hRf]; rfl
      have f1 : wf.cell? ⟨w2.heap.size, 0 + 1, none⟩ = some (.slice ya fargs.length yc) := by rw [cell_of_row _ _ _ _ _ _ hRf]; rfl
      have g0 : wf.cell? ⟨wr.heap.size, 0, none⟩ = some (.bool a.no) := by rw [cell_of_row _ _ _ _ _ _ hraf]; rfl
      have HLF := hide (HLa.out.trans (hL2.trans hLf))
      have HOf := hide (HO.out.later (HLr.out.trans (hL2.trans hLf)))
      have hSf := hs2.later hLf
      have HWf := hide hwf
      obtain ⟨n', s', ee, hfar⟩ := hFar
      simp only [Value.agg.injEq, Array.mk.injEq, List.cons.injEq, and_true] at ee
      obtain ⟨rfl, rfl⟩ := ee
      have hszr := HLr.out.size
      have hszf := hLf.size
      have hszF := HLF.out.size
      have hfar' : ∀ k, (Value.slice ya fargs.length yc).ownBlock = some k → w.heap.size ≤ k ∧ k < wf.heap.size ∧ (Value.slice oa on oc).ownBlock ≠ some k := fun k hk => by
        obtain ⟨q1, q2⟩ := hfar k hk
        refine ⟨by omega, by omega, fun e => ?_⟩
        obtain ⟨xs, hown, _⟩ := HO.out
        have := (hown.lt k e).2
        omega
      clear hs2 hL2 hwf hLf hRf hraf HFi hfar d0 d1 d2 c0 c1 c2 c1' c2' HO HLr HWa HRa hla
      cases ok with
      | false =>
        have hno : fillB a l = none := by
          have := HOk.out
          cases h : fillB a l with
          | none => rfl
          | some f => rw [h] at this; cases this
        have HO2 : Hid (OwnF wf w.heap.size (.slice oa on oc) (filledL (body.take (j + 1)) l)) := by
          show OwnF _ _ _ _
          rw [HSt.out, hno]
          simpa using HOf.out
        clear HOf HSt HOk hno hSf hfar' hfl
        go_wp2_with (rw [← HWf.out])
        go_roundg (body.length - (j + 1))
        case measure => omega
        case rel => exact ⟨j + 1, by omega, by go_num, HO2, HLF⟩
      | true =>
        have hso : fillB a l = some (fn, fargs) := by
          have := HOk.out
          cases h : fillB a l with
          | none => rw [h] at this; cases this
          | some f =>
            unfold filled at hfl
            rw [h] at hfl
            exact congrArg some hfl
        cases hno : a.no with
        | true =>
          have HO2 : Hid (OwnF wf w.heap.size (.slice oa on oc) (filledL (body.take (j + 1)) l)) := by
            show OwnF _ _ _ _
            rw [HSt.out, hno]
            simpa using HOf.out
          rw [hno] at g0
          clear HOf HSt HOk hno hSf hfar' hfl hso
          go_wp2_with (rw [← HWf.out])
          go_roundg (body.length - (j + 1))
          case measure => omega
          case rel => exact ⟨j + 1, by omega, by go_num, HO2, HLF⟩
        | false =>
          obtain ⟨v6, w6, hrun, hO6, hg6, hd6⟩ := OwnF.append HOf.out (fn, fargs) (.slice ya fargs.length yc) hSf hfar' (by omega) (by omega) rfl
          have hL6 := HLF.out.more hg6 hd6 fun k e => by
            obtain ⟨xs, hown, _⟩ := HOf.out
            exact (hown.lt k e).1
          obtain ⟨a6, n6, c6, rfl⟩ : ∃ a n c, v6 = .slice a n c := by obtain ⟨a, c, e⟩ := sliceFacts (hO6.facts (by simp; omega)); exact ⟨a, _, c, e⟩
          have HO6 : Hid (OwnF w6 w.heap.size (.slice a6 n6 c6) (filledL (body.take (j + 1)) l)) := by
            show OwnF _ _ _ _
            rw [HSt.out, hno, hso]
            exact hO6
          have HL6 := hide hL6
          have HRn := hide hrun
          rw [hno] at g0
          clear HOf HSt HOk hno hSf hfar' hfl hso hrun hO6 hg6 hd6 hL6
          go_wp2_with (first | (rw [← HWf.out]) | (at_builtin; refine wpList_append_run rfl (.tmp 28) (.tmp 30) 24 rfl _ _ _ _ rfl rfl HRn.out ?_))
          go_roundg (body.length - (j + 1))
          case measure => omega
          case rel => exact ⟨j + 1, by omega, by go_num, HO6, HL6⟩
    · have HO2 : Hid (OwnF wr w.heap.size (.slice oa on oc) (filledL body l)) := by have := HO.out; rw [List.take_of_length_le (by omega)] at this; exact this
      go_wp2
      go_ret
      exact ⟨_, rfl, HO2.out, HW.out⟩

end Go.Proofs.YtkihcabplbbjcaaGreatDoor

/- append of many elements onto a row of a call's own. -/
namespace Go.Proofs.YtkihcabplbbjcaaGreatDoor
open Go.RowKit Go.Sort

theorem flat_get {size : Nat} : ∀ (cs : List (List Value)), (∀ c ∈ cs, c.length = size) → ∀ i c j, cs[i]? = some c → j < size → cs.flatten[i * size + j]? = c[j]?
  | [], _, i, c, j, h, _ => by simp at h
  | d :: cs, hl, i, c, j, h, hj => by
    have hd : d.length = size := hl d (by simp)
    cases i with
    | zero =>
      simp at h; subst h
      rw [List.flatten_cons, Nat.zero_mul, Nat.zero_add, List.getElem?_append_left (by omega)]
    | succ i =>
      have ih := flat_get cs (fun c hc => hl c (by simp [hc])) i c j (by simpa using h) hj
      rw [List.flatten_cons, List.getElem?_append_right (by rw [Nat.add_mul]; omega), show (i + 1) * size + j - d.length = i * size + j by rw [Nat.add_mul]; omega]
      exact ih

theorem flat_len {size : Nat} : ∀ (cs : List (List Value)), (∀ c ∈ cs, c.length = size) → cs.flatten.length = cs.length * size
  | [], _ => by simp
  | d :: cs, hl => by
    have := flat_len cs (fun c hc => hl c (by simp [hc]))
    have hd : d.length = size := hl d (by simp)
    rw [List.flatten_cons, List.length_append, this, hd, List.length_cons, Nat.add_mul]; omega

theorem Kind.sl_cells {α : Type} {K : Kind α} {B : Nat → Prop} {w : World} {a : Addr} {n cap : Nat} {m : List α} (h : K.sl B w (.slice (some a) n cap) m) (hsz : 0 < K.size) :
    ∃ cs : List (List Value), cs.length = m.length ∧ (∀ c ∈ cs, c.length = K.size) ∧ (∀ c ∈ cs, ∀ u ∈ c, u.oneCell' = true) ∧ (∀ (j : Nat) (u : Value), cs.flatten[j]? = some u → w.cell? (a.add j) = some u) ∧ ∀ (i : Nat) (c : List Value) (x : α), cs[i]? = some c → m[i]? = some x → K.is B w c x := by
  by_cases hm : m = []
  · subst hm
    exact ⟨[], rfl, by simp, by simp, by simp, fun i c x h => by simp at h⟩
  obtain ⟨_, a', cap', e, h1⟩ := h
  simp only [Value.slice.injEq] at e
  obtain ⟨rfl, _, _⟩ := e
  obtain ⟨b, off, e, _, hb, hc⟩ := h1 hm
  simp only [Option.some.injEq] at e
  subst e
  have key : ∀ i : Fin m.length, ∃ c, K.is B w c m[i.1] ∧ ∀ j u, c[j]? = some u → w.cell? ⟨b, off + i.1 * K.size + j, none⟩ = some u := fun i => hc i.1 _ (List.getElem?_eq_getElem i.2)
  have get : ∀ i, (List.ofFn fun i : Fin m.length => Classical.choose (key i))[i]? = if h : i < m.length then some (Classical.choose (key ⟨i, h⟩)) else none := fun i => by rw [List.getElem?_ofFn]
  have hl : ∀ c ∈ List.ofFn fun i : Fin m.length => Classical.choose (key i), c.length = K.size := fun c hc => by
    rw [List.mem_ofFn] at hc
    obtain ⟨i, rfl⟩ := hc
    exact K.len (Classical.choose_spec (key i)).1
  refine ⟨List.ofFn fun i : Fin m.length => Classical.choose (key i), by simp, hl, fun c hc => ?_, fun j u hu => ?_, fun i c x hi hx => ?_⟩
  · rw [List.mem_ofFn] at hc
    obtain ⟨i, rfl⟩ := hc
    exact K.one (Classical.choose_spec (key i)).1
  · have hj := (List.getElem?_eq_some_iff.1 hu).1
    rw [flat_len _ hl, List.length_ofFn] at hj
    have hq : j / K.size < m.length := (Nat.div_lt_iff_lt_mul hsz).2 hj
    have hr : j % K.size < K.size := Nat.mod_lt _ hsz
    have hjq : j / K.size * K.size + j % K.size = j := by rw [Nat.mul_comm]; exact Nat.div_add_mod j K.size
    have hg := get (j / K.size)
    rw [dif_pos hq] at hg
    have := flat_get _ hl _ _ (j % K.size) hg hr
    rw [hjq, hu] at this
    have hcell := (Classical.choose_spec (key ⟨j / K.size, hq⟩)).2 _ u this.symm
    rw [Addr.add_lit]
    rw [show off + j / K.size * K.size + j % K.size = off + j by omega] at hcell
    exact hcell
  · rw [get] at hi
    split at hi
    · rename_i h
      rw [List.getElem?_eq_getElem h] at hx
      cases hi; cases hx
      exact (Classical.choose_spec (key ⟨i, h⟩)).1
    · cases hi

/-- append of a slice of such elements onto such a row. -/
theorem Kind.own_appends {α : Type} {P : Program} {K : Kind α} {t ty e' : TypeId} {lo bytes : Nat} {w : World} {v : Value} {l m : List α} {a : Option Addr} {cap : Nat} (h : K.own ty lo w v l) {i : TypeInfo} {z : Value}
    (ht : P.underlying t = some (.slice ty)) (hi : P.info? ty = some i) (hz : i.zero = some z) (hsize : i.size = K.size) (hby : i.bytes = bytes) (hzs : z.cells.size = K.size) (hsz : 0 < K.size) (hb : bytes ≤ 100)
    (hs : K.sl (fun k => lo ≤ k ∧ v.ownBlock ≠ some k) w (.slice a m.length cap) m) (hl : l.length + m.length ≤ 1099511627776) (hlo : lo ≤ w.heap.size) (_ : e' = t) :
    ∃ v' w', (Builtin.append_ #[t, t] t #[v, .slice a m.length cap]).run P w = .ok v' w' ∧ K.own ty lo w' v' (l ++ m) ∧ w.grownBy w' v.ownBlock ∧ ∀ k, v'.ownBlock = some k → v.ownBlock = some k ∨ w.heap.size ≤ k := by
  cases a with
  | none =>
    have hm : m = [] := by
      refine Classical.byContradiction fun hne => ?_
      obtain ⟨_, a', _, e, h1⟩ := hs
      simp only [Value.slice.injEq] at e
      obtain ⟨b, off, e', _⟩ := h1 hne
      rw [e'] at e; cases e.1
    subst hm
    refine ⟨v, w, ?_, by rw [List.append_nil]; exact h, ⟨rfl, rfl, rfl, Nat.le_refl _, fun _ _ _ => rfl⟩, fun k hk => Or.inl hk⟩
    obtain ⟨xs, ho, _⟩ := h
    rcases ho.2 with ⟨rfl, e0⟩ | ⟨g, c, cur, rfl, _, _, hnc, _⟩
    · simp [Builtin.append_, run_underlying ht, sizeOf, typeInfo, hi, Builtin.lenOf, Builtin.firstCells]
    · simp [Builtin.append_, run_underlying ht, sizeOf, typeInfo, hi, Builtin.lenOf, Builtin.firstCells, hnc, storeCells]
  | some a =>
    obtain ⟨cs, cl, clen, cone, ccell, cis⟩ := Kind.sl_cells hs hsz
    obtain ⟨xs, ho, hx⟩ := h
    have hxl : xs.length = l.length * K.size := ho.1
    obtain ⟨v', w', hrun, r1, r2, r3, r4⟩ := append_own (P := P) w lo t t ty i z K.size bytes ht hi hz hsize hby hzs hsz v l.length xs ho a m.length cap cs.flatten (by rw [flat_len _ clen, cl]) ccell
      (fun u hu => by rw [List.mem_flatten] at hu; obtain ⟨c, hc, hu⟩ := hu; exact cone c hc u hu) (by simp only [maxLen]; omega) (Nat.le_trans (Nat.mul_le_mul hl hb) (by omega)) hlo
    have own' : ∀ k, k < w.heap.size → v'.ownBlock = some k → v.ownBlock = some k := fun k hk e => (r4 k e).elim id fun h => by omega
    have keep : ∀ k, k < w.heap.size → (lo ≤ k ∧ v.ownBlock ≠ some k) → w'.heap[k]? = w.heap[k]? := fun k hk hB => r2.block k hk (fun e => hB.2 e.symm)
    have move : ∀ {c : List Value} {y : α}, K.is (fun k => lo ≤ k ∧ v.ownBlock ≠ some k) w c y → K.is (fun k => lo ≤ k ∧ v'.ownBlock ≠ some k) w' c y := fun {c y} hy =>
      K.kept (K.mono hy fun k hk hB => (⟨⟨hB.1, fun e => hB.2 (own' k hk e)⟩, hB⟩ : (lo ≤ k ∧ v'.ownBlock ≠ some k) ∧ (lo ≤ k ∧ v.ownBlock ≠ some k))) r2.size (fun k hk hB => keep k hk hB.2) |> fun h => K.mono h fun _ _ hB => hB.1
    refine ⟨v', w', hrun, ⟨xs ++ cs.flatten, by rw [List.length_append]; exact r1, fun j y hj => ?_⟩, r2, r4⟩
    by_cases hjl : j < l.length
    · rw [List.getElem?_append_left hjl] at hj
      obtain ⟨d, d1, d2⟩ := hx j y hj
      refine ⟨d, move d1, fun q u hu => ?_⟩
      have := d2 q u hu
      rw [List.getElem?_append_left (List.getElem?_eq_some_iff.1 this).1]; exact this
    · rw [List.getElem?_append_right (by omega)] at hj
      have hjm := (List.getElem?_eq_some_iff.1 hj).1
      have hc : cs[j - l.length]? = some (cs[j - l.length]'(by omega)) := List.getElem?_eq_getElem (by omega)
      refine ⟨_, move (cis _ _ y hc hj), fun q u hu => ?_⟩
      have hq : q < K.size := by rw [← clen _ (List.getElem_mem (by omega : j - l.length < cs.length))]; exact (List.getElem?_eq_some_iff.1 hu).1
      have := flat_get cs clen _ _ q hc hq
      rw [List.getElem?_append_right (by rw [hxl]; have := Nat.mul_le_mul_right K.size (Nat.le_of_not_lt hjl); omega), hxl,
        show j * K.size + q - l.length * K.size = (j - l.length) * K.size + q by rw [Nat.sub_mul]; have := Nat.mul_le_mul_right K.size (Nat.le_of_not_lt hjl); omega, this]
      exact hu

end Go.Proofs.YtkihcabplbbjcaaGreatDoor

/- The walks of slices.Clone at atoms, terms and texts; rows that are written into (written by mkpg.py). -/
namespace Go.Proofs.YtkihcabplbbjcaaGreatDoor
open Go.RowKit Go.Sort

theorem own_fresh {α : Type} (K : Kind α) (ty : TypeId) (w : World) : K.own ty 0 (w.alloc (.cells #[] ty)) (.slice (some ⟨w.heap.size, 0, none⟩) 0 0) [] :=
  ⟨[], ⟨by simp, Or.inr ⟨w.heap.size, 0, #[], rfl, Nat.zero_le _, heap_alloc_new _ _, by simp, by simp [maxLen], by simp, by simp⟩⟩, fun i x hi => by simp at hi⟩

/-- One cell of a row of a call's own is written. -/
theorem own_put {α : Type} {K : Kind α} {ty : TypeId} {lo g i q : Nat} {w : World} {v u : Value} {l : List α} {x x' : α} (h : K.own ty lo w v l) (hv : v.ownBlock = some g) (hi : l[i]? = some x) (hq : q < K.size)
    (hset : ∀ c, K.is (fun k => lo ≤ k ∧ v.ownBlock ≠ some k) w c x → K.is (fun k => lo ≤ k ∧ v.ownBlock ≠ some k) w (c.set q u) x') : K.own ty lo (w.setCell ⟨g, i * K.size + q, none⟩ u) v (l.set i x') := by
  obtain ⟨xs, ho, hx⟩ := h
  have hil := (List.getElem?_eq_some_iff.1 hi).1
  rcases ho.2 with ⟨rfl, e⟩ | ⟨g', cap, cur, rfl, hbg, hg, hnc, hcm, hcs, htk⟩
  · omega
  · obtain rfl : g' = g := by simpa [Value.ownBlock] using hv
    have hkept : ∀ {c : List Value} {y : α}, K.is (fun k => lo ≤ k ∧ (Value.slice (some ⟨g', 0, none⟩) l.length cap).ownBlock ≠ some k) w c y → K.is (fun k => lo ≤ k ∧ (Value.slice (some ⟨g', 0, none⟩) l.length cap).ownBlock ≠ some k) (w.setCell ⟨g', i * K.size + q, none⟩ u) c y := fun {c y} hc =>
      K.kept hc (by rw [size_setCell]; exact Nat.le_refl _) fun k _ hB => heap_setCell_other _ _ _ (by intro e; exact hB.2 (by simp [Value.ownBlock]; exact e.symm))
    refine ⟨xs.set (i * K.size + q) u, ⟨by rw [List.length_set, List.length_set]; exact ho.1, Or.inr ⟨g', cap, cur.setIfInBounds (i * K.size + q) u, by rw [List.length_set], hbg, set_at hg u, by rw [List.length_set]; exact hnc, hcm, by rw [Array.size_setIfInBounds]; exact hcs, ?_⟩⟩, fun t y ht => ?_⟩
    · rw [List.length_set, Array.toList_setIfInBounds, List.take_set, htk]
    · by_cases e : t = i
      · subst e
        rw [List.getElem?_set_self (by omega)] at ht
        cases ht
        obtain ⟨c, c1, c2⟩ := hx t x hi
        have hcl := K.len c1
        refine ⟨c.set q u, hkept (hset c c1), fun j z hz => ?_⟩
        have hxl : t * K.size + q < xs.length := by
          have h1 := c2 q (c[q]'(by omega)) (List.getElem?_eq_getElem (by omega))
          exact (List.getElem?_eq_some_iff.1 h1).1
        by_cases ej : j = q
        · subst ej
          rw [List.getElem?_set_self (by omega)] at hz
          rw [List.getElem?_set_self hxl]
          exact hz
        · rw [List.getElem?_set_ne (by omega)] at hz
          rw [List.getElem?_set_ne (by omega)]
          exact c2 j z hz
      · rw [List.getElem?_set_ne (fun h => e h.symm)] at ht
        obtain ⟨c, c1, c2⟩ := hx t y ht
        have hcl := K.len c1
        refine ⟨c, hkept c1, fun j z hz => ?_⟩
        have hj : j < K.size := by rw [← hcl]; exact (List.getElem?_eq_some_iff.1 hz).1
        have hne : i * K.size + q ≠ t * K.size + j := fun he => by
          rcases Nat.lt_or_gt_of_ne e with h1 | h1
          · have := Nat.mul_le_mul_right K.size (show t + 1 ≤ i from h1)
            rw [Nat.add_mul] at this
            omega
          · have := Nat.mul_le_mul_right K.size (show i + 1 ≤ t from h1)
            rw [Nat.add_mul] at this
            omega
        rw [List.getElem?_set_ne hne]
        exact c2 j z hz

theorem frozen_row7 {w : World} {g j : Nat} {cs : Array Value} {t : TypeId} (h : w.heap[g]? = some (.cells cs t (0, 0))) : w.frozen? ⟨g, j, none⟩ = false := by simp [World.frozen?, h]

/-- A cell of such a row, and that it may be written. -/
theorem own_at {α : Type} {K : Kind α} {ty : TypeId} {lo : Nat} {w : World} {v : Value} {l : List α} {i : Nat} {x : α} (h : K.own ty lo w v l) (hi : l[i]? = some x) : ∃ g cap cs, v = .slice (some ⟨g, 0, none⟩) l.length cap ∧ g < w.heap.size ∧ l.length ≤ cap ∧ K.is (fun k => lo ≤ k ∧ v.ownBlock ≠ some k) w cs x ∧ (∀ j u, cs[j]? = some u → w.cell? ⟨g, i * K.size + j, none⟩ = some u ∧ w.frozen? ⟨g, i * K.size + j, none⟩ = false) := by
  obtain ⟨xs, ho, hx⟩ := h
  obtain ⟨c, c1, c2⟩ := hx i x hi
  have hil := (List.getElem?_eq_some_iff.1 hi).1
  rcases ho.2 with ⟨rfl, e⟩ | ⟨g, cap, cur, rfl, hbg, hg, hnc, hcm, hcs, htk⟩
  · omega
  · refine ⟨g, cap, c, rfl, (Array.getElem?_eq_some_iff.1 hg).1, hnc, c1, fun j u hu => ⟨?_, ?_⟩⟩
    · have := ho.cells (g := g) rfl _ u (c2 j u hu)
      rw [Addr.add_lit] at this
      simpa using this
    · exact frozen_row7 hg

theorem infoAtom7 : ∃ i z, Tryz.prog.info? 90 = some i ∧ i.zero = some z ∧ i.size = atomK.size ∧ i.bytes = 48 ∧ z.cells.size = atomK.size := ⟨Tryz.t90, .agg #[.bool false, .string ByteArray.empty, .slice none 0 0], by kernel_rfl, by kernel_rfl, by kernel_rfl, by kernel_rfl, by kernel_rfl⟩

set_option maxHeartbeats 1000000 in
theorem cloneAtoms (l : List AtomD) (v : Value) (w : World) (h : atomK.sl Anyw w v l) (hl : l.length ≤ 1099511627776) :
    Calls Tryz.prog 169 #[v] w fun e w' => ∃ v', e = .returned v' ∧ atomK.own 90 0 w' v' l ∧ (∀ k, v'.ownBlock = some k → w.heap.size ≤ k) ∧ Below w.heap.size w w' := by
  obtain ⟨a, cap, rfl⟩ := Kind.slice h
  obtain ⟨i, z, i1, i2, i3, i4, i5⟩ := infoAtom7
  cases a with
  | none =>
    have hl0 : l = [] := by
      refine Classical.byContradiction fun hne => ?_
      obtain ⟨_, a', cap', e, h1⟩ := h
      simp only [Value.slice.injEq] at e
      obtain ⟨rfl, _, _⟩ := e
      obtain ⟨b, off, e, _⟩ := h1 hne
      cases e
    subst hl0
    have hnil := fun w => Lib.run_eql_slice_nil (P := Tryz.prog) w 91 90 none 0 cap 0 0 Tryz.underlying91
    clear h hl
    simp only [List.length_nil]
    go_enter Tryz.func169, Tryz.ntmps169
    go_wp2
    go_ret
    exact ⟨_, rfl, atomK.own_nil _ _ _, fun k e => (by cases e), Below.refl _ _⟩
  | some b =>
    have hnil := fun w => Lib.run_eql_slice_nil (P := Tryz.prog) w 91 90 (some b) l.length cap 0 0 Tryz.underlying91
    have h0 : atomK.own 90 0 (w.alloc (.cells #[] 90)) (.slice (some ⟨w.heap.size, 0, none⟩) 0 0) [] := own_fresh atomK 90 w
    have hs : atomK.sl (fun k => 0 ≤ k ∧ (Value.slice (some ⟨w.heap.size, 0, none⟩) 0 0).ownBlock ≠ some k) (w.alloc (.cells #[] 90)) (.slice (some b) l.length cap) l :=
      Kind.sl_kept (Kind.sl_mono h fun k hk _ => ⟨Nat.zero_le _, by simp [Value.ownBlock]; omega⟩) (by simp) fun k hk _ => Below.heap_alloc w _ k hk
    obtain ⟨v', w', hrun, hR, hg, hk⟩ := Kind.own_appends (P := Tryz.prog) (e' := 91) h0 Tryz.underlying91 i1 i2 i3 i4 i5 (by decide) (by decide) hs (by simpa using hl) (Nat.zero_le _) rfl
    have HB : Hid (Below w.heap.size w w') := (((Later.refl w).alloc (.cells #[] 90)).below).grown hg (by simp) (fun k e => by simp [Value.ownBlock] at e; omega)
    have HK : Hid (∀ k, v'.ownBlock = some k → w.heap.size ≤ k) := fun k e => by
      rcases hk k e with h1 | h1
      · simp [Value.ownBlock] at h1; omega
      · simp at h1; omega
    have HR := hide hrun
    have HF := hide hR
    clear hrun hR hg hk h0 hs h
    go_enter Tryz.func169, Tryz.ntmps169
    go_wp2_with (at_builtin; refine wpList_append_run rfl (.tmp 5) (.tmp 6) 91 rfl _ _ _ _ rfl rfl HR.out ?_)
    go_ret
    exact ⟨v', rfl, by simpa using HF.out, HK.out, HB.out⟩

theorem infoTerm7 : ∃ i z, Tryz.prog.info? 110 = some i ∧ i.zero = some z ∧ i.size = termK.size ∧ i.bytes = 24 ∧ z.cells.size = termK.size := ⟨Tryz.t110, .agg #[.bool false, .string ByteArray.empty], by kernel_rfl, by kernel_rfl, by kernel_rfl, by kernel_rfl, by kernel_rfl⟩

set_option maxHeartbeats 1000000 in
theorem cloneTerms (l : List TermD) (v : Value) (w : World) (h : termK.sl Anyw w v l) (hl : l.length ≤ 1099511627776) :
    Calls Tryz.prog 170 #[v] w fun e w' => ∃ v', e = .returned v' ∧ termK.own 110 0 w' v' l ∧ (∀ k, v'.ownBlock = some k → w.heap.size ≤ k) ∧ Below w.heap.size w w' := by
  obtain ⟨a, cap, rfl⟩ := Kind.slice h
  obtain ⟨i, z, i1, i2, i3, i4, i5⟩ := infoTerm7
  cases a with
  | none =>
    have hl0 : l = [] := by
      refine Classical.byContradiction fun hne => ?_
      obtain ⟨_, a', cap', e, h1⟩ := h
      simp only [Value.slice.injEq] at e
      obtain ⟨rfl, _, _⟩ := e
      obtain ⟨b, off, e, _⟩ := h1 hne
      cases e
    subst hl0
    have hnil := fun w => Lib.run_eql_slice_nil (P := Tryz.prog) w 88 110 none 0 cap 0 0 Tryz.underlying88
    clear h hl
    simp only [List.length_nil]
    go_enter Tryz.func170, Tryz.ntmps170
    go_wp2
    go_ret
    exact ⟨_, rfl, termK.own_nil _ _ _, fun k e => (by cases e), Below.refl _ _⟩
  | some b =>
    have hnil := fun w => Lib.run_eql_slice_nil (P := Tryz.prog) w 88 110 (some b) l.length cap 0 0 Tryz.underlying88
    have h0 : termK.own 110 0 (w.alloc (.cells #[] 110)) (.slice (some ⟨w.heap.size, 0, none⟩) 0 0) [] := own_fresh termK 110 w
    have hs : termK.sl (fun k => 0 ≤ k ∧ (Value.slice (some ⟨w.heap.size, 0, none⟩) 0 0).ownBlock ≠ some k) (w.alloc (.cells #[] 110)) (.slice (some b) l.length cap) l :=
      Kind.sl_kept (Kind.sl_mono h fun k hk _ => ⟨Nat.zero_le _, by simp [Value.ownBlock]; omega⟩) (by simp) fun k hk _ => Below.heap_alloc w _ k hk
    obtain ⟨v', w', hrun, hR, hg, hk⟩ := Kind.own_appends (P := Tryz.prog) (e' := 88) h0 Tryz.underlying88 i1 i2 i3 i4 i5 (by decide) (by decide) hs (by simpa using hl) (Nat.zero_le _) rfl
    have HB : Hid (Below w.heap.size w w') := (((Later.refl w).alloc (.cells #[] 110)).below).grown hg (by simp) (fun k e => by simp [Value.ownBlock] at e; omega)
    have HK : Hid (∀ k, v'.ownBlock = some k → w.heap.size ≤ k) := fun k e => by
      rcases hk k e with h1 | h1
      · simp [Value.ownBlock] at h1; omega
      · simp at h1; omega
    have HR := hide hrun
    have HF := hide hR
    clear hrun hR hg hk h0 hs h
    go_enter Tryz.func170, Tryz.ntmps170
    go_wp2_with (at_builtin; refine wpList_append_run rfl (.tmp 5) (.tmp 6) 88 rfl _ _ _ _ rfl rfl HR.out ?_)
    go_ret
    exact ⟨v', rfl, by simpa using HF.out, HK.out, HB.out⟩

theorem infoStr7 : ∃ i z, Tryz.prog.info? 9 = some i ∧ i.zero = some z ∧ i.size = bsK.size ∧ i.bytes = 16 ∧ z.cells.size = bsK.size := ⟨Tryz.t9, .string ByteArray.empty, by kernel_rfl, by kernel_rfl, by kernel_rfl, by kernel_rfl, by kernel_rfl⟩

end Go.Proofs.YtkihcabplbbjcaaGreatDoor
