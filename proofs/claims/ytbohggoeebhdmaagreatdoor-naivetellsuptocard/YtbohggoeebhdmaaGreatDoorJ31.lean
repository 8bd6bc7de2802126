/- Texts of this claim, one behind the other. -/
import Derived.Test.YtbohggoeebhdmaaGreatDoorJ30
import Derived.Test.YtbohggoeebhdmaaGreatDoorJ2
import Derived.Test.YtbohggoeebhdmaaGreatDoorJ28
import Derived.DeepKeys4
/- The walk of the reference's WrongProgram (by mkcrg.py). -/
namespace Go.Proofs.YtbohggoeebhdmaaGreatDoor
open Go.RowKit Go.Sort Go.Maps

/-- What stands in a round of it: the answer's cells, the rule and its number in boxes, the map. -/
structure PB (w wr : World) (j : Int) (c0 c1 c2 c3 : Value) (n : Nat) (m : Nums) (w' : World) : Prop where
  below : Below w.heap.size w w'
  row : w'.heap[w.heap.size]? = some (.cells #[.int .i64 0, .int .i64 0] 27 (0, 0))
  i : w'.cell? ⟨wr.heap.size, 0, none⟩ = some (.int .i64 j)
  cells : w'.cell? ⟨wr.heap.size + 1, 0, none⟩ = some c0 ∧ w'.cell? ⟨wr.heap.size + 1, 1, none⟩ = some c1 ∧ w'.cell? ⟨wr.heap.size + 1, 2, none⟩ = some c2 ∧ w'.cell? ⟨wr.heap.size + 1, 3, none⟩ = some c3 ∧ wr.heap.size + 1 < w'.heap.size
  lo : w.heap.size + 2 ≤ wr.heap.size
  map : NumsM w' (w.heap.size + 1) n m

theorem PB.turned {w wr w1 w2 : World} {j : Int} {c0 c1 c2 c3 : Value} {n n' : Nat} {m m' : Nums} (h : PB w wr j c0 c1 c2 c3 n m w1) (k : Tn (w.heap.size + 1) w1 w2) (hm : NumsM w2 (w.heap.size + 1) n' m') : PB w wr j c0 c1 c2 c3 n' m' w2 := by
  have hl := h.cells.2.2.2.2
  have hlo := h.lo
  have e : ∀ q, w2.cell? ⟨wr.heap.size + 1, q, none⟩ = w1.cell? ⟨wr.heap.size + 1, q, none⟩ := fun q => k.cell (x := ⟨wr.heap.size + 1, q, none⟩) hl (by show wr.heap.size + 1 ≠ _; omega)
  refine ⟨below_trans h.below (k.below (n := w.heap.size) (by omega) (by have := h.below.size; omega)) (Nat.le_refl _), by rw [k.block _ (by omega) (by omega)]; exact h.row, ?_, ⟨by rw [e]; exact h.cells.1, by rw [e]; exact h.cells.2.1, by rw [e]; exact h.cells.2.2.1, by rw [e]; exact h.cells.2.2.2.1, Nat.lt_of_lt_of_le hl k.size⟩, hlo, hm⟩
  rw [k.cell (x := ⟨wr.heap.size, 0, none⟩) (by show wr.heap.size < _; omega) (by show wr.heap.size ≠ _; omega)]; exact h.i
theorem PB.below' {w wr w1 w2 : World} {j : Int} {c0 c1 c2 c3 : Value} {n : Nat} {m : Nums} (h : PB w wr j c0 c1 c2 c3 n m w1) (k : Below w1.heap.size w1 w2) : PB w wr j c0 c1 c2 c3 n m w2 := h.turned (Tn.of_below k) (h.map.below k)

/-- What is asked of texts' lengths. -/
def longR (r : RuleD) : Prop := longA r.head ∧ ∀ a ∈ r.body, longA a

set_option maxRecDepth 100000 in
set_option maxHeartbeats 8000000 in
theorem rWrongProgram (p : List RuleD) (v : Value) (w : World) (hv : ruleK.sl Anyw w v p) (hk : ∀ r ∈ p, longR r) :
    Calls Tryz.prog 9 #[v] w fun e w' => e = .returned (.agg #[.int .i64 (wrongP p).1, .int .i64 ((wrongP p).2 : Nat)]) ∧ Below w.heap.size w w' := by
  obtain ⟨sa, cap, rfl⟩ := Kind.slice hv
  have hl0 := hv.1.1
  have HV := hide hv
  have HK := hide hk
  clear hv hk
  by_cases h16 : 16 < p.length
  · have F : Hid (wrongP p = (5, 0)) := by show _ = _; unfold wrongP; rw [if_pos h16]
    go_enter Tryz.func9, Tryz.ntmps9
    go_wp2
    exact bodyPost_ret (v := .agg #[.int .i64 5, .int .i64 0]) (by simp [results, Tryz.results9, go_sem]) rfl ⟨by rw [F.out]; rfl, ((by repeat (first | exact Later.refl _ | assumption | refine Later.drewN ?_ _ | refine Later.drew ?_ | refine Later.alloc ?_ _ | refine Later.grow ?_ _)) : Later w _).below⟩
  · have F : Hid (wrongP p = wrongGo (fun _ => none) 0 p) := by show _ = _; unfold wrongP; rw [if_neg h16]
    have hmm := @run_makeMap Tryz.prog
    go_enter Tryz.func9, Tryz.ntmps9
    go_wp2
    go_loopg [20] p.length (fun k i wr => ∃ j : Nat, j + k = p.length ∧ i = .int .i64 j ∧ ∃ m, Hid (wrongP p = wrongGo m j (p.drop j)) ∧ Hid (NumsM wr (w.heap.size + 1) (6 * j) (more m)) ∧ Hid (Below w.heap.size w wr) ∧ Hid (wr.heap[w.heap.size]? = some (.cells #[.int .i64 0, .int .i64 0] 27 (0, 0))) ∧ w.heap.size + 2 ≤ wr.heap.size)
    case atStart =>
      refine ⟨0, by omega, rfl, fun _ => none, F.out, ?_, ?_, ?_, by simp⟩
      · have := NumM.made Tryz.prog 9 3 (w.alloc (.cells #[.int .i64 0, .int .i64 0] 27))
        rw [World.size_alloc] at this
        exact this
      · exact (((Later.refl w).alloc _).alloc _).below
      · show _ = _
        rw [Below.heap_alloc _ _ _ (by simp), heap_alloc_new]
    case round =>
      obtain ⟨j, hj, rfl, m, HE, HM, HB, HR, hsz⟩ := hrel
      by_cases hlt : j < p.length
      · obtain ⟨r, hr⟩ : ∃ x, p[j]? = some x := ⟨_, List.getElem?_eq_getElem hlt⟩
        obtain ⟨b1, o1, _, rfl, hb1, ⟨sv, su, rfl, hsv, hsu⟩, hc⟩ := Kind.sl_at HV.out hr
        have d0 : wr.cell? ⟨b1, o1 + j * 4, none⟩ = some (.bool r.head.no) := by rw [HB.out.cell hb1]; exact hc 0 _ rfl
        have d1 : wr.cell? ⟨b1, o1 + j * 4 + 1, none⟩ = some (.string (bs r.head.name)) := by rw [HB.out.cell hb1]; exact hc 1 _ rfl
        have d2 : wr.cell? ⟨b1, o1 + j * 4 + 2, none⟩ = some sv := by rw [HB.out.cell hb1]; exact hc 2 _ rfl
        have d3 : wr.cell? ⟨b1, o1 + j * 4 + 3, none⟩ = some su := by rw [HB.out.cell hb1]; exact hc 3 _ rfl
        have hbr : b1 < wr.heap.size := by omega
        have hst := wrongGo_step hr m j
        have hlr := HK.out r (List.mem_of_getElem? hr)
        obtain ⟨wA, hwA⟩ : ∃ wA, wA = (wr.alloc (.cells #[.int .i64 j] 3)).alloc (.cells #[.bool r.head.no, .string (bs r.head.name), sv, su] 43) := ⟨_, rfl⟩
        have hLA : Later wr wA := by rw [hwA]; exact (by repeat (first | exact Later.refl _ | assumption | refine Later.drewN ?_ _ | refine Later.drew ?_ | refine Later.alloc ?_ _ | refine Later.grow ?_ _))
        have hPA : PB w wr j (.bool r.head.no) (.string (bs r.head.name)) sv su (6 * j) (more m) wA := by
          refine ⟨below_trans HB.out hLA.below HB.out.size, by rw [hLA.block (by omega)]; exact HR.out, by rw [hwA]; simp, by rw [hwA]; simp, hsz, HM.out.later hLA⟩
        have PA := hide hPA
        have HWA := hide hwA
        have HSV : Hid (∀ w', Below w.heap.size w w' → termK.sl Anyw w' sv r.head.terms) := fun w' h => Kind.sl_below hsv h
        have HSU : Hid (∀ w', Below w.heap.size w w' → atomK.sl Anyw w' su r.body) := fun w' h => Kind.sl_below hsu h
        have HAt := hide (rWrongAtom r.head sv wA (HSV.out wA hPA.below) hlr.1)
        rw [hwA] at HAt
        obtain ⟨a2, c2, rfl⟩ := Kind.slice hsv
        obtain ⟨a3, c3, rfl⟩ := Kind.slice hsu
        have HLr := hide hlr
        clear hc hr hsv hsu hwA hLA hPA HM HB HR hlr
        by_cases h1 : wrongAtom r.head = 0
        · rw [h1] at HAt
          have HBd : Hid (∀ w', Below w.heap.size w w' → Calls Tryz.prog 34 #[.slice a3 r.body.length c3] w' fun e w'' => e = .returned (.int .i64 (wrongBody r.body)) ∧ Below w'.heap.size w' w'') := fun w' h => rWrongBody r.body _ w' (HSU.out w' h) HLr.out.2
          cases hno : r.head.no
          · rw [hno] at HAt PA d0 HWA
            by_cases h2 : wrongBody r.body = 0
            · rw [h2] at HBd
              obtain ⟨hl5, hfb⟩ := wrongBody_zero h2
              obtain ⟨fn, ft, fs⟩ := wrongAtom_zero h1
              have hkh : keyA r.head := ⟨by omega, fun t ht => short_max (fs t ht)⟩
              have HBo : Hid (∀ w', Below w.heap.size w w' → Calls Tryz.prog 35 #[.agg #[.bool false, .string (bs r.head.name), .slice a2 r.head.terms.length c2], .slice a3 r.body.length c3] w' fun e w'' => e = .returned (.bool ((vars r.head).all (givenBy r.body))) ∧ Below w'.heap.size w' w'') := fun w' h => by
                have := rBound r.head _ r.body _ w' (HSV.out w' h) hkh (HSU.out w' h) (fun b hb => ⟨by have := (wrongAtom_zero (hfb b hb)).2.1; omega, fun t ht => short_max ((wrongAtom_zero (hfb b hb)).2.2 t ht)⟩)
                rwa [hno] at this
              cases hal : (vars r.head).all (givenBy r.body)
              · have HE2 : Hid (wrongP p = (9, j)) := by
                  show _ = _
                  have : wrongRule m r = (9, m) := by unfold wrongRule; rw [if_pos h1, hno, if_pos h2, hal]; rfl
                  rw [HE.out, hst, this, if_neg (by show ¬ (9 : Int) = 0; decide)]
                rw [hal] at HBo
                clear hst HE h1 h2 hno hal hkh hfb fs HSV HSU HLr HK
                generalize bs r.head.name = nm at *
                go_wp2_with fail
                refine HAt.out.mono ?_
                rintro e w2 ⟨rfl, hL2⟩
                rw [← HWA.out] at hL2
                have P2 := hide (PA.out.below' hL2.below)
                obtain ⟨y0, y1, y2, y3, yl⟩ := P2.out.cells
                have H2 := hide (HBd.out w2 P2.out.below)
                clear hL2 HAt HBd
                go_wp2_with fail
                refine H2.out.mono ?_
                rintro e w3 ⟨rfl, hB3⟩
                have P3 := hide (P2.out.below' hB3)
                obtain ⟨x0, x1, x2, x3, xl⟩ := P3.out.cells
                have H3 := hide (HBo.out w3 P3.out.below)
                clear hB3 H2 HBo
                go_wp2_with fail
                refine H3.out.mono ?_
                rintro e w4 ⟨rfl, hB4⟩
                have P4 := hide (P3.out.below' hB4)
                clear hB4 H3
                have HBad := hide (badC 9 j _ w4 P4.out.i)
                go_wp2_with fail
                refine HBad.out.mono ?_
                rintro e wz ⟨rfl, hLz⟩
                have Pz := hide (P4.out.below' hLz.below)
                have hRz := Pz.out.row
                have q0 : wz.cell? ⟨w.heap.size, 0, none⟩ = some (.int .i64 0) := by rw [cell_of_row _ _ _ _ _ _ hRz]; rfl
                have q1 : wz.cell? ⟨w.heap.size, 1, none⟩ = some (.int .i64 0) := by rw [cell_of_row _ _ _ _ _ _ hRz]; rfl
                have p0 : wz.frozen? ⟨w.heap.size, 0, none⟩ = false := frozen_rowC 0 hRz
                have p1 : wz.frozen? ⟨w.heap.size, 1, none⟩ = false := frozen_rowC 1 hRz
                clear hLz HBad hRz
                go_wp2
                obtain ⟨r0, r1⟩ := fault_two Pz.out.row (.int .i64 9) (.int .i64 j)
                refine bodyPost_ret (v := .agg #[.int .i64 9, .int .i64 j]) (by simp [results, Tryz.results9, go_sem, r0, r1]) rfl ⟨ret_fault2 (by rw [HE2.out]) (by rw [HE2.out]), ?_⟩
                exact (Pz.out.below.setCell (Nat.le_refl _) _).setCell (Nat.le_refl _) _
              · have hWR := wrongRule_fit (m := m) h1 hno h2 hal
                rw [hal] at HBo
                have HFb : Hid (∀ a ∈ r.head :: r.body, wrongAtom a = 0) := fun a ha => by
                  rcases List.mem_cons.1 ha with e | ha
                  · rw [e]; exact h1
                  · exact hfb a ha
                have HHd : Hid (atomK.is Anyw w [.bool false, .string (bs r.head.name), .slice a2 r.head.terms.length c2] r.head) := ⟨_, by rw [hno], HSV.out w (Below.refl _ _)⟩
                have HSUw : Hid (atomK.sl Anyw w (.slice a3 r.body.length c3) r.body) := HSU.out w (Below.refl _ _)
                have HWR : Hid (wrongP p = if (fitAll m (r.head :: r.body)).1 then wrongGo (fitAll m (r.head :: r.body)).2 (j + 1) (p.drop (j + 1)) else (8, j)) := by
                  show _ = _
                  rw [HE.out, hst, hWR]
                  cases (fitAll m (r.head :: r.body)).1 <;> simp
                clear hst HE h1 h2 hno hal hkh hfb fs HLr HK hWR HSV
                generalize hall : r.head :: r.body = all at *
                have HAll : Hid (all = [r.head] ++ r.body) := hall.symm
                have hal5 : all.length = r.body.length + 1 := by rw [← hall]; rfl
                clear hall
                generalize bs r.head.name = nm at *
                go_wp2_with fail
                refine HAt.out.mono ?_
                rintro e w2 ⟨rfl, hL2⟩
                rw [← HWA.out] at hL2
                have P2 := hide (PA.out.below' hL2.below)
                obtain ⟨y0, y1, y2, y3, yl⟩ := P2.out.cells
                have H2 := hide (HBd.out w2 P2.out.below)
                clear hL2 HAt HBd
                go_wp2_with fail
                refine H2.out.mono ?_
                rintro e w3 ⟨rfl, hB3⟩
                have P3 := hide (P2.out.below' hB3)
                obtain ⟨x0, x1, x2, x3, xl⟩ := P3.out.cells
                have H3 := hide (HBo.out w3 P3.out.below)
                clear hB3 H2 HBo
                go_wp2_with fail
                refine H3.out.mono ?_
                rintro e w4 ⟨rfl, hB4⟩
                have P4 := hide (P3.out.below' hB4)
                obtain ⟨v0, v1, v2, v3, vl⟩ := P4.out.cells
                have hRO := RowA.one (w0 := w) (lo := w4.heap.size) HHd.out (Nat.le_refl w4.heap.size)
                have hBA : Below w.heap.size w (w4.alloc (.cells #[.bool false, .string nm, .slice a2 r.head.terms.length c2] 40)) := P4.out.below.alloc P4.out.below.size _
                obtain ⟨v5, w5, hrun, hRA, hg5⟩ := hRO.many (by simp) hBA HSUw.out (by simp; omega)
                have hB5 : Below w4.heap.size w4 w5 := below_trans ((Later.refl w4).alloc (.cells #[.bool false, .string nm, .slice a2 r.head.terms.length c2] 40)).below ⟨hg5.os, hg5.tape, hg5.output, hg5.size, fun k hk => hg5.block k (by simp; omega) (fun e => by have := (RowA.lo hRO k e.symm).1; omega)⟩ (Nat.le_refl _)
                rw [← HAll.out] at hRA
                have P5 := hide (P4.out.below' hB5)
                have h4 : w.heap.size + 1 < w4.heap.size := P4.out.map.lt
                obtain ⟨z5, c5, rfl⟩ := RowA.slice hRA
                have HSl := hide (hRA.slB P5.out.below (by omega) (b := w.heap.size + 1) (by omega) h4)
                have HR5 := hide hrun
                clear hrun hRA hg5 hB5 hRO hBA hB4 H3 HSU HSUw HHd h4
                go_wp2_with (at_builtin; refine wpList_append_run rfl (.tmp 57) (.tmp 59) 41 rfl _ _ _ _ rfl rfl HR5.out ?_)
                go_loopg [62] all.length (fun g i wr2 => ∃ k : Nat, k + g = all.length ∧ i = .int .i64 k ∧ ∃ mk, Hid (fitAll m all = fitAll mk (all.drop k)) ∧ Hid (NumsM wr2 (w.heap.size + 1) (6 * j + k) (more mk)) ∧ Hid (Tn (w.heap.size + 1) w5 wr2))
                case atStart => exact ⟨0, by omega, rfl, m, (rfl : _ = _), P5.out.map, Tn.refl _ _⟩
                case round =>
                  obtain ⟨k, hk, rfl, mk, HFi, HMk, HTn⟩ := hrel
                  by_cases hltk : k < all.length
                  · obtain ⟨t, ht⟩ : ∃ x, all[k]? = some x := ⟨_, List.getElem?_eq_getElem hltk⟩
                    obtain ⟨b6, o6, _, rfl, hb6, ⟨tv, rfl, htv⟩, hct⟩ := Kind.sl_at (Kind.sl_tnb HSl.out HTn.out) ht
                    have e0 : wr.cell? ⟨b6, o6 + k * 3, none⟩ = some (.bool t.no) := hct 0 _ rfl
                    have e1 : wr.cell? ⟨b6, o6 + k * 3 + 1, none⟩ = some (.string (bs t.name)) := hct 1 _ rfl
                    have e2 : wr.cell? ⟨b6, o6 + k * 3 + 2, none⟩ = some tv := hct 2 _ rfl
                    have htl := htv.1.1
                    obtain ⟨ta, tc, rfl⟩ := Kind.slice htv
                    have hts : t.name.length ≤ maxLen := short_max (wrongAtom_zero (HFb.out t (List.mem_of_getElem? ht))).1
                    have hmp := HMk.out.later ((Later.refl wr).alloc (.cells #[.bool t.no, .string (bs t.name), .slice ta t.terms.length tc] 40))
                    have hlk := NumM.lookOk (T := 64) hmp Tryz.underlying9 Tryz.underlying3 Tryz.underlying64 (zeroInt _) hts
                    obtain ⟨w7, hst7, hm7, hg7⟩ := NumM.store (T := 64) hmp Tryz.underlying9 Tryz.underlying3 Tryz.underlying64 (by simp [maxLen]; omega) hts (x := t.terms.length + 1) (wf_len (by omega))
                    rw [show (((t.terms.length + 1 : Nat)) : Int) = (t.terms.length : Int) + 1 by omega] at hst7
                    have HT7 : Hid (Tn (w.heap.size + 1) w5 w7) := (HTn.out.trans (Tn.of_below ((Later.refl wr).alloc _).below)).trans (Tn.of_grown hg7)
                    rw [more_put] at hm7
                    have hf1 := fitAll_step ht mk
                    have hbq : b6 < wr.heap.size := hb6
                    have hmb : w.heap.size + 1 < wr.heap.size := HMk.out.lt
                    have HBQ := hide HTn.out
                    cases hmt : mk t.name with
                    | none =>
                      have e3 : numOf (more mk) t.name = 0 := by unfold numOf more; rw [hmt]; rfl
                      have e4 : ((more mk) t.name).isSome = false := by unfold more; rw [hmt]; rfl
                      rw [e3, e4] at hlk
                      have HF1 : Hid (fitAll m all = fitAll (mk.put t.name t.terms.length) (all.drop (k + 1))) := by
                        show _ = _
                        rw [HFi.out, hf1]
                        rw [fitOne_none hmt]; rfl
                      have HM7 := hide hm7
                      have HST := hide hst7
                      clear hct ht htv hmp hst7 hm7 hg7 hf1 hmt e3 e4 HFi HMk HTn
                      generalize bs t.name = nt at *
                      generalize t.no = tn at *
                      go_wp2_with (first
                        | (at_mapUpdate; refine wpList_run_update _ rfl _ _ _ _ rfl _ _ _ _ rfl rfl (by simp [Act.eval]) HST.out ?_)
                        | go_in)
                      go_roundg (all.length - (k + 1))
                      case measure => omega
                      case rel => exact ⟨k + 1, by omega, by go_num, _, HF1, HM7, HT7⟩
                    | some n =>
                      have e3 : numOf (more mk) t.name = n + 1 := by unfold numOf more; rw [hmt]; rfl
                      have e4 : ((more mk) t.name).isSome = true := by unfold more; rw [hmt]; rfl
                      rw [e3, e4, show (((n + 1 : Nat)) : Int) = (n : Int) + 1 by omega] at hlk
                      by_cases hnt : n = t.terms.length
                      · have HF1 : Hid (fitAll m all = fitAll mk (all.drop (k + 1))) := by
                          show _ = _
                          rw [HFi.out, hf1]
                          rw [fitOne_some hmt, decide_eq_true hnt]; rfl
                        rw [← hnt, put_self hmt] at hm7
                        have HM7 := hide hm7
                        have HST := hide hst7
                        clear hct ht htv hmp hst7 hm7 hg7 hf1 hmt e3 e4 HFi HMk HTn
                        subst hnt
                        generalize bs t.name = nt at *
                        generalize t.no = tn at *
                        go_wp2_with (first
                          | (at_mapUpdate; refine wpList_run_update _ rfl _ _ _ _ rfl _ _ _ _ rfl rfl (by simp [Act.eval]) HST.out ?_)
                          | go_in)
                        go_roundg (all.length - (k + 1))
                        case measure => omega
                        case rel => exact ⟨k + 1, by omega, by go_num, _, HF1, HM7, HT7⟩
                      · have hqn : (((n : Int) + 1) != ((t.terms.length : Int) + 1)) = true := by
                          rw [bne_iff_ne]; omega
                        have HE2 : Hid (wrongP p = (8, j)) := by
                          show _ = _
                          have : fitAll m all = (false, mk) := by
                            rw [HFi.out, hf1]
                            rw [fitOne_some hmt, decide_eq_false hnt]; rfl
                          rw [HWR.out, this]; rfl
                        have PQ := hide ((P5.out.turned HTn.out HMk.out).below' ((Later.refl wr).alloc (.cells #[.bool t.no, .string (bs t.name), .slice ta t.terms.length tc] 40)).below)
                        clear hct ht htv hmp hst7 hm7 hg7 hf1 hmt e3 e4 HFi HMk HTn HT7
                        generalize bs t.name = nt at *
                        generalize t.no = tn at *
                        have HBad := hide (badC 8 j _ (wr.alloc (.cells #[.bool tn, .string nt, .slice ta t.terms.length tc] 40)) PQ.out.i)
                        go_wp2_with fail
                        refine HBad.out.mono ?_
                        rintro e wz ⟨rfl, hLz⟩
                        have Pz := hide (PQ.out.below' hLz.below)
                        have hRz := Pz.out.row
                        have q0 : wz.cell? ⟨w.heap.size, 0, none⟩ = some (.int .i64 0) := by rw [cell_of_row _ _ _ _ _ _ hRz]; rfl
                        have q1 : wz.cell? ⟨w.heap.size, 1, none⟩ = some (.int .i64 0) := by rw [cell_of_row _ _ _ _ _ _ hRz]; rfl
                        have p0 : wz.frozen? ⟨w.heap.size, 0, none⟩ = false := frozen_rowC 0 hRz
                        have p1 : wz.frozen? ⟨w.heap.size, 1, none⟩ = false := frozen_rowC 1 hRz
                        clear hLz HBad hRz
                        go_wp2
                        obtain ⟨r0, r1⟩ := fault_two Pz.out.row (.int .i64 8) (.int .i64 j)
                        refine bodyPost_ret (v := .agg #[.int .i64 8, .int .i64 j]) (by simp [results, Tryz.results9, go_sem, r0, r1]) rfl ⟨ret_fault2 (by rw [HE2.out]) (by rw [HE2.out]), ?_⟩
                        exact (Pz.out.below.setCell (Nat.le_refl _) _).setCell (Nat.le_refl _) _
                  · have e : k = all.length := by omega
                    have HE2 : Hid (wrongP p = wrongGo mk (j + 1) (p.drop (j + 1))) := by
                      show _ = _
                      have : fitAll m all = (true, mk) := by
                        rw [HFi.out, List.drop_eq_nil_of_le (by omega)]; rfl
                      rw [HWR.out, this]; rfl
                    have PQ := hide (P5.out.turned HTn.out HMk.out)
                    have hl6 : w.heap.size + 2 ≤ wr.heap.size := by have := PQ.out.cells.2.2.2.2; have := PQ.out.lo; omega
                    go_wp2
                    go_roundg (p.length - (j + 1))
                    case measure => omega
                    case rel => exact ⟨j + 1, by omega, by go_num, mk, HE2, PQ.out.map.mono (by omega), PQ.out.below, PQ.out.row, hl6⟩
            · have HE2 : Hid (wrongP p = (wrongBody r.body, j)) := by
                show _ = _
                have : wrongRule m r = (wrongBody r.body, m) := by unfold wrongRule; rw [if_pos h1, hno, if_neg h2]; rfl
                rw [HE.out, hst, this, if_neg h2]
              have hq : (wrongBody r.body != 0) = true := by simpa using h2
              clear hst HE h1 h2 hno HSV HSU HLr HK
              generalize wrongBody r.body = eb at *
              generalize bs r.head.name = nm at *
              go_wp2_with fail
              refine HAt.out.mono ?_
              rintro e w2 ⟨rfl, hL2⟩
              rw [← HWA.out] at hL2
              have P2 := hide (PA.out.below' hL2.below)
              obtain ⟨y0, y1, y2, y3, yl⟩ := P2.out.cells
              have H2 := hide (HBd.out w2 P2.out.below)
              clear hL2 HAt HBd
              go_wp2_with fail
              refine H2.out.mono ?_
              rintro e w3 ⟨rfl, hB3⟩
              have P3 := hide (P2.out.below' hB3)
              clear hB3 H2
              have HBad := hide (badC eb j _ w3 P3.out.i)
              go_wp2_with fail
              refine HBad.out.mono ?_
              rintro e wz ⟨rfl, hLz⟩
              have Pz := hide (P3.out.below' hLz.below)
              have hRz := Pz.out.row
              have q0 : wz.cell? ⟨w.heap.size, 0, none⟩ = some (.int .i64 0) := by rw [cell_of_row _ _ _ _ _ _ hRz]; rfl
              have q1 : wz.cell? ⟨w.heap.size, 1, none⟩ = some (.int .i64 0) := by rw [cell_of_row _ _ _ _ _ _ hRz]; rfl
              have p0 : wz.frozen? ⟨w.heap.size, 0, none⟩ = false := frozen_rowC 0 hRz
              have p1 : wz.frozen? ⟨w.heap.size, 1, none⟩ = false := frozen_rowC 1 hRz
              clear hLz HBad hRz
              go_wp2
              obtain ⟨r0, r1⟩ := fault_two Pz.out.row (.int .i64 eb) (.int .i64 j)
              refine bodyPost_ret (v := .agg #[.int .i64 eb, .int .i64 j]) (by simp [results, Tryz.results9, go_sem, r0, r1]) rfl ⟨ret_fault2 (by rw [HE2.out]) (by rw [HE2.out]), ?_⟩
              exact (Pz.out.below.setCell (Nat.le_refl _) _).setCell (Nat.le_refl _) _
          · have HE2 : Hid (wrongP p = (2, j)) := by
              show _ = _
              have : wrongRule m r = (2, m) := by unfold wrongRule; rw [if_pos h1, hno]; rfl
              rw [HE.out, hst, this, if_neg (by show ¬ (2 : Int) = 0; decide)]
            rw [hno] at HAt PA d0 HWA
            clear hst HE h1 hno HSV HSU HLr HK HBd
            generalize bs r.head.name = nm at *
            go_wp2_with fail
            refine HAt.out.mono ?_
            rintro e w2 ⟨rfl, hL2⟩
            rw [← HWA.out] at hL2
            have P2 := hide (PA.out.below' hL2.below)
            obtain ⟨y0, y1, y2, y3, yl⟩ := P2.out.cells
            clear hL2 HAt
            have HBad := hide (badC 2 j _ w2 P2.out.i)
            go_wp2_with fail
            refine HBad.out.mono ?_
            rintro e wz ⟨rfl, hLz⟩
            have Pz := hide (P2.out.below' hLz.below)
            have hRz := Pz.out.row
            have q0 : wz.cell? ⟨w.heap.size, 0, none⟩ = some (.int .i64 0) := by rw [cell_of_row _ _ _ _ _ _ hRz]; rfl
            have q1 : wz.cell? ⟨w.heap.size, 1, none⟩ = some (.int .i64 0) := by rw [cell_of_row _ _ _ _ _ _ hRz]; rfl
            have p0 : wz.frozen? ⟨w.heap.size, 0, none⟩ = false := frozen_rowC 0 hRz
            have p1 : wz.frozen? ⟨w.heap.size, 1, none⟩ = false := frozen_rowC 1 hRz
            clear hLz HBad hRz
            go_wp2
            obtain ⟨r0, r1⟩ := fault_two Pz.out.row (.int .i64 2) (.int .i64 j)
            refine bodyPost_ret (v := .agg #[.int .i64 2, .int .i64 j]) (by simp [results, Tryz.results9, go_sem, r0, r1]) rfl ⟨ret_fault2 (by rw [HE2.out]) (by rw [HE2.out]), ?_⟩
            exact (Pz.out.below.setCell (Nat.le_refl _) _).setCell (Nat.le_refl _) _
        · have HE2 : Hid (wrongP p = (wrongAtom r.head, j)) := by
            show _ = _
            have : wrongRule m r = (wrongAtom r.head, m) := by unfold wrongRule; rw [if_neg h1]
            rw [HE.out, hst, this, if_neg h1]
          have hq : (wrongAtom r.head != 0) = true := by simpa using h1
          clear hst HE h1 HSV HSU HLr HK
          generalize wrongAtom r.head = ex at *
          generalize r.head.no = xn at *
          generalize bs r.head.name = nm at *
          go_wp2_with fail
          refine HAt.out.mono ?_
          rintro e w2 ⟨rfl, hL2⟩
          rw [← HWA.out] at hL2
          have P2 := hide (PA.out.below' hL2.below)
          clear hL2 HAt
          have HBad := hide (badC ex j _ w2 P2.out.i)
          go_wp2_with fail
          refine HBad.out.mono ?_
          rintro e wz ⟨rfl, hLz⟩
          have Pz := hide (P2.out.below' hLz.below)
          have hRz := Pz.out.row
          have q0 : wz.cell? ⟨w.heap.size, 0, none⟩ = some (.int .i64 0) := by rw [cell_of_row _ _ _ _ _ _ hRz]; rfl
          have q1 : wz.cell? ⟨w.heap.size, 1, none⟩ = some (.int .i64 0) := by rw [cell_of_row _ _ _ _ _ _ hRz]; rfl
          have p0 : wz.frozen? ⟨w.heap.size, 0, none⟩ = false := frozen_rowC 0 hRz
          have p1 : wz.frozen? ⟨w.heap.size, 1, none⟩ = false := frozen_rowC 1 hRz
          clear hLz HBad hRz
          go_wp2
          obtain ⟨r0, r1⟩ := fault_two Pz.out.row (.int .i64 ex) (.int .i64 j)
          refine bodyPost_ret (v := .agg #[.int .i64 ex, .int .i64 j]) (by simp [results, Tryz.results9, go_sem, r0, r1]) rfl ⟨ret_fault2 (by rw [HE2.out]) (by rw [HE2.out]), ?_⟩
          exact (Pz.out.below.setCell (Nat.le_refl _) _).setCell (Nat.le_refl _) _
      · have E2 : Hid (wrongP p = (0, 0)) := by show _ = _; rw [HE.out, List.drop_eq_nil_of_le (by omega)]; rfl
        have hR2 := HR.out
        have q0 : wr.cell? ⟨w.heap.size, 0, none⟩ = some (.int .i64 0) := by rw [cell_of_row _ _ _ _ _ _ hR2]; rfl
        have q1 : wr.cell? ⟨w.heap.size, 1, none⟩ = some (.int .i64 0) := by rw [cell_of_row _ _ _ _ _ _ hR2]; rfl
        have p0 : wr.frozen? ⟨w.heap.size, 0, none⟩ = false := frozen_rowC 0 hR2
        have p1 : wr.frozen? ⟨w.heap.size, 1, none⟩ = false := frozen_rowC 1 hR2
        clear hR2
        go_wp2
        obtain ⟨r0, r1⟩ := fault_two HR.out (.int .i64 0) (.int .i64 0)
        refine bodyPost_ret (v := .agg #[.int .i64 0, .int .i64 0]) (by simp [results, Tryz.results9, go_sem, r0, r1]) rfl ⟨ret_fault2 (by rw [E2.out]) (by rw [E2.out]; rfl), ?_⟩
        exact (HB.out.setCell (Nat.le_refl _) _).setCell (Nat.le_refl _) _

end Go.Proofs.YtbohggoeebhdmaaGreatDoor

/- Where no circle holds a step over what must not be so, there are numbers that hold. Plain. Nothing of the program. -/
namespace Go.Proofs.YtbohggoeebhdmaaGreatDoor

/-- A head hangs on another, by an atom whose step is s. -/
def Edge (p : List RuleD) (a b : Bs) (s : Nat) : Prop := ∃ r ∈ p, ∃ x ∈ r.body, r.head.name = a ∧ x.name = b ∧ isHead p b ∧ step x = s

/-- A trail: from a on through these, over n steps in all. -/
inductive Trail (p : List RuleD) : Bs → List Bs → Nat → Prop
  | nil (a : Bs) : Trail p a [] 0
  | cons {a b : Bs} {s n : Nat} {l : List Bs} : Edge p a b s → Trail p b l n → Trail p a (b :: l) (s + n)

theorem Edge.le {p : List RuleD} {a b : Bs} {s : Nat} (h : Edge p a b s) : s ≤ 1 := by
  obtain ⟨r, _, x, _, _, _, _, rfl⟩ := h
  unfold step; split <;> omega

theorem Trail.split {p : List RuleD} : ∀ (l1 : List Bs) {a b : Bs} {l2 : List Bs} {n : Nat}, Trail p a (l1 ++ b :: l2) n → ∃ n1 n2, n = n1 + n2 ∧ Trail p a (l1 ++ [b]) n1 ∧ Trail p b l2 n2
  | [], a, b, l2, n, h => by
    cases h with
    | cons e t => exact ⟨_, _, rfl, by have := Trail.cons e (Trail.nil b); simpa using this, t⟩
  | c :: l1, a, b, l2, n, h => by
    cases h with
    | cons e t =>
      obtain ⟨n1, n2, rfl, t1, t2⟩ := Trail.split l1 t
      exact ⟨_, n2, (Nat.add_assoc _ _ _).symm, Trail.cons e t1, t2⟩

theorem Trail.heads {p : List RuleD} {a : Bs} {l : List Bs} {n : Nat} (h : Trail p a l n) : ∀ x ∈ l, isHead p x := by
  induction h with
  | nil => intro x hx; cases hx
  | cons e _ ih =>
    intro x hx
    obtain ⟨_, _, _, _, _, _, hh, _⟩ := e
    rcases List.mem_cons.1 hx with rfl | hx
    · exact hh
    · exact ih x hx
theorem Trail.le {p : List RuleD} {a : Bs} {l : List Bs} {n : Nat} (h : Trail p a l n) : n ≤ l.length := by
  induction h with
  | nil => exact Nat.le_refl _
  | cons e _ ih => have := e.le; simp; omega

theorem nodup_heads : ∀ (p : List RuleD) (l : List Bs), l.Nodup → (∀ x ∈ l, ∃ r ∈ p, r.head.name = x) → l.length ≤ p.length
  | [], l, _, h => by
    cases l with
    | nil => simp
    | cons x l => obtain ⟨r, hr, _⟩ := h x (by simp); cases hr
  | r :: p, l, hn, h => by
    have h1 := nodup_heads p (l.erase r.head.name) (hn.erase _) (fun x hx => by
      rw [hn.mem_erase_iff] at hx
      obtain ⟨q, hq, e⟩ := h x hx.2
      rcases List.mem_cons.1 hq with rfl | hq
      · exact absurd e.symm hx.1
      · exact ⟨q, hq, e⟩)
    by_cases hm : r.head.name ∈ l
    · rw [List.length_erase_of_mem hm] at h1; simp; omega
    · rw [List.erase_of_not_mem hm] at h1; simp; omega

theorem max_of {P : Nat → Prop} (N : Nat) (h0 : P 0) (hb : ∀ n, P n → n ≤ N) : ∃ m, P m ∧ ∀ n, P n → n ≤ m := by
  have : ∀ k, (∃ n, P n ∧ N ≤ n + k) → ∃ m, P m ∧ ∀ n, P n → n ≤ m := by
    intro k
    induction k with
    | zero => rintro ⟨n, hn, hk⟩; exact ⟨n, hn, fun m hm => by have := hb m hm; omega⟩
    | succ k ih =>
      rintro ⟨n, hn, hk⟩
      by_cases hx : ∃ m, P m ∧ n < m
      · obtain ⟨m, hm, hlt⟩ := hx
        exact ih ⟨m, hm, by omega⟩
      · exact ⟨n, hn, fun m hm => Nat.le_of_not_lt fun hlt => hx ⟨m, hm, hlt⟩⟩
  exact this N ⟨0, h0, by omega⟩

/-- Of trails that meet nothing twice, the most steps. -/
def Far (p : List RuleD) (a : Bs) (n : Nat) : Prop := ∃ l, l.Nodup ∧ a ∉ l ∧ Trail p a l n
theorem far_max (p : List RuleD) (a : Bs) : ∃ m, Far p a m ∧ ∀ n, Far p a n → n ≤ m :=
  max_of p.length ⟨[], by simp, by simp, Trail.nil a⟩ fun n ⟨l, hn, _, ht⟩ => Nat.le_trans ht.le (nodup_heads p l hn fun x hx => ht.heads x hx)

/-- No circle that meets nothing twice holds a step. -/
def NoRound (p : List RuleD) : Prop := ∀ a mid n, mid.Nodup → Trail p a (mid ++ [a]) n → n = 0

theorem sol_of_noRound {p : List RuleD} (h : NoRound p) : ∃ σ, Sol p σ := by
  refine ⟨fun a => Classical.choose (far_max p a), fun r hr x hx hh => ?_⟩
  have hE : Edge p r.head.name x.name (step x) := ⟨r, hr, x, hx, rfl, rfl, hh, rfl⟩
  obtain ⟨⟨l, hn, hnot, ht⟩, _⟩ := Classical.choose_spec (far_max p x.name)
  have hmax := (Classical.choose_spec (far_max p r.head.name)).2
  show Classical.choose (far_max p x.name) + step x ≤ Classical.choose (far_max p r.head.name)
  generalize Classical.choose (far_max p x.name) = n at *
  generalize Classical.choose (far_max p r.head.name) = m at *
  generalize step x = s at *
  generalize r.head.name = a at *
  generalize x.name = b at *
  by_cases hab : a = b
  · subst hab
    have h1 := h a [] s (by simp) (by have := Trail.cons hE (Trail.nil a); simpa using this)
    have h2 := hmax n ⟨l, hn, hnot, ht⟩
    omega
  · by_cases hal : a ∈ l
    · obtain ⟨l1, l2, rfl⟩ := List.append_of_mem hal
      obtain ⟨n1, n2, rfl, t1, t2⟩ := Trail.split l1 ht
      have hn' := hn
      rw [List.nodup_append] at hn'
      obtain ⟨hd1, hd2, hd3⟩ := hn'
      have hd2' := List.nodup_cons.1 hd2
      have h1 := h a (b :: l1) (s + n1) (List.nodup_cons.2 ⟨fun hb => hnot (by simp [hb]), hd1⟩) (Trail.cons hE t1)
      have h2 := hmax n2 ⟨l2, hd2'.2, hd2'.1, t2⟩
      omega
    · have h2 := hmax (s + n) ⟨b :: l, List.nodup_cons.2 ⟨hnot, hn⟩, by simp [hab, hal], Trail.cons hE ht⟩
      omega

end Go.Proofs.YtbohggoeebhdmaaGreatDoor

/- The reference's way to find circles, plain: who hangs on whom, and over what must not be so. Nothing of the program. -/
namespace Go.Proofs.YtbohggoeebhdmaaGreatDoor

abbrev Rel := Bs → Bs → Bool
def Rel.put (f : Rel) (a b : Bs) : Rel := fun x y => f x y || (decide (x = a) && decide (y = b))
def fwStep (k a b : Bs) (s : Rel × Rel) : Rel × Rel := if s.1 a k && s.1 k b then (s.1.put a b, if s.2 a k || s.2 k b then s.2.put a b else s.2) else s
def fwB (hs : List Bs) (k a : Bs) (s : Rel × Rel) : Rel × Rel := hs.foldl (fun s b => fwStep k a b s) s
def fwA (hs : List Bs) (k : Bs) (s : Rel × Rel) : Rel × Rel := hs.foldl (fun s a => fwB hs k a s) s
def fwK (hs : List Bs) (ks : List Bs) (s : Rel × Rel) : Rel × Rel := ks.foldl (fun s k => fwA hs k s) s

/-- All that was so is so. -/
def RLe (s t : Rel × Rel) : Prop := ∀ x y, (s.1 x y = true → t.1 x y = true) ∧ (s.2 x y = true → t.2 x y = true)
theorem RLe.refl (s : Rel × Rel) : RLe s s := fun _ _ => ⟨id, id⟩
theorem RLe.trans {s t u : Rel × Rel} (h : RLe s t) (k : RLe t u) : RLe s u := fun x y => ⟨fun e => (k x y).1 ((h x y).1 e), fun e => (k x y).2 ((h x y).2 e)⟩
theorem put_le (f : Rel) (a b x y : Bs) (h : f x y = true) : f.put a b x y = true := by unfold Rel.put; rw [h]; rfl
theorem put_same (f : Rel) (a b : Bs) : f.put a b a b = true := by unfold Rel.put; simp
theorem fwStep_le (k a b : Bs) (s : Rel × Rel) : RLe s (fwStep k a b s) := by
  intro x y
  unfold fwStep
  split
  · refine ⟨put_le _ _ _ _ _, fun h => ?_⟩
    show (if _ then _ else _ : Rel) x y = true
    split
    · exact put_le _ _ _ _ _ h
    · exact h
  · exact ⟨id, id⟩

theorem fold_le {α : Type} {f : Rel × Rel → α → Rel × Rel} (hf : ∀ s x, RLe s (f s x)) : ∀ (l : List α) (s : Rel × Rel), RLe s (l.foldl f s)
  | [], s => RLe.refl s
  | x :: l, s => (hf s x).trans (fold_le hf l (f s x))
theorem fold_hit {α : Type} {f : Rel × Rel → α → Rel × Rel} (hf : ∀ s x, RLe s (f s x)) {Q : Rel × Rel → Prop} (hQ : ∀ s t, RLe s t → Q s → Q t) {x : α} : ∀ (l : List α) (s : Rel × Rel), x ∈ l → (∀ t, RLe s t → Q (f t x)) → Q (l.foldl f s)
  | [], s, hx, _ => by cases hx
  | y :: l, s, hx, h => by
    rcases List.mem_cons.1 hx with rfl | hx
    · exact hQ _ _ (fold_le hf l _) (h s (RLe.refl s))
    · exact fold_hit hf hQ l (f s y) hx fun t ht => h t ((hf s y).trans ht)

theorem fwB_le (hs : List Bs) (k a : Bs) (s : Rel × Rel) : RLe s (fwB hs k a s) := fold_le (fun s b => fwStep_le k a b s) hs s
theorem fwA_le (hs : List Bs) (k : Bs) (s : Rel × Rel) : RLe s (fwA hs k s) := fold_le (fun s a => fwB_le hs k a s) hs s

theorem fwA_hit (hs : List Bs) {k a b : Bs} (s : Rel × Rel) (ha : a ∈ hs) (hb : b ∈ hs) (h1 : s.1 a k = true) (h2 : s.1 k b = true) : (fwA hs k s).1 a b = true ∧ ((s.2 a k = true ∨ s.2 k b = true) → (fwA hs k s).2 a b = true) := by
  have hQ : ∀ u t : Rel × Rel, RLe u t → (u.1 a b = true ∧ ((s.2 a k = true ∨ s.2 k b = true) → u.2 a b = true)) → (t.1 a b = true ∧ ((s.2 a k = true ∨ s.2 k b = true) → t.2 a b = true)) := fun u t h hu => ⟨(h a b).1 hu.1, fun e => (h a b).2 (hu.2 e)⟩
  refine fold_hit (fun s a => fwB_le hs k a s) hQ hs s ha fun t ht => ?_
  refine fold_hit (fun s b => fwStep_le k a b s) hQ hs t hb fun u hu => ?_
  have hsu := ht.trans hu
  have e1 := (hsu a k).1 h1
  have e2 := (hsu k b).1 h2
  unfold fwStep
  rw [e1, e2]
  refine ⟨put_same _ _ _, fun h => ?_⟩
  show (if _ then _ else _ : Rel) a b = true
  have : (u.2 a k || u.2 k b) = true := by
    rcases h with h | h
    · rw [(hsu a k).2 h]; rfl
    · rw [(hsu k b).2 h]; simp
  rw [if_pos this]
  exact put_same _ _ _

/-- What trails through these tell. -/
def Told (p : List RuleD) (hs K : List Bs) (s : Rel × Rel) : Prop := ∀ a b mid n, a ∈ hs → b ∈ hs → mid.Nodup → (∀ x ∈ mid, x ∈ K) → Trail p a (mid ++ [b]) n → s.1 a b = true ∧ (0 < n → s.2 a b = true)

theorem told_step {p : List RuleD} {hs K : List Bs} {s : Rel × Rel} {k : Bs} (hk : k ∈ hs) (h : Told p hs K s) : Told p hs (K ++ [k]) (fwA hs k s) := by
  intro a b mid n ha hb hn hsub ht
  by_cases hm : k ∈ mid
  · obtain ⟨m1, m2, rfl⟩ := List.append_of_mem hm
    rw [List.append_assoc, List.cons_append] at ht
    obtain ⟨n1, n2, rfl, t1, t2⟩ := Trail.split m1 ht
    have hn' := hn
    rw [List.nodup_append] at hn'
    obtain ⟨d1, d2, d3⟩ := hn'
    have d2' := List.nodup_cons.1 d2
    have s1 : ∀ x ∈ m1, x ∈ K := fun x hx => by
      have := hsub x (by simp [hx])
      rcases List.mem_append.1 this with h | h
      · exact h
      · simp at h; subst h; exact absurd rfl (d3 x hx x (by simp))
    have s2 : ∀ x ∈ m2, x ∈ K := fun x hx => by
      have := hsub x (by simp [hx])
      rcases List.mem_append.1 this with h | h
      · exact h
      · simp at h; subst h; exact absurd hx d2'.1
    obtain ⟨r1, o1⟩ := h a k m1 n1 ha hk d1 s1 t1
    obtain ⟨r2, o2⟩ := h k b m2 n2 hk hb d2'.2 s2 t2
    obtain ⟨q1, q2⟩ := fwA_hit hs s ha hb r1 r2
    refine ⟨q1, fun hpos => q2 ?_⟩
    by_cases h1 : 0 < n1
    · exact Or.inl (o1 h1)
    · exact Or.inr (o2 (by omega))
  · have s1 : ∀ x ∈ mid, x ∈ K := fun x hx => by
      rcases List.mem_append.1 (hsub x hx) with h | h
      · exact h
      · simp at h; subst h; exact absurd hx hm
    obtain ⟨r1, o1⟩ := h a b mid n ha hb hn s1 ht
    exact ⟨(fwA_le hs k s a b).1 r1, fun hpos => (fwA_le hs k s a b).2 (o1 hpos)⟩

theorem told_all {p : List RuleD} {hs : List Bs} : ∀ (ks K : List Bs) (s : Rel × Rel), (∀ k ∈ ks, k ∈ hs) → Told p hs K s → Told p hs (K ++ ks) (fwK hs ks s)
  | [], K, s, _, h => by rw [List.append_nil]; exact h
  | k :: ks, K, s, hk, h => by
    have h1 := told_step (hk k (by simp)) h
    have h2 := told_all ks (K ++ [k]) (fwA hs k s) (fun x hx => hk x (by simp [hx])) h1
    rw [List.append_assoc] at h2
    exact h2

/-- Numbers that hold are no greater down a way, and lesser over a step. -/
def Fits (σ : Bs → Nat) (s : Rel × Rel) : Prop := ∀ x y, (s.1 x y = true → σ y ≤ σ x) ∧ (s.2 x y = true → σ y + 1 ≤ σ x)
theorem fits_step {σ : Bs → Nat} {s : Rel × Rel} (hs2 : ∀ x y, s.2 x y = true → s.1 x y = true) (h : Fits σ s) (k a b : Bs) : Fits σ (fwStep k a b s) ∧ ∀ x y, (fwStep k a b s).2 x y = true → (fwStep k a b s).1 x y = true := by
  unfold fwStep
  split
  · rename_i hc
    rw [Bool.and_eq_true] at hc
    have h1 := (h a k).1 hc.1
    have h2 := (h k b).1 hc.2
    refine ⟨fun x y => ⟨fun e => ?_, fun e => ?_⟩, fun x y e => ?_⟩
    · unfold Rel.put at e
      rw [Bool.or_eq_true] at e
      rcases e with e | e
      · exact (h x y).1 e
      · simp at e; rw [e.1, e.2]; omega
    · have e' : (if s.2 a k || s.2 k b then s.2.put a b else s.2) x y = true := e
      split at e'
      · rename_i hc2
        unfold Rel.put at e'
        rw [Bool.or_eq_true] at e' hc2
        rcases e' with e' | e'
        · exact (h x y).2 e'
        · simp at e'
          rw [e'.1, e'.2]
          rcases hc2 with hc2 | hc2
          · have := (h a k).2 hc2; omega
          · have := (h k b).2 hc2; omega
      · exact (h x y).2 e'
    · have e' : (if s.2 a k || s.2 k b then s.2.put a b else s.2) x y = true := e
      split at e'
      · unfold Rel.put at e'
        rw [Bool.or_eq_true] at e'
        rcases e' with e' | e'
        · exact put_le _ _ _ _ _ (hs2 x y e')
        · simp at e'; rw [e'.1, e'.2]; exact put_same _ _ _
      · exact put_le _ _ _ _ _ (hs2 x y e')
  · exact ⟨h, hs2⟩

theorem fold_keeps {α : Type} {f : Rel × Rel → α → Rel × Rel} {Q : Rel × Rel → Prop} (hf : ∀ s x, Q s → Q (f s x)) : ∀ (l : List α) (s : Rel × Rel), Q s → Q (l.foldl f s)
  | [], _, h => h
  | x :: l, s, h => fold_keeps hf l _ (hf s x h)

theorem fits_all {σ : Bs → Nat} {s : Rel × Rel} (hs2 : ∀ x y, s.2 x y = true → s.1 x y = true) (h : Fits σ s) (hs ks : List Bs) : Fits σ (fwK hs ks s) := by
  have : (Fits σ (fwK hs ks s) ∧ ∀ x y, (fwK hs ks s).2 x y = true → (fwK hs ks s).1 x y = true) :=
    fold_keeps (Q := fun s => Fits σ s ∧ ∀ x y, s.2 x y = true → s.1 x y = true) (fun s k h => fold_keeps (Q := fun s => Fits σ s ∧ ∀ x y, s.2 x y = true → s.1 x y = true) (fun s a h => fold_keeps (Q := fun s => Fits σ s ∧ ∀ x y, s.2 x y = true → s.1 x y = true) (fun s b h => fits_step h.2 h.1 k a b) hs s h) hs s h) ks s ⟨h, hs2⟩
  exact this.1

/-- THERE ARE NUMBERS THAT HOLD JUST WHERE NOBODY HANGS ON ITSELF OVER A STEP. -/
theorem fw_sol {p : List RuleD} {hs : List Bs} (hh : ∀ x, x ∈ hs ↔ isHead p x) {s : Rel × Rel} (h1 : ∀ x y, s.1 x y = true ↔ ∃ e, Edge p x y e) (h2 : ∀ x y, s.2 x y = true ↔ Edge p x y 1) :
    (∃ σ, Sol p σ) ↔ ∀ a ∈ hs, (fwK hs hs s).2 a a = false := by
  constructor
  · rintro ⟨σ, hσ⟩ a _
    have hE : ∀ {x y : Bs} {e : Nat}, Edge p x y e → σ y + e ≤ σ x := fun ⟨r, hr, t, ht, e1, e2, e3, e4⟩ => by
      rw [← e1, ← e2, ← e4]; exact hσ r hr t ht (by rw [e2]; exact e3)
    have hf := fits_all (σ := σ) (fun x y e => (h1 x y).2 ⟨1, (h2 x y).1 e⟩) (fun x y => ⟨fun e => by obtain ⟨k, hk⟩ := (h1 x y).1 e; have := hE hk; omega, fun e => hE ((h2 x y).1 e)⟩) hs hs
    cases hc : (fwK hs hs s).2 a a with
    | false => rfl
    | true => have := (hf a a).2 hc; omega
  · intro hno
    refine sol_of_noRound fun a mid n hn ht => ?_
    have hbase : Told p hs [] s := by
      intro x y m k hx hy _ hsub htr
      have : m = [] := by
        cases m with
        | nil => rfl
        | cons z m => exact absurd (hsub z (by simp)) (by simp)
      subst this
      cases htr with
      | cons e t =>
        cases t
        refine ⟨(h1 x y).2 ⟨_, e⟩, fun hpos => (h2 x y).2 ?_⟩
        have h1 := e.le
        have : ‹Nat› = 1 := by omega
        rw [this] at e; exact e
    have hall := told_all hs [] s (fun k hk => hk) hbase
    rw [List.nil_append] at hall
    have hheads := ht.heads
    have ha : a ∈ hs := (hh a).2 (hheads a (by simp))
    refine Nat.eq_zero_of_not_pos fun hpos => ?_
    have := (hall a a mid n ha ha hn (fun x hx => (hh x).2 (hheads x (by simp [hx]))) ht).2 hpos
    rw [hno a ha] at this
    cases this

end Go.Proofs.YtbohggoeebhdmaaGreatDoor

/- Maps from pairs of texts to whether. -/
namespace Go.Proofs.YtbohggoeebhdmaaGreatDoor
open Go.RowKit Go.Sort Go.Maps

set_option maxRecDepth 100000 in
theorem pair_law : Keyed Tryz.prog 79 := Keyed.of_law (deep_law_laid (m := 3) (by kernel_rfl) (by decide) (of_decide_eq_true (by kernel_rfl)) (by kernel_rfl) (by kernel_rfl))

theorem cellsPair : Tryz.prog.cellsOf 79 = 2 := by kernel_rfl
theorem cellsStr2 : Tryz.prog.cellsOf 9 = 1 := by kernel_rfl
theorem keyPair : Tryz.prog.keyType 79 = true := by kernel_rfl

/-- A pair, as a key. -/
def pv (a b : Bs) : Value := .agg #[.string (bs a), .string (bs b)]
def pl (a b : Bs) : Lit := .string (keyBytes [.string a, .string b])

set_option maxRecDepth 100000 in
theorem pair_key {a b : Bs} (ha : a.length ≤ maxLen) (hb : b.length ≤ maxLen) : keyOf Tryz.prog 79 (pv a b) = some (pl a b) := by
  have hf : (pv a b).formed Tryz.prog 79 = true := by
    unfold pv Value.formed
    rw [Tryz.underlying79, cellsPair]; rfl
  have hu : Tryz.prog.underlying 79 = some (.array 2 9) := Tryz.underlying79
  have hs : Tryz.prog.underlying 9 = some .string := Tryz.underlying9
  have hpos : 0 < Tryz.prog.types.size := of_decide_eq_true (by kernel_rfl)
  obtain ⟨N, hN⟩ : ∃ N, Tryz.prog.types.size = N + 1 := ⟨Tryz.prog.types.size - 1, by omega⟩
  have h1 : (bs a).size ≤ maxLen := by rw [size_bs]; exact ha
  have h2 : (bs b).size ≤ maxLen := by rw [size_bs]; exact hb
  have hl : Tryz.prog.keyLits (Tryz.prog.types.size + 1) 79 (pv a b).cells.toList = some [.string a, .string b] := by
    rw [hN]
    show Tryz.prog.keyLits (N + 1 + 1) 79 [.string (bs a), .string (bs b)] = _
    have r : List.range 2 = [0, 1] := rfl
    simp only [Program.keyLits, hu, hs, cellsPair, cellsStr2, List.length_cons, List.length_nil, if_true, r, List.mapM_cons, List.mapM_nil, Nat.mul_one, List.drop_zero, List.drop_succ_cons, List.take_succ_cons, List.take_zero]
    rw [if_pos h1, if_pos h2]
    simp [bs]
  unfold keyOf
  rw [hu, keyPair, hf]
  simp only [Bool.and_self, if_true, hl, Option.map_some]
  rfl

theorem pv_inj {a b c d : Bs} (h : pv a b = pv c d) : a = c ∧ b = d := by
  unfold pv at h
  simp only [Value.agg.injEq, Array.mk.injEq, List.cons.injEq, Value.string.injEq, and_true] at h
  exact ⟨bs_inj h.1, bs_inj h.2⟩

theorem pl_ne {a b c d : Bs} (ha : a.length ≤ maxLen) (hb : b.length ≤ maxLen) (hc : c.length ≤ maxLen) (hd : d.length ≤ maxLen) (h : ¬ (c = a ∧ d = b)) : pl c d ≠ pl a b := fun e => by
  have h1 := pair_key ha hb
  have h2 := pair_key hc hd
  rw [e] at h2
  exact h (pv_inj (pair_law.inj h2 h1))

/-- Block b holds true at just those pairs (of texts no longer than Go's) of which f says so. -/
def RelM (w : World) (b n : Nat) (f : Rel) : Prop := ∃ D : DataW Unit, w.ownsMap Tryz.prog 79 (plainElem Tryz.prog 4) b n D ∧ ∀ x y : Bs, x.length ≤ maxLen → y.length ≤ maxLen → D.atKey (pl x y) (.lit (.bool false)) = .lit (.bool (f x y))

theorem RelM.made (w : World) : RelM (w.alloc (.map #[] 0)) w.heap.size 0 (fun _ _ => false) := ⟨.map [], World.ownsMap_made _ _ _ _, fun _ _ _ _ => rfl⟩
theorem RelM.lt {w : World} {b n : Nat} {f : Rel} (h : RelM w b n f) : b < w.heap.size := by obtain ⟨D, h, _⟩ := h; exact h.lt
theorem RelM.block {w w' : World} {b n : Nat} {f : Rel} (h : RelM w b n f) (e : w'.heap[b]? = w.heap[b]?) : RelM w' b n f := by obtain ⟨D, h, hf⟩ := h; exact ⟨D, owns_block h e, hf⟩
theorem RelM.later {w w' : World} {b n : Nat} {f : Rel} (h : RelM w b n f) (k : Later w w') : RelM w' b n f := h.block (k.block h.lt)
theorem RelM.mono {w : World} {b n m : Nat} {f : Rel} (h : RelM w b n f) (hn : n ≤ m) : RelM w b m f := by obtain ⟨D, h, hf⟩ := h; exact ⟨D, h.mono hn, hf⟩

set_option maxRecDepth 100000 in
theorem RelM.look {w : World} {b n : Nat} {f : Rel} (h : RelM w b n f) {x y : Bs} (hx : x.length ≤ maxLen) (hy : y.length ≤ maxLen) : (Instr.lookup 78 (.map (some b)) (pv x y) false).run Tryz.prog w = .ok (.bool (f x y)) w := by
  obtain ⟨D, hown, hf⟩ := h
  obtain ⟨v, ps, hrun, hv⟩ := hown.lookup pair_law Tryz.underlying78 (zeroBool w) (plainElem_bool Tryz.underlying4 false) (pair_key hx hy)
  rw [hf x y hx hy] at hv
  obtain ⟨z, rfl, hz⟩ := plainElem_bool_inv hv
  simp only [Prod.mk.injEq] at hz
  have hz := hz.1
  injection hz with hz
  injection hz with hz
  rw [hrun, hz]

theorem keyPl (a b : Bs) : WideAt.IsKeyLit (pl a b) := trivial

set_option maxRecDepth 100000 in
theorem RelM.store {w : World} {b n : Nat} {f : Rel} (h : RelM w b n f) (hn : n < maxLen) {x y : Bs} (hx : x.length ≤ maxLen) (hy : y.length ≤ maxLen) :
    ∃ w', (Instr.mapUpdate 78 (.map (some b)) (pv x y) (.bool true)).run Tryz.prog w = .ok () w' ∧ RelM w' b (n + 1) (f.put x y) ∧ w.grownBy w' (some b) := by
  obtain ⟨D, hown, hf⟩ := h
  obtain ⟨w', hrun, r1, r2⟩ := hown.update pair_law Tryz.underlying78 hn (pair_key hx hy) (plainElem_bool Tryz.underlying4 true)
  refine ⟨w', hrun, ⟨_, r1, fun s t hs ht => ?_⟩, r2⟩
  by_cases e : s = x ∧ t = y
  · obtain ⟨rfl, rfl⟩ := e
    rw [atKey_put_same hown.isMap (keyPl _ _), put_same]
  · rw [atKey_put_other (pl_ne hx hy hs ht e), hf s t hs ht]
    unfold Rel.put
    have : (decide (s = x) && decide (t = y)) = false := by
      rw [Bool.and_eq_false_iff]
      by_cases h1 : s = x
      · exact Or.inr (by simpa using fun h2 => e ⟨h1, h2⟩)
      · exact Or.inl (by simpa using h1)
    rw [this, Bool.or_false]

/-- Of what was there only these blocks may have turned. -/
structure But (S : Nat → Prop) (w w' : World) : Prop where
  os : w'.os = w.os
  tape : w'.tape = w.tape
  output : w'.output = w.output
  size : w.heap.size ≤ w'.heap.size
  block : ∀ k, k < w.heap.size → ¬ S k → w'.heap[k]? = w.heap[k]?

theorem But.refl (S : Nat → Prop) (w : World) : But S w w := ⟨rfl, rfl, rfl, Nat.le_refl _, fun _ _ _ => rfl⟩
theorem But.trans {S : Nat → Prop} {a b c : World} (h : But S a b) (k : But S b c) : But S a c :=
  ⟨k.os.trans h.os, k.tape.trans h.tape, k.output.trans h.output, Nat.le_trans h.size k.size, fun i hi ho => (k.block i (Nat.lt_of_lt_of_le hi h.size) ho).trans (h.block i hi ho)⟩
theorem But.of_below {S : Nat → Prop} {a b : World} (h : Below a.heap.size a b) : But S a b := ⟨h.os, h.tape, h.output, h.size, fun k hk _ => h.block k hk⟩
theorem But.of_grown {S : Nat → Prop} {p : Nat} {a b : World} (h : a.grownBy b (some p)) (hp : S p) : But S a b := ⟨h.os, h.tape, h.output, h.size, fun k hk hS => h.block k hk (fun e => by injection e with e; exact hS (e ▸ hp))⟩
theorem But.cell {S : Nat → Prop} {a b : World} (h : But S a b) {x : Addr} (hx : x.block < a.heap.size) (ho : ¬ S x.block) : b.cell? x = a.cell? x := World.cell?_of_block (w := a) (h.block _ hx ho)
theorem But.below {S : Nat → Prop} {n : Nat} {w a b : World} (h : But S a b) (hb : Below n w a) (hS : ∀ k, S k → n ≤ k) (hn : n ≤ a.heap.size) : Below n w b :=
  ⟨h.os.trans hb.os, h.tape.trans hb.tape, h.output.trans hb.output, Nat.le_trans hb.size h.size, fun k hk => (h.block k (by omega) (fun e => by have := hS k e; omega)).trans (hb.block k hk)⟩

end Go.Proofs.YtbohggoeebhdmaaGreatDoor
