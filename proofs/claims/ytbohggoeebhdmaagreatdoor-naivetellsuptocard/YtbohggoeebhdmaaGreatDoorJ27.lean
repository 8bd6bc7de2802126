/- Texts of this claim, one behind the other. -/
import Derived.Test.YtbohggoeebhdmaaGreatDoorJ26
import Derived.Test.YtbohggoeebhdmaaGreatDoorJ16
import Derived.Test.YtbohggoeebhdmaaGreatDoorJ17
import Derived.Test.YtbohggoeebhdmaaGreatDoorJ5
/- The document's answer: the walks of ref.Of, Both, Minus. -/
namespace Go.Proofs.YtbohggoeebhdmaaGreatDoor
open Go.RowKit Go.Sort

theorem SetOf.snoc {r r' m : List FactD} {f : FactD} (h : SetOf r m) (k : SetOf r' (r ++ [f])) : SetOf r' (m ++ [f]) :=
  ⟨k.1, fun g => by rw [k.2.1 g, List.mem_append, List.mem_append, h.2.1 g], by have := k.2.2; have := h.2.2; simp at *; omega⟩

theorem setOf_nil : SetOf [] [] := ⟨List.Pairwise.nil, fun _ => Iff.rfl, Nat.le_refl _⟩
theorem factsC_nil (w : World) : FactsC w (.slice none 0 0) [] := ⟨⟨by simp, none, 0, rfl, fun h => absurd rfl h⟩, Or.inl ⟨rfl, rfl⟩⟩

set_option maxHeartbeats 1000000 in
theorem rOf (v : Value) (l : List FactD) (w : World) (h : Facts w v l) (hn : l.length ≤ 1048576) :
    Calls Tryz.prog 79 #[v] w fun e w' => ∃ v' r, e = .returned v' ∧ FactsC w' v' r ∧ SetOf r l ∧ Later w w' := by
  have HF := hide h
  obtain ⟨a, cap, rfl, _, hz⟩ := h.addr
  clear h
  go_enter Tryz.func79, Tryz.ntmps79
  go_wp2
  go_loopw [3, 8] (fun o i wr => ∃ k : Nat, ∃ r, k ≤ l.length ∧ i = .int .i64 k ∧ Hid (FactsC wr o r) ∧ Hid (SetOf r (l.take k)) ∧ Later w wr) (fun _ i _ => l.length - (intOf i).toNat)
  case atStart => exact ⟨0, [], by omega, rfl, factsC_nil _, (by rw [List.take_zero]; exact setOf_nil : SetOf _ _), Later.refl _⟩
  case round =>
    obtain ⟨k, r, hk, rfl, HO, HS, hL⟩ := hrel
    by_cases hlt : k < l.length
    · rcases hz with rfl | ⟨b, off, rfl⟩
      · simp at hlt
      have hltz : (k : Int) < (l.length : Int) := by omega
      obtain ⟨hb, ax, lx, cx, g1, g2, fx⟩ := (HF.out.later hL).at hlt
      have hrl : r.length ≤ 1048576 := by have := HS.out.2.2; rw [List.length_take] at this; omega
      have HC := hide fun w' (hw : Later wr w') => rAdd u3 _ r (l.getD k noFact) w' (HO.out.later hw) (fx.later hw) HS.out.1 (by omega)
      have HT := hide (take_succ hlt)
      generalize l.getD k noFact = f at *
      obtain ⟨nk, lk⟩ := f
      clear fx
      dsimp only at *
      go_wp2_with fail
      refine (HC.out _ ((Later.refl _).alloc _)).mono ?_
      rintro e w1 ⟨v1, r1, rfl, hF1, hS1, hL1⟩
      have HF1 := hide hF1
      have HS1 := hide hS1
      clear hF1 hS1
      go_wp2
      go_roundw
      case rel => exact ⟨k + 1, r1, by omega, by go_num, HF1, (by rw [HT.out]; exact HS.out.snoc HS1.out : SetOf _ _), hL.trans (((Later.refl _).alloc _).trans hL1)⟩
      case measure => simp [intOf]; omega
    · go_wp2
      go_ret
      obtain rfl : k = l.length := by omega
      exact ⟨_, r, rfl, HO.out, by have := HS.out; rwa [List.take_length] at this, hL⟩

set_option maxHeartbeats 1000000 in
theorem rBoth (va vb : Value) (la lb : List FactD) (w : World) (ha : Facts w va la) (h : Facts w vb lb) (hna : la.length ≤ 1048576) (hnb : lb.length ≤ 1048576) :
    Calls Tryz.prog 48 #[va, vb] w fun e w' => ∃ v' r, e = .returned v' ∧ FactsC w' v' r ∧ SetOf r (la ++ lb) ∧ Later w w' := by
  have HF := hide h
  have hO := hide (rOf va la w ha hna)
  obtain ⟨a, cap, rfl, _, hz⟩ := h.addr
  obtain ⟨a0, cap0, rfl⟩ := sliceFacts ha
  clear h ha
  go_enter Tryz.func48, Tryz.ntmps48
  go_wp2_with fail
  refine hO.out.mono ?_
  rintro e w0 ⟨v0, r0, rfl, hF0, hS0, hL0⟩
  have HF0 := hide hF0
  have HS0 := hide hS0
  clear hF0 hS0
  go_wp2
  go_loopw [5, 12] (fun o i wr => ∃ k : Nat, ∃ r, k ≤ lb.length ∧ i = .int .i64 k ∧ Hid (FactsC wr o r) ∧ Hid (SetOf r (la ++ lb.take k)) ∧ Later w wr) (fun _ i _ => lb.length - (intOf i).toNat)
  case atStart => exact ⟨0, r0, by omega, rfl, HF0, (by rw [List.take_zero, List.append_nil]; exact HS0.out : SetOf _ _), hL0⟩
  case round =>
    obtain ⟨k, r, hk, rfl, HO, HS, hL⟩ := hrel
    by_cases hlt : k < lb.length
    · rcases hz with rfl | ⟨b, off, rfl⟩
      · simp at hlt
      have hltz : (k : Int) < (lb.length : Int) := by omega
      obtain ⟨hb, ax, lx, cx, g1, g2, fx⟩ := (HF.out.later hL).at hlt
      have hrl : r.length ≤ 2097152 := by have := HS.out.2.2; rw [List.length_append, List.length_take] at this; omega
      have HC := hide fun w' (hw : Later wr w') => rAdd u5 _ r (lb.getD k noFact) w' (HO.out.later hw) (fx.later hw) HS.out.1 (by omega)
      have HT := hide (take_succ hlt)
      generalize lb.getD k noFact = f at *
      obtain ⟨nk, lk⟩ := f
      clear fx
      dsimp only at *
      go_wp2_with fail
      refine (HC.out _ ((Later.refl _).alloc _)).mono ?_
      rintro e w1 ⟨v1, r1, rfl, hF1, hS1, hL1⟩
      have HF1 := hide hF1
      have HS1 := hide hS1
      clear hF1 hS1
      go_wp2
      go_roundw
      case rel => exact ⟨k + 1, r1, by omega, by go_num, HF1, (by rw [HT.out, ← List.append_assoc]; exact HS.out.snoc HS1.out : SetOf _ _), hL.trans (((Later.refl _).alloc _).trans hL1)⟩
      case measure => simp [intOf]; omega
    · go_wp2
      go_ret
      obtain rfl : k = lb.length := by omega
      exact ⟨_, r, rfl, HO.out, by have := HS.out; rwa [List.take_length] at this, hL⟩

end Go.Proofs.YtbohggoeebhdmaaGreatDoor

/- The reference's Made and Heads. -/
namespace Go.Proofs.YtbohggoeebhdmaaGreatDoor
open Go.RowKit Go.Sort Go.Maps

theorem setF_snoc {L : List FactB} {r : List FactB} {f : FactB} (h : SetOf r (setF L ++ [f])) : r = setF (L ++ [f]) :=
  setF_of h.1 fun g => by rw [h.2.1, List.mem_append, List.mem_append, mem_setF]

set_option maxRecDepth 100000 in
set_option maxHeartbeats 1000000 in
theorem rMade (r : RuleD) (tv bv ev : Value) (L : List (List BindD)) (n : Nat) (w : World) (ht : termK.sl Anyw w tv r.head.terms) (hb : ∃ a n c, bv = .slice a n c) (hE : (envK n).sl Anyw w ev L) (hts : ∀ t ∈ r.head.terms, t.2.length ≤ maxLen) (hL : L.length ≤ 20000) :
    Calls Tryz.prog 50 #[.agg #[.bool r.head.no, .string (bs r.head.name), tv, bv], ev] w fun e w' => ∃ v', e = .returned v' ∧ FactsC w' v' (setF (L.filterMap fun l => fillB r.head l)) ∧ Later w w' := by
  obtain ⟨ta, tc, rfl⟩ := Kind.slice ht
  obtain ⟨ba, bn, bc, rfl⟩ := hb
  obtain ⟨ea, ec, rfl⟩ := Kind.slice hE
  obtain ⟨wb, hwb⟩ : ∃ wb, wb = w.alloc (.cells #[.bool r.head.no, .string (bs r.head.name), .slice ta r.head.terms.length tc, .slice ba bn bc] 43) := ⟨_, rfl⟩
  have hLb : Later w wb := by rw [hwb]; exact (Later.refl w).alloc _
  have hrb : wb.heap[w.heap.size]? = some (.cells #[.bool r.head.no, .string (bs r.head.name), .slice ta r.head.terms.length tc, .slice ba bn bc] 43 (0, 0)) := by rw [hwb]; exact heap_alloc_new w _
  have hltb : w.heap.size < wb.heap.size := (Array.getElem?_eq_some_iff.1 hrb).1
  have HT := hide (Kind.sl_later ht hLb)
  have HE := hide (Kind.sl_later hE hLb)
  have HTS := hide hts
  have HLb := hide hLb
  have HRb := hide hrb
  have HWb := hide hwb
  clear ht hE hts hLb hrb hwb
  have hex : ∃ nm no, nm = bs r.head.name ∧ no = r.head.no := ⟨_, _, rfl, rfl⟩
  obtain ⟨nm, no, hnm, hno⟩ := hex
  have HNM := hide hnm
  have HNO := hide hno
  rw [← hnm] at HRb HWb ⊢
  rw [← hno] at HRb HWb ⊢
  clear hnm hno
  go_enter Tryz.func50, Tryz.ntmps50
  go_wp2
  rw [← HWb.out]
  go_loopg [5, 12] L.length (fun g o i wr => ∃ j : Nat, j + g = L.length ∧ i = .int .i64 j ∧ Hid (FactsC wr o (setF ((L.take j).filterMap fun l => fillB r.head l))) ∧ Hid (Later wb wr))
  case atStart => exact ⟨0, by omega, rfl, (by show FactsC _ _ _; rw [List.take_zero, List.filterMap_nil, show setF [] = [] from (setF_of (s := []) List.Pairwise.nil fun f => Iff.rfl).symm]; exact factsC_nil _), Later.refl _⟩
  case round =>
    obtain ⟨j, hj, rfl, HO, HL⟩ := hrel
    obtain ⟨oa, oc, hov⟩ := sliceFacts HO.out.1
    obtain ⟨on, hon⟩ : ∃ n, n = (setF ((L.take j).filterMap fun l => fillB r.head l)).length := ⟨_, rfl⟩
    rw [← hon] at hov
    clear hon
    subst hov
    by_cases hlt : j < L.length
    · obtain ⟨l, hl⟩ : ∃ x, L[j]? = some x := ⟨_, List.getElem?_eq_getElem hlt⟩
      obtain ⟨b1, o1, _, e1, hb1, ⟨bl, rfl, _, hel⟩, hc⟩ := Kind.sl_at HE.out hl
      subst e1
      have d0 : wr.cell? ⟨b1, o1 + j, none⟩ = some (.map (some bl)) := by rw [HL.out.cell (p := ⟨b1, o1 + j, none⟩) hb1]; simpa [envK] using hc 0 _ rfl
      have hrr := (HL.out.block hltb).trans HRb.out
      have r0 : wr.cell? ⟨w.heap.size, 0, none⟩ = some (.bool no) := by rw [cell_of_row _ _ _ _ _ _ hrr]; rfl
      have r1 : wr.cell? ⟨w.heap.size, 0 + 1, none⟩ = some (.string nm) := by rw [cell_of_row _ _ _ _ _ _ hrr]; rfl
      have r2 : wr.cell? ⟨w.heap.size, 0 + 2, none⟩ = some (.slice ta r.head.terms.length tc) := by rw [cell_of_row _ _ _ _ _ _ hrr]; rfl
      have hRF := rFill4 r.head (.slice ta r.head.terms.length tc) l bl n wr (Kind.sl_later HT.out HL.out) (hel.later HL.out) HTS.out
      unfold filled at hRF
      rw [← HNM.out, ← HNO.out] at hRF
      have HRF := hide hRF
      have HTk := hide (filterMap_take (g := fun l => fillB r.head l) hl)
      have hlen : (setF ((L.take j).filterMap fun l => fillB r.head l)).length ≤ 20000 := by
        have h1 := setF_len ((L.take j).filterMap fun l => fillB r.head l)
        have h2 := List.length_filterMap_le (fun l => fillB r.head l) (L.take j)
        rw [List.length_take] at h2
        omega
      clear hc hl hel hrr hRF
      cases hfl : fillB r.head l with
      | none =>
        rw [hfl] at HRF
        have HO' : Hid (FactsC wr (.slice oa on oc) (setF ((L.take (j + 1)).filterMap fun l => fillB r.head l))) := by show FactsC _ _ _; rw [HTk.out, hfl]; simpa using HO.out
        clear hfl HTk HO
        go_wp2_with fail
        refine HRF.out.mono ?_
        rintro e w3 ⟨f3, rfl, hfv, hL3⟩
        obtain ⟨s, rfl, hs⟩ := hfv
        obtain ⟨sA', sC', rfl⟩ := sliceStr hs
        simp only [Option.isSome_none]
        have HL3 : Hid (Later wr w3) := hL3
        clear hs hL3 HRF d0 r0 r1 r2
        go_wp2
        go_roundg (L.length - (j + 1))
        case measure => omega
        case rel => exact ⟨j + 1, by omega, by go_num, HO'.out.later (HL3.out.alloc _), HL.out.trans (HL3.out.alloc _)⟩
      | some f =>
        rw [hfl] at HRF
        have HK : Hid (∀ q, SetOf q (setF ((L.take j).filterMap fun l => fillB r.head l) ++ [f]) → q = setF ((L.take (j + 1)).filterMap fun l => fillB r.head l)) := fun q hq => by
          rw [HTk.out, hfl]; exact setF_snoc hq
        clear hfl HTk
        go_wp2_with fail
        refine HRF.out.mono ?_
        rintro e w3 ⟨f3, rfl, hfv, hL3⟩
        simp only [Option.isSome_some, Option.getD_some] at hfv ⊢
        have hfv' := hfv
        obtain ⟨s, rfl, hs⟩ := hfv
        obtain ⟨sA', sC', rfl⟩ := sliceStr hs
        obtain ⟨w4, hw4⟩ : ∃ w4, w4 = w3.alloc (.cells #[.string f.1, .slice sA' f.2.length sC'] 54) := ⟨_, rfl⟩
        have hL4 : Later w3 w4 := by rw [hw4]; exact (Later.refl _).alloc _
        have HAd := hide (rAdd (.slice oa on oc) (.agg #[.string f.1, .slice sA' f.2.length sC']) _ f w4 (HO.out.later (hL3.trans hL4)) (hfv'.later hL4) (setF_up _) (by omega))
        have HL4 := hide (HL.out.trans (hL3.trans hL4))
        have HW4 := hide hw4
        clear hs hL3 hL4 hw4 hfv' HRF HO d0 r0 r1 r2
        go_wp2_with fail
        rw [← HW4.out]
        refine HAd.out.mono ?_
        rintro e w5 ⟨v5, q5, rfl, hF5, hS5, hL5⟩
        have e5 := HK.out q5 hS5
        subst e5
        have HF5 := hide hF5
        obtain ⟨a5, n5, c5, rfl⟩ : ∃ a n c, v5 = .slice a n c := by obtain ⟨a, c, e⟩ := sliceFacts hF5.1; exact ⟨a, _, c, e⟩
        have HL5 := hide (HL4.out.trans hL5)
        clear hF5 hS5 hL5 HAd HW4 HK HL4
        go_wp2
        go_roundg (L.length - (j + 1))
        case measure => omega
        case rel => exact ⟨j + 1, by omega, by go_num, HF5, HL5⟩
    · have e : L.take j = L := List.take_of_length_le (by omega)
      rw [e] at HO
      clear e
      go_wp2
      go_ret
      exact ⟨_, rfl, HO.out, HLb.out.trans HL.out⟩

/-- What the reference's Heads tells is what the program's tells. -/
theorem heads_of {r : RuleD} {fs : List FactB} {ms : List (List BindD)} (hm : metGo (fun _ => fs) 0 r.body [[]] = some ms) :
    headsP r fs = some (setF ((ms.filter fun l => !barredB (fun _ => fs) 0 r.body l).filterMap fun l => fillB r.head l)) := by
  have hk : ∀ l ∈ ms, (keysB l).Nodup := fun l hl => by
    rw [((met_mem (fun _ => fs) r.body 0 [[]] ms [] (fun x hx => by simp at hx; subst hx; rfl) hm l).1 hl).2.1]
    exact posKeys_nodup r.body
  unfold headsP allB
  rw [hm]
  dsimp only
  congr 1
  refine setF_congr fun f => ?_
  rw [List.mem_filterMap, List.mem_filterMap]
  constructor
  · rintro ⟨l, hl, hf⟩
    rw [(sortBy_perm _).mem_iff, List.mem_map] at hl
    obtain ⟨m, hm', rfl⟩ := hl
    exact ⟨m, hm', by rw [fillB_perm (sortBy_perm m).symm (hk m (List.mem_filter.1 hm').1)]; exact hf⟩
  · rintro ⟨m, hm', hf⟩
    refine ⟨sortB m, (sortBy_perm _).mem_iff.2 (List.mem_map.2 ⟨m, hm', rfl⟩), ?_⟩
    rw [← fillB_perm (sortBy_perm m).symm (hk m (List.mem_filter.1 hm').1)]; exact hf

/-- What Heads tells, as a pair. -/
def HeadsR (w : World) (v : Value) (er : Int) : Option (List FactB) → Prop
  | none => v = .slice none 0 0 ∧ er = 4
  | some x => er = 0 ∧ Facts w v x

set_option maxRecDepth 100000 in
set_option maxHeartbeats 1000000 in
theorem rHeads (r : RuleD) (tv bv fv : Value) (fs : List FactB) (w : World) (ht : termK.sl Anyw w tv r.head.terms) (hb : atomK.sl Anyw w bv r.body) (hf : Facts w fv fs) (hw : wrongBody r.body = 0) (hfs : (setFault fs).1 = 0) (hts : ∀ t ∈ r.head.terms, t.2.length ≤ maxLen) :
    Calls Tryz.prog 21 #[.agg #[.bool r.head.no, .string (bs r.head.name), tv, bv], fv] w fun e w' => ∃ v' er, e = .returned (.tuple #[v', .int .i64 er]) ∧ HeadsR w' v' er (headsP r fs) ∧ Below w.heap.size w w' := by
  obtain ⟨ta, tc, rfl⟩ := Kind.slice ht
  obtain ⟨ba, bc, rfl⟩ := Kind.slice hb
  obtain ⟨fa, fc, rfl⟩ := sliceFacts hf
  obtain ⟨wb, hwb⟩ : ∃ wb, wb = w.alloc (.cells #[.bool r.head.no, .string (bs r.head.name), .slice ta r.head.terms.length tc, .slice ba r.body.length bc] 43) := ⟨_, rfl⟩
  have hLb : Later w wb := by rw [hwb]; exact (Later.refl w).alloc _
  have hrb : wb.heap[w.heap.size]? = some (.cells #[.bool r.head.no, .string (bs r.head.name), .slice ta r.head.terms.length tc, .slice ba r.body.length bc] 43 (0, 0)) := by rw [hwb]; exact heap_alloc_new w _
  have hltb : w.heap.size < wb.heap.size := (Array.getElem?_eq_some_iff.1 hrb).1
  have hEn := rEnvs r.body fs [] (-1) (.slice ba r.body.length bc) (.slice fa fs.length fc) (.slice none 0 0) wb (Kind.sl_later hb hLb) (hf.later hLb) (facts_nil wb) hw hfs rfl
  rw [pickB_all] at hEn
  have HEn := hide hEn
  have HT := hide (Kind.sl_later ht hLb)
  have HH := hide (fun ms => heads_of (r := r) (fs := fs) (ms := ms))
  have HTS := hide hts
  have HLb := hide hLb
  have HRb := hide hrb
  have HWb := hide hwb
  have c3 : wb.cell? ⟨w.heap.size, 3, none⟩ = some (.slice ba r.body.length bc) := by rw [cell_of_row _ _ _ _ _ _ hrb]; rfl
  rw [hwb] at c3
  have hnone : metGo (fun _ => fs) 0 r.body [[]] = none → headsP r fs = none := fun h => by unfold headsP allB; rw [h]
  have HNone := hide hnone
  have hms : ∀ ms, metGo (fun _ => fs) 0 r.body [[]] = some ms → ms.length ≤ 20000 := fun ms h => meetAll_small (fun _ => fs) r.body 0 [[]] ms (by simp) h
  have HMs := hide hms
  clear ht hb hf hw hfs hts hLb hrb hwb hEn hnone hms
  go_enter Tryz.func21, Tryz.ntmps21
  go_wp2_with fail
  rw [← HWb.out]
  refine HEn.out.mono ?_
  rintro e w1 ⟨v1, er, rfl, hT, hB1⟩
  have HB1 := hide hB1
  have HBw := hide (below_trans HLb.out.below hB1 HLb.out.size)
  have hr1 := (hB1.block _ hltb).trans HRb.out
  clear hB1 HEn HWb c3
  cases hm : metGo (fun _ => fs) 0 r.body [[]] with
  | none =>
    rw [hm] at hT
    obtain ⟨rfl, rfl⟩ := hT
    have HN := hide (HNone.out hm)
    clear hm
    go_wp2
    exact bodyPost_ret (v := .tuple #[.slice none 0 0, .int .i64 4]) (by simp [results, Tryz.results21, go_sem]) rfl ⟨_, 4, rfl, by rw [HN.out]; exact ⟨rfl, rfl⟩, HBw.out⟩
  | some ms =>
    rw [hm] at hT
    obtain ⟨rfl, hsl⟩ := hT
    have HS := hide (HH.out ms hm)
    have hml := HMs.out ms hm
    have hfl : (ms.filter fun l => !barredB (fun _ => fs) 0 r.body l).length ≤ 20000 := Nat.le_trans (List.length_filter_le _ _) hml
    have d0 : w1.cell? ⟨w.heap.size, 0, none⟩ = some (.bool r.head.no) := by rw [cell_of_row _ _ _ _ _ _ hr1]; rfl
    have d1 : w1.cell? ⟨w.heap.size, 0 + 1, none⟩ = some (.string (bs r.head.name)) := by rw [cell_of_row _ _ _ _ _ _ hr1]; rfl
    have d2 : w1.cell? ⟨w.heap.size, 0 + 2, none⟩ = some (.slice ta r.head.terms.length tc) := by rw [cell_of_row _ _ _ _ _ _ hr1]; rfl
    have d3 : w1.cell? ⟨w.heap.size, 0 + 3, none⟩ = some (.slice ba r.body.length bc) := by rw [cell_of_row _ _ _ _ _ _ hr1]; rfl
    have HMd := hide (rMade r (.slice ta r.head.terms.length tc) (.slice ba r.body.length bc) v1 _ 20 w1 (Kind.sl_below HT.out HB1.out) ⟨_, _, _, rfl⟩ hsl HTS.out hfl)
    obtain ⟨a1, n1, c1, rfl⟩ : ∃ a n c, v1 = .slice a n c := by obtain ⟨a, c, e⟩ := Kind.slice hsl; exact ⟨a, _, c, e⟩
    clear hm hsl hml hfl hr1
    generalize bs r.head.name = nm at *
    generalize r.head.no = no at *
    go_wp2_with fail
    refine HMd.out.mono ?_
    rintro e w2 ⟨v2, rfl, hF2, hL2⟩
    have HF2 := hide hF2.1
    have HB2 := hide (below_trans HBw.out hL2.below HBw.out.size)
    obtain ⟨a2, n2, c2, rfl⟩ : ∃ a n c, v2 = .slice a n c := by obtain ⟨a, c, e⟩ := sliceFacts HF2.out; exact ⟨a, _, c, e⟩
    clear hF2 hL2 HMd d0 d1 d2 d3
    go_wp2
    exact bodyPost_ret (v := .tuple #[.slice a2 n2 c2, .int .i64 0]) (by simp [results, Tryz.results21, go_sem]) rfl ⟨_, 0, rfl, by rw [HS.out]; exact ⟨rfl, HF2.out⟩, HB2.out⟩

end Go.Proofs.YtbohggoeebhdmaaGreatDoor

/- The reference's Once and Count. -/
namespace Go.Proofs.YtbohggoeebhdmaaGreatDoor
open Go.RowKit Go.Sort Go.Maps

theorem right_atoms {p : List RuleD} (hp : RightP p) : ∀ r ∈ p, wrongBody r.body = 0 ∧ ∀ t ∈ r.head.terms, t.2.length ≤ maxLen := fun r hr =>
  ⟨(hp.rules r hr).body, fun t ht => by have := term_short ((atom_zero (hp.rules r hr).head).2.2 t ht); unfold maxLen; omega⟩

theorem good_fault {p : List RuleD} {L : List FactB} (h : GoodS p L) : (setFault L).1 = 0 := by rw [fault_right h.up h.right h.few]

theorem setF_both {a x r : List FactB} (h : SetOf r (setF a ++ x)) : r = setF (a ++ x) :=
  setF_of h.1 fun g => by rw [h.2.1, List.mem_append, List.mem_append, mem_setF]

set_option maxRecDepth 100000 in
set_option maxHeartbeats 1000000 in
theorem rOnce (p : List RuleD) (ss : List Nat) (n : Int) (fs : List FactB) (pv sv fv : Value) (w : World) (hp : ruleK.sl Anyw w pv p) (hss : intK.sl Anyw w sv ss) (hf : Facts w fv fs) (hR : RightP p) (hG : GoodS p fs) :
    Calls Tryz.prog 19 #[pv, sv, .int .i64 n, fv] w fun e w' => ∃ v' er, e = .returned (.tuple #[v', .int .i64 er]) ∧ OnceT w' v' er (onceP p ss n fs) ∧ Below w.heap.size w w' := by
  obtain ⟨pa, pc, rfl⟩ := Kind.slice hp
  obtain ⟨sa, sc, rfl⟩ := Kind.slice hss
  obtain ⟨fa, fc, rfl⟩ := sliceFacts hf
  have hsl := hss.1.1
  have h16 := hR.few
  have HP := hide hp
  have HSS := hide hss
  have HF := hide hf
  have HRt := hide (right_atoms hR)
  have hfew := hG.few
  have HFt := hide (good_fault hG)
  have HF0 : Hid (Facts w (.slice fa fs.length fc) (setF fs)) := by show Facts _ _ _; rw [setF_up_self hG.up]; exact hf
  have hs0 : (setF fs).length ≤ 200 := by rw [setF_up_self hG.up]; exact hfew
  clear hp hss hf hR hG
  go_enter Tryz.func19, Tryz.ntmps19
  go_wp2
  go_loopg [10, 18] p.length (fun g o i wr => ∃ j : Nat, j + g = p.length ∧ i = .int .i64 j ∧ ∃ acc, (setF acc).length ≤ 200 ∧ Hid (Facts wr o (setF acc)) ∧ Hid (Below w.heap.size w wr) ∧ Hid (onceP p ss n fs = onceGo n fs (p.drop j) (ss.drop j) acc))
  case atStart => exact ⟨0, by omega, rfl, fs, hs0, HF0, Below.refl _ _, (rfl : _ = _)⟩
  case round =>
    clear HF0 hs0
    obtain ⟨j, hj, rfl, acc, hac, HO, HBr, HE⟩ := hrel
    obtain ⟨oa, on, oc, hov⟩ : ∃ a n c, u10 = .slice a n c := by obtain ⟨a, c, e⟩ := sliceFacts HO.out; exact ⟨a, _, c, e⟩
    subst hov
    by_cases hlt : j < p.length
    · obtain ⟨r, hr⟩ : ∃ x, p[j]? = some x := ⟨_, List.getElem?_eq_getElem hlt⟩
      have hrm : r ∈ p := List.mem_of_getElem? hr
      obtain ⟨b1, o1, _, rfl, hb1, ⟨tv, bv, rfl, htv, hbv⟩, hc⟩ := Kind.sl_at HP.out hr
      have d0 : wr.cell? ⟨b1, o1 + j * 4, none⟩ = some (.bool r.head.no) := by rw [HBr.out.cell (p := ⟨b1, o1 + j * 4, none⟩) hb1]; exact hc 0 _ rfl
      have d1 : wr.cell? ⟨b1, o1 + j * 4 + 1, none⟩ = some (.string (bs r.head.name)) := by rw [HBr.out.cell (p := ⟨b1, o1 + j * 4 + 1, none⟩) hb1]; exact hc 1 _ rfl
      have d2 : wr.cell? ⟨b1, o1 + j * 4 + 2, none⟩ = some tv := by rw [HBr.out.cell (p := ⟨b1, o1 + j * 4 + 2, none⟩) hb1]; exact hc 2 _ rfl
      have d3 : wr.cell? ⟨b1, o1 + j * 4 + 3, none⟩ = some bv := by rw [HBr.out.cell (p := ⟨b1, o1 + j * 4 + 3, none⟩) hb1]; exact hc 3 _ rfl
      have hpd : p.drop j = r :: p.drop (j + 1) := by
        obtain ⟨h1, e1⟩ := List.getElem?_eq_some_iff.1 hr
        rw [List.drop_eq_getElem_cons h1, e1]
      obtain ⟨ta, tc, rfl⟩ := Kind.slice htv
      obtain ⟨ba, bc, rfl⟩ := Kind.slice hbv
      have hwr := HBr.out.size
      have hbr1 : b1 < wr.heap.size := by omega
      by_cases hsj : j < ss.length
      · obtain ⟨s, hs⟩ : ∃ x, ss[j]? = some x := ⟨_, List.getElem?_eq_getElem hsj⟩
        obtain ⟨b2, o2, _, rfl, hb2, rfl, hc2⟩ := Kind.sl_at HSS.out hs
        have e0 : wr.cell? ⟨b2, o2 + j, none⟩ = some (.int .i64 s) := by rw [HBr.out.cell (p := ⟨b2, o2 + j, none⟩) hb2]; simpa [intK] using hc2 0 _ rfl
        have hsd : ss.drop j = s :: ss.drop (j + 1) := by
          obtain ⟨h1, e1⟩ := List.getElem?_eq_some_iff.1 hs
          rw [List.drop_eq_getElem_cons h1, e1]
        have hstep : onceP p ss n fs = if (s : Int) = n then (match headsP r fs with
            | none => (4, [])
            | some x => if 200 < (setF (acc ++ x)).length then (5, []) else onceGo n fs (p.drop (j + 1)) (ss.drop (j + 1)) (acc ++ x)) else onceGo n fs (p.drop (j + 1)) (ss.drop (j + 1)) acc := by
          rw [HE.out, hpd, hsd]; rfl
        have hsji : (j : Int) < (ss.length : Int) := by omega
        have hb2r : b2 < wr.heap.size := by omega
        by_cases hsn : (s : Int) = n
        · rw [if_pos hsn] at hstep
          obtain ⟨wb, hwb⟩ : ∃ wb, wb = wr.alloc (.cells #[.bool r.head.no, .string (bs r.head.name), .slice ta r.head.terms.length tc, .slice ba r.body.length bc] 43) := ⟨_, rfl⟩
          have hLb : Later wr wb := by rw [hwb]; exact (Later.refl _).alloc _
          have hBb : Below w.heap.size w wb := below_trans HBr.out hLb.below hwr
          have HH := hide (rHeads r (.slice ta r.head.terms.length tc) (.slice ba r.body.length bc) (.slice fa fs.length fc) fs wb (Kind.sl_below htv hBb) (Kind.sl_below hbv hBb) (HF.out.below hBb) (HRt.out r hrm).1 HFt.out (HRt.out r hrm).2)
          have HOb := hide (HO.out.later hLb)
          have HBb := hide hBb
          have HWb := hide hwb
          clear hc hc2 hr hs htv hbv hpd hsd HE hLb hBb hwb hrm HO
          have hneq : ((s : Int) != n) = false := by simp [hsn]
          generalize bs r.head.name = nm at *
          generalize hno : r.head.no = no at *
          clear hno
          subst hsn
          go_wp2_with fail
          rw [← HWb.out]
          refine HH.out.mono ?_
          rintro e w3 ⟨v3, er, rfl, hT3, hB3⟩
          have HB3 : Hid (Below w.heap.size w w3) := below_trans HBb.out hB3 HBb.out.size
          have HO3 := hide (HOb.out.below hB3)
          clear hB3 HH HWb HOb HBb
          cases hh : headsP r fs with
          | none =>
            rw [hh] at hT3 hstep
            obtain ⟨rfl, rfl⟩ := hT3
            have HT : Hid (∀ w', OnceT w' (.slice none 0 0) 4 (onceP p ss s fs)) := fun w' => by rw [hstep]; exact ⟨rfl, fun _ => rfl, fun h => by simp at h⟩
            clear hstep hh
            go_wp2
            exact bodyPost_ret (v := .tuple #[.slice none 0 0, .int .i64 4]) (by simp [results, Tryz.results19, go_sem]) rfl ⟨_, 4, rfl, HT.out _, HB3.out⟩
          | some x =>
            rw [hh] at hT3 hstep
            obtain ⟨rfl, hF3⟩ := hT3
            have hxl : x.length ≤ 20000 := by
              unfold headsP at hh
              cases hR : allB (fun _ => fs) r.body with
              | none => rw [hR] at hh; cases hh
              | some R =>
                rw [hR] at hh
                cases hh
                exact Nat.le_trans (setF_len _) (Nat.le_trans (List.length_filterMap_le _ _) (allB_small hR))
            have HBo := hide (rBoth (.slice oa on oc) v3 (setF acc) x w3 HO3.out hF3 (by omega) (by omega))
            obtain ⟨xa, xn, xc, rfl⟩ : ∃ a n c, v3 = .slice a n c := by obtain ⟨a, c, e⟩ := sliceFacts hF3; exact ⟨a, _, c, e⟩
            dsimp only at hstep
            have HST := hide hstep
            clear hF3 hh hstep HO3
            go_wp2_with fail
            refine HBo.out.mono ?_
            rintro e w4 ⟨v4, q4, rfl, hF4, hS4, hL4⟩
            have e4 := setF_both hS4
            subst e4
            have HF4 := hide hF4.1
            have HB4 : Hid (Below w.heap.size w w4) := below_trans HB3.out hL4.below HB3.out.size
            obtain ⟨a4, n4, c4, hv4, hn4⟩ : ∃ a n c, v4 = .slice a n c ∧ n = (setF (acc ++ x)).length := by obtain ⟨a, c, e⟩ := sliceFacts hF4.1; exact ⟨a, _, c, e, rfl⟩
            subst hv4
            clear hF4 hS4 hL4 HBo
            by_cases hbig : 200 < (setF (acc ++ x)).length
            · have HT : Hid (∀ w', OnceT w' (.slice none 0 0) 5 (onceP p ss s fs)) := fun w' => by rw [HST.out, if_pos hbig]; exact ⟨rfl, fun _ => rfl, fun h => by simp at h⟩
              have hbi : (200 : Int) < (n4 : Int) := by omega
              clear HST hbig hn4
              go_wp2
              exact bodyPost_ret (v := .tuple #[.slice none 0 0, .int .i64 5]) (by simp [results, Tryz.results19, go_sem]) rfl ⟨_, 5, rfl, HT.out _, HB4.out⟩
            · have HE4 : Hid (onceP p ss s fs = onceGo s fs (p.drop (j + 1)) (ss.drop (j + 1)) (acc ++ x)) := by show _ = _; rw [HST.out, if_neg hbig]
              have hbi : ¬ (200 : Int) < (n4 : Int) := by omega
              have hb4 : (setF (acc ++ x)).length ≤ 200 := by omega
              clear HST hbig hn4
              go_wp2
              go_roundg (p.length - (j + 1))
              case measure => omega
              case rel => exact ⟨j + 1, by omega, by go_num, acc ++ x, hb4, HF4, HB4, HE4⟩
        · rw [if_neg hsn] at hstep
          have HE4 : Hid (onceP p ss n fs = onceGo n fs (p.drop (j + 1)) (ss.drop (j + 1)) acc) := hstep
          have HB4 : Hid (Below w.heap.size w (wr.alloc (.cells #[.bool r.head.no, .string (bs r.head.name), .slice ta r.head.terms.length tc, .slice ba r.body.length bc] 43))) := below_trans HBr.out ((Later.refl _).alloc _).below hwr
          have HK4 : Hid (Facts (wr.alloc (.cells #[.bool r.head.no, .string (bs r.head.name), .slice ta r.head.terms.length tc, .slice ba r.body.length bc] 43)) (.slice oa on oc) (setF acc)) := HO.out.later ((Later.refl _).alloc _)
          have hneq : ((s : Int) != n) = true := by simpa using hsn
          clear hstep hc hc2 hr hs htv hbv hpd hsd HE hsn hrm HO
          generalize bs r.head.name = nm at *
          generalize r.head.no = no at *
          go_wp2
          go_roundg (p.length - (j + 1))
          case measure => omega
          case rel => exact ⟨j + 1, by omega, by go_num, acc, hac, HK4, HB4, HE4⟩
      · have hsd : ss.drop j = [] := List.drop_eq_nil_of_le (by omega)
        have hsd2 : ss.drop (j + 1) = [] := List.drop_eq_nil_of_le (by omega)
        have HE4 : Hid (onceP p ss n fs = onceGo n fs (p.drop (j + 1)) (ss.drop (j + 1)) acc) := by show _ = _; rw [HE.out, hsd, hsd2, onceGo_none, onceGo_none]
        have HB4 : Hid (Below w.heap.size w (wr.alloc (.cells #[.bool r.head.no, .string (bs r.head.name), .slice ta r.head.terms.length tc, .slice ba r.body.length bc] 43))) := below_trans HBr.out ((Later.refl _).alloc _).below hwr
        have HK4 : Hid (Facts (wr.alloc (.cells #[.bool r.head.no, .string (bs r.head.name), .slice ta r.head.terms.length tc, .slice ba r.body.length bc] 43)) (.slice oa on oc) (setF acc)) := HO.out.later ((Later.refl _).alloc _)
        have hsji : (ss.length : Int) ≤ (j : Int) := by omega
        clear hc hr htv hbv hpd hsd hsd2 HE hrm hsj HO
        generalize bs r.head.name = nm at *
        generalize r.head.no = no at *
        go_wp2
        go_roundg (p.length - (j + 1))
        case measure => omega
        case rel => exact ⟨j + 1, by omega, by go_num, acc, hac, HK4, HB4, HE4⟩
    · have hd : p.drop j = [] := List.drop_eq_nil_of_le (by omega)
      have HX : Hid (onceP p ss n fs = (0, setF acc)) := by show _ = _; rw [HE.out, hd]; rfl
      clear hd HE
      go_wp2
      exact bodyPost_ret (v := .tuple #[.slice oa on oc, .int .i64 0]) (by simp [results, Tryz.results19, go_sem]) rfl ⟨_, 0, rfl, by rw [HX.out]; exact ⟨rfl, fun h => absurd rfl h, fun _ => HO.out⟩, HBr.out⟩

theorem countP_snoc (ss : List Nat) (s : Nat) : countP (ss ++ [s]) = max (countP ss) (s + 1) := by
  induction ss with
  | nil => simp [countP]
  | cons t ss ih => simp only [List.cons_append, countP, ih]; omega

set_option maxRecDepth 100000 in
set_option maxHeartbeats 1000000 in
theorem rCount (ss : List Nat) (v : Value) (w : World) (hv : intK.sl Anyw w v ss) (hs : ∀ s ∈ ss, s < 1000) :
    Calls Tryz.prog 17 #[v] w fun e w' => e = .returned (.int .i64 (countP ss : Nat)) ∧ w' = w := by
  obtain ⟨a, cap, rfl⟩ := Kind.slice hv
  have hl := hv.1.1
  have HV := hide hv
  have HS := hide hs
  clear hv hs
  go_enter Tryz.func17, Tryz.ntmps17
  go_wp2
  go_loopg [3, 8] ss.length (fun g n i wr => ∃ j : Nat, j + g = ss.length ∧ i = .int .i64 j ∧ n = .int .i64 (countP (ss.take j) : Nat) ∧ wr = w)
  case atStart => exact ⟨0, by omega, rfl, rfl, rfl⟩
  case round =>
    obtain ⟨j, hj, rfl, rfl, rfl⟩ := hrel
    by_cases hlt : j < ss.length
    · obtain ⟨s, hsj⟩ : ∃ x, ss[j]? = some x := ⟨_, List.getElem?_eq_getElem hlt⟩
      obtain ⟨b2, o2, _, rfl, hb2, rfl, hc2⟩ := Kind.sl_at HV.out hsj
      have e0 : wr.cell? ⟨b2, o2 + j, none⟩ = some (.int .i64 s) := by simpa [intK] using hc2 0 _ rfl
      have hs1 := HS.out s (List.mem_of_getElem? hsj)
      have hcl : countP (ss.take j) ≤ 1000 := countP_le fun t ht => HS.out t (List.mem_of_mem_take ht)
      have hck : countP (ss.take (j + 1)) = max (countP (ss.take j)) (s + 1) := by rw [List.take_add_one, hsj]; exact countP_snoc _ _
      have HCk := hide hck
      generalize countP (ss.take j) = cj at *
      have hmax : max (cj : Int) ((s : Int) + 1) = ((max cj (s + 1) : Nat) : Int) := by omega
      clear hc2 hsj hck
      go_wp2
      go_roundg (ss.length - (j + 1))
      case measure => omega
      case rel => exact ⟨j + 1, by omega, by go_num, by rw [HCk.out], rfl⟩
    · have e : ss.take j = ss := List.take_of_length_le (by omega)
      rw [e]
      go_wp2
      go_ret
      exact ⟨rfl, rfl⟩

end Go.Proofs.YtbohggoeebhdmaaGreatDoor

/- Rows of atoms that a call owns, their terms from before it. Nothing of the program but types' numbers. -/
namespace Go.Proofs.YtbohggoeebhdmaaGreatDoor
open Go.RowKit Go.Sort

theorem infoAtom4 : ∃ i, Tryz.prog.info? 40 = some i ∧ i.zero = some (.agg #[.bool false, .string ByteArray.empty, .slice none 0 0]) ∧ i.size = 3 ∧ i.bytes = 48 := ⟨Tryz.t40, by kernel_rfl, by kernel_rfl, by kernel_rfl, by kernel_rfl⟩

/-- A row of atoms of a call's own; their terms were there in w0. -/
def RowA (w0 : World) (lo : Nat) (w : World) (v : Value) (l : List AtomD) : Prop :=
  ∃ xs, w.ownsRow lo 40 3 v l.length xs ∧ ∀ i a, l[i]? = some a → ∃ c, atomK.is Anyw w0 c a ∧ ∀ j u, c[j]? = some u → xs[i * 3 + j]? = some u

theorem RowA.nil (w0 : World) (lo : Nat) (w : World) : RowA w0 lo w (.slice none 0 0) [] := ⟨[], World.ownsRow_nil w _ _ _, fun i a h => by simp at h⟩

theorem RowA.slice {w0 w : World} {lo : Nat} {v : Value} {l : List AtomD} (h : RowA w0 lo w v l) : ∃ a cap, v = .slice a l.length cap := by
  obtain ⟨xs, ho, _⟩ := h
  rcases ho.2 with ⟨rfl, e⟩ | ⟨g, cap, cur, rfl, _⟩
  · exact ⟨none, 0, by rw [e]⟩
  · exact ⟨_, cap, rfl⟩

theorem RowA.lo {w0 w : World} {lo : Nat} {v : Value} {l : List AtomD} (h : RowA w0 lo w v l) : ∀ k, v.ownBlock = some k → lo ≤ k ∧ k < w.heap.size := fun k e => by
  obtain ⟨xs, ho, _⟩ := h; exact ho.lt k e

/-- One atom more. -/
theorem RowA.more {w0 w : World} {lo : Nat} {v : Value} {l : List AtomD} (h : RowA w0 lo w v l) (hs : lo ≤ w.heap.size) {c : List Value} {a : AtomD} (hc : atomK.is Anyw w0 c a) (hl : (l.length + 1) * 48 ≤ 140737488355328) :
    ∃ v' w', (Builtin.append_ #[41, 41] 41 #[v, .slice (some ⟨w.heap.size, 0, none⟩) 1 1]).run Tryz.prog (w.alloc (.cells c.toArray 40)) = .ok v' w' ∧ RowA w0 lo w' v' (l ++ [a]) ∧ (w.alloc (.cells c.toArray 40)).grownBy w' v.ownBlock ∧ w.drawn ≤ w'.drawn := by
  obtain ⟨i, i1, i2, i3, i4⟩ := infoAtom4
  obtain ⟨xs, ho, hx⟩ := h
  have hcl : c.length = 3 := atomK.len hc
  have hnews : ∀ j u, c[j]? = some u → (w.alloc (.cells c.toArray 40)).cell? ((⟨w.heap.size, 0, none⟩ : Addr).add j) = some u := by
    intro j u hu
    rw [Addr.add_lit, Nat.zero_add, cell_of_row _ w.heap.size j c.toArray 40 (0, 0) (heap_alloc_new w _)]
    simpa using hu
  obtain ⟨v', w', hrun, r1, r2, r3, _⟩ := append_own (P := Tryz.prog) (w.alloc (.cells c.toArray 40)) lo 41 41 40 i _ 3 48 Tryz.underlying41 i1 i2 i3 i4 rfl (by omega) v l.length xs (ho.alloc _) ⟨w.heap.size, 0, none⟩ 1 1 c (by rw [hcl]) hnews
    (atomK.one hc) (by simp only [maxLen]; omega) hl (by simp; omega)
  refine ⟨v', w', hrun, ⟨xs ++ c, by simpa using r1, fun j y hj => ?_⟩, r2, r3⟩
  have hxl : xs.length = l.length * 3 := ho.1
  by_cases hjl : j < l.length
  · rw [List.getElem?_append_left hjl] at hj
    obtain ⟨d, d1, d2⟩ := hx j y hj
    refine ⟨d, d1, fun q u hu => ?_⟩
    have := d2 q u hu
    rw [List.getElem?_append_left (List.getElem?_eq_some_iff.1 this).1]; exact this
  · rw [List.getElem?_append_right (by omega)] at hj
    have hj' : j = l.length := by
      have := (List.getElem?_eq_some_iff.1 hj).1
      simp at this; omega
    subst hj'
    simp at hj
    subst hj
    refine ⟨c, hc, fun q u hu => ?_⟩
    rw [List.getElem?_append_right (by omega), hxl, Nat.add_sub_cancel_left]; exact hu

theorem RowA.sl {w0 w : World} {lo : Nat} {v : Value} {l : List AtomD} (h : RowA w0 lo w v l) (hb : Below w0.heap.size w0 w) (hl : l.length ≤ 8796093022208) : atomK.sl Anyw w v l := by
  obtain ⟨xs, ho, hx⟩ := h
  rcases ho.2 with ⟨rfl, e⟩ | ⟨g, cap, cur, rfl, hbg, hg, hnc, _⟩
  · have : l = [] := List.eq_nil_of_length_eq_zero e
    subst this
    exact atomK.sl_nil _ _ _ _
  · refine ⟨⟨hl, hnc⟩, _, cap, rfl, fun _ => ⟨g, 0, rfl, trivial, (Array.getElem?_eq_some_iff.1 hg).1, fun i x hi => ?_⟩⟩
    obtain ⟨c, c1, c2⟩ := hx i x hi
    refine ⟨c, atomK.kept c1 hb.size fun k hk _ => hb.block k hk, fun j u hu => ?_⟩
    have := ho.cells (g := g) rfl _ u (c2 j u hu)
    rw [Addr.add_lit] at this
    rw [Nat.add_assoc]; exact this

theorem RowA.one {w0 w : World} {lo : Nat} {c : List Value} {a : AtomD} (hc : atomK.is Anyw w0 c a) (hs : lo ≤ w.heap.size) : RowA w0 lo (w.alloc (.cells c.toArray 40)) (.slice (some ⟨w.heap.size, 0, none⟩) 1 1) [a] := by
  have hcl : c.length = 3 := atomK.len hc
  refine ⟨c, ⟨by rw [hcl]; rfl, Or.inr ⟨w.heap.size, 1, c.toArray, rfl, hs, heap_alloc_new _ _, by simp, by simp [maxLen], by simp [hcl], by show c.take 3 = c; rw [← hcl]; simp⟩⟩, fun i x hi => ?_⟩
  cases i with
  | zero =>
    simp at hi
    subst hi
    exact ⟨c, hc, fun j u hu => by rw [Nat.zero_mul, Nat.zero_add]; exact hu⟩
  | succ i => simp at hi

/-- Apart from block b, that lies behind what was there and ahead of the row. -/
theorem RowA.slB {w0 w : World} {lo b : Nat} {v : Value} {l : List AtomD} (h : RowA w0 lo w v l) (hb : Below w0.heap.size w0 w) (hl : l.length ≤ 8796093022208) (h1 : w0.heap.size ≤ b) (h2 : b < lo) : atomK.sl (fun k => k ≠ b) w v l := by
  obtain ⟨xs, ho, hx⟩ := h
  rcases ho.2 with ⟨rfl, e⟩ | ⟨g, cap, cur, rfl, hbg, hg, hnc, _⟩
  · have : l = [] := List.eq_nil_of_length_eq_zero e
    subst this
    exact atomK.sl_nil _ _ _ _
  · refine ⟨⟨hl, hnc⟩, _, cap, rfl, fun _ => ⟨g, 0, rfl, by show g ≠ b; omega, (Array.getElem?_eq_some_iff.1 hg).1, fun i x hi => ?_⟩⟩
    obtain ⟨c, c1, c2⟩ := hx i x hi
    refine ⟨c, atomK.kept (atomK.mono c1 fun k hk _ => (by omega : k ≠ b)) hb.size fun k hk _ => hb.block k hk, fun j u hu => ?_⟩
    have := ho.cells (g := g) rfl _ u (c2 j u hu)
    rw [Addr.add_lit] at this
    rw [Nat.add_assoc]; exact this

end Go.Proofs.YtbohggoeebhdmaaGreatDoor
