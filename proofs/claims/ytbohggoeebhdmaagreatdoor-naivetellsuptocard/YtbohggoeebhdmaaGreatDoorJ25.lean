/- Texts of this claim, one behind the other. -/
import Derived.Test.YtbohggoeebhdmaaGreatDoorJ24
import Derived.Test.YtbohggoeebhdmaaGreatDoorJ16
import Derived.Test.YtbohggoeebhdmaaGreatDoorJ20
import Derived.Test.YtbohggoeebhdmaaGreatDoorRows
import Derived.Maps.StringElems
import Derived.Maps.Ext
import Derived.Maps.RangeWalk
import Derived.Test.YtbohggoeebhdmaaGreatDoorJ2
import Derived.Test.YtbohggoeebhdmaaGreatDoorJ3
import Derived.Test.YtbohggoeebhdmaaGreatDoorJ5
import Derived.Test.YtbohggoeebhdmaaGreatDoorJ9
import Derived.Sort.KeysCollected
/- The walk of NaiveHeads. -/
namespace Go.Proofs.YtbohggoeebhdmaaGreatDoor
open Go.RowKit Go.Sort Go.Maps

/-- What a head that is not too long makes is not too long. -/
theorem head_long {r : RuleD} {fs : List FactB} {R : List (List BindD)} {l : List BindD} {f : FactB} (h0 : errW r.body fs [] = 0) (hn : r.head.name.length ≤ 2097152) (ht : r.head.terms.length ≤ 2097152) (hx : ∀ t ∈ r.head.terms, t.2.length ≤ 2097152)
    (hR : allB (fun _ => fs) r.body = some R) (hl : l ∈ R) (hf : fillB r.head l = some f) : LongF f := by
  obtain ⟨h1, h2, _⟩ := errW_zero h0
  obtain ⟨_, _, h3⟩ := set_right h2
  have hfit := (all_mem (covers_of h1) hR l).1 hl
  obtain ⟨e1, e2⟩ := fill_name hf
  refine ⟨by rw [e1, size_bs]; exact hn, by rw [fillArgs_len e2]; exact ht, fun s hs => ?_⟩
  obtain ⟨t, ht', hw⟩ := fillArgs_from e2 s hs
  unfold worthB at hw
  split at hw
  · have := named_short (env_right (fun f hf => wrongF_right.1 (h3 f hf)) hfit hw); omega
  · cases hw; rw [size_bs]; exact hx t ht'

theorem mem_heads {a : AtomD} {R : List (List BindD)} {g : FactB} : g ∈ setF (R.filterMap fun l => fillB a l) ↔ ∃ b ∈ R, fillB a b = some g := by
  rw [mem_setF, List.mem_filterMap]

theorem take_made {a : AtomD} {R : List (List BindD)} {j : Nat} {b : List BindD} (hb : R[j]? = some b) (f : FactB) : (∃ x ∈ R.take (j + 1), fillB a x = some f) ↔ (∃ x ∈ R.take j, fillB a x = some f) ∨ fillB a b = some f := by
  rw [List.take_add_one, hb]
  constructor
  · rintro ⟨x, hx, h⟩
    rcases List.mem_append.1 hx with hx | hx
    · exact Or.inl ⟨x, hx, h⟩
    · have e : x = b := by simpa using hx
      exact Or.inr (e ▸ h)
  · rintro (⟨x, hx, h⟩ | h)
    · exact ⟨x, List.mem_append_left _ hx, h⟩
    · exact ⟨b, by simp, h⟩

/-- Whether it was made so far. -/
def MadeQ (a : AtomD) (T : List (List BindD)) (f : FactB) (q : Bool) : Prop := q = true ↔ ∃ b ∈ T, fillB a b = some f

set_option maxRecDepth 100000 in
set_option maxHeartbeats 4000000 in
theorem naiveHeadsW (r : RuleD) (tv bv fv u : Value) (fs : List FactB) (f : FactB) (w : World) (m : Int) (hm : w.cell? ⟨3, 0, none⟩ = some (.int .i64 m)) (ht : termK.sl Anyw w tv r.head.terms) (hb : atomK.sl Anyw w bv r.body) (hf : Facts w fv fs) (hu : FactV w u f) (hTb : TabN w)
    (hn1 : r.head.name.length ≤ 2097152) (hn2 : r.head.terms.length ≤ 2097152) (hn3 : ∀ t ∈ r.head.terms, t.2.length ≤ 2097152) :
    Calls Tryz.prog 8 #[.agg #[.bool r.head.no, .string (bs r.head.name), tv, bv], fv, u] w fun e w' => e = .returned (.bool true) ∧ Below w.heap.size w w' := by
  obtain ⟨su, rfl, hsu⟩ := hu
  obtain ⟨ta, tc, rfl⟩ := Kind.slice ht
  obtain ⟨ba, bc, rfl⟩ := Kind.slice hb
  obtain ⟨fa, fc, rfl⟩ := sliceFacts hf
  obtain ⟨ua, uc, rfl⟩ := sliceStr hsu
  obtain ⟨wb, hwb⟩ : ∃ wb, wb = (w.alloc (.cells #[.bool r.head.no, .string (bs r.head.name), .slice ta r.head.terms.length tc, .slice ba r.body.length bc] 43)).alloc (.cells #[.string f.1, .slice ua f.2.length uc] 54) := ⟨_, rfl⟩
  have hLb : Later w wb := by rw [hwb]; exact ((Later.refl w).alloc _).alloc _
  have hrb : wb.heap[w.heap.size]? = some (.cells #[.bool r.head.no, .string (bs r.head.name), .slice ta r.head.terms.length tc, .slice ba r.body.length bc] 43 (0, 0)) := by
    rw [hwb]; simp only [heap_at, World.size_alloc]
    repeat (first | rw [if_pos trivial] | rw [if_pos (by omega)] | rw [if_neg (by omega)])
  have hgb : wb.heap[w.heap.size + 1]? = some (.cells #[.string f.1, .slice ua f.2.length uc] 54 (0, 0)) := by
    rw [hwb]; simp only [heap_at, World.size_alloc]
    repeat (first | rw [if_pos trivial] | rw [if_pos (by omega)] | rw [if_neg (by omega)])
  have hlt0 : w.heap.size < wb.heap.size := (Array.getElem?_eq_some_iff.1 hrb).1
  have hlt1 : w.heap.size + 1 < wb.heap.size := (Array.getElem?_eq_some_iff.1 hgb).1
  have hmlt : 3 < w.heap.size := by
    refine Classical.byContradiction fun h => ?_
    rw [World.cell?, Array.getElem?_eq_none (by simpa using h)] at hm
    simp at hm
  have HA := hide (alive5 wb m (by rw [hLb.cell (p := ⟨3, 0, none⟩) hmlt]; exact hm))
  have HWB := hide hwb
  have HLb := hide hLb.below
  have HRb := hide hrb
  have HGb := hide hgb
  have HT0 := hide (Kind.sl_later ht hLb)
  have HB0 := hide (Kind.sl_later hb hLb)
  have HF0 := hide (hf.later hLb)
  have HS0 : Hid (FactV wb (.agg #[.string f.1, .slice ua f.2.length uc]) f) := FactV.later ⟨_, rfl, hsu⟩ hLb
  have HTab := hide (hTb.later hLb)
  have HLong : Hid (errW r.body fs [] = 0 → ∀ R, allB (fun _ => fs) r.body = some R → ∀ l ∈ R, ∀ f, fillB r.head l = some f → LongF f) := fun h0 R hR l hl f hf => head_long h0 hn1 hn2 hn3 hR hl hf
  clear hwb hLb hrb hgb ht hb hf hsu hTb hm hmlt hn1 hn2 hn3
  go_enter Tryz.func8, Tryz.ntmps8
  go_wp2_with fail
  rw [← HWB.out]
  refine HA.out.mono ?_
  rintro e w1 ⟨rfl, hB1⟩
  have hrow1 : w1.heap[w.heap.size]? = some (.cells #[.bool r.head.no, .string (bs r.head.name), .slice ta r.head.terms.length tc, .slice ba r.body.length bc] 43 (0, 0)) := by rw [hB1.block _ hlt0]; exact HRb.out
  have d0 : w1.cell? ⟨w.heap.size, 0, none⟩ = some (.bool r.head.no) := by rw [cell_of_row _ _ _ _ _ _ hrow1]; rfl
  have d1 : w1.cell? ⟨w.heap.size, 0 + 1, none⟩ = some (.string (bs r.head.name)) := by rw [cell_of_row _ _ _ _ _ _ hrow1]; rfl
  have d2 : w1.cell? ⟨w.heap.size, 0 + 2, none⟩ = some (.slice ta r.head.terms.length tc) := by rw [cell_of_row _ _ _ _ _ _ hrow1]; rfl
  have d3 : w1.cell? ⟨w.heap.size, 0 + 3, none⟩ = some (.slice ba r.body.length bc) := by rw [cell_of_row _ _ _ _ _ _ hrow1]; rfl
  have HH := hide (headsL r (.slice ta r.head.terms.length tc) (.slice ba r.body.length bc) (.slice fa fs.length fc) fs w1 (Kind.sl_below HT0.out hB1) (Kind.sl_below HB0.out hB1) (HF0.out.below hB1) (HTab.out.below hB1) HLong.out)
  have HB1 := hide hB1
  clear hB1 hrow1 HA HWB HTab HLong
  have hex : ∃ nm no, nm = bs r.head.name ∧ no = r.head.no := ⟨_, _, rfl, rfl⟩
  obtain ⟨nm, no, hnm, hno⟩ := hex
  have HNM := hide hnm
  have HNO := hide hno
  rw [← hnm] at d1 HH
  rw [← hno] at d0 HH
  clear hnm hno
  go_wp2_with fail
  refine HH.out.mono ?_
  rintro e w2 ⟨v2, er, rfl, hT2, hB2⟩
  have hB12 := below_trans HB1.out hB2 HB1.out.size
  have HB12 := hide hB12
  have hrow2 : w2.heap[w.heap.size]? = some (.cells #[.bool r.head.no, .string (bs r.head.name), .slice ta r.head.terms.length tc, .slice ba r.body.length bc] 43 (0, 0)) := by rw [hB12.block _ hlt0]; exact HRb.out
  have d3' : w2.cell? ⟨w.heap.size, 3, none⟩ = some (.slice ba r.body.length bc) := by rw [cell_of_row _ _ _ _ _ _ hrow2]; rfl
  have HAC := hide (allC r.body (.slice ba r.body.length bc) (.slice fa fs.length fc) fs w2 (Kind.sl_below HB0.out hB12) (HF0.out.below hB12))
  have HT2 := hide hT2
  obtain ⟨a2, n2, c2, rfl⟩ : ∃ a n c, v2 = .slice a n c := by
    unfold HeadsT at hT2
    split at hT2
    · exact ⟨_, _, _, hT2.1⟩
    · split at hT2
      · exact ⟨_, _, _, hT2.1⟩
      · obtain ⟨a, c, e⟩ := sliceFacts hT2.2; exact ⟨a, _, c, e⟩
  clear hT2 hB2 hB12 hrow2 HH d0 d1 d2 d3 HB1
  go_wp2_with fail
  refine HAC.out.mono ?_
  rintro e w3 ⟨v3, er3, rfl, hT3, hB3⟩
  have HB23 := hide hB3
  have hB13 := below_trans HB12.out hB3 HB12.out.size
  have HB13 := hide hB13
  have HBw : Hid (Below w.heap.size w w3) := below_trans HLb.out hB13 HLb.out.size
  have hT2 := HT2.out
  unfold HeadsT at hT2
  unfold WithT at hT3
  rw [pickB_all] at hT3
  clear HAC hB3 hB13 d3' HT2
  by_cases h0 : errW r.body fs [] = 0
  · rw [if_neg (by simp [h0])] at hT2 hT3
    unfold headsP at hT2
    cases hR : allB (fun _ => fs) r.body with
    | none =>
      rw [hR] at hT2 hT3
      obtain ⟨h2v, h2e⟩ := hT2
      obtain ⟨rfl, rfl⟩ := hT3
      subst h2e
      clear h0 hR h2v
      go_wp2
      go_ret
      exact ⟨rfl, HBw.out⟩
    | some R =>
      rw [hR] at hT2 hT3
      obtain ⟨rfl, hX⟩ := hT2
      obtain ⟨rfl, hsl⟩ := hT3
      obtain ⟨X, hXe⟩ : ∃ X, X = setF (R.filterMap fun l => fillB r.head l) := ⟨_, rfl⟩
      have hXm : ∀ g, g ∈ X ↔ ∃ b ∈ R, fillB r.head b = some g := fun g => by rw [hXe]; exact mem_heads
      have hXu : Up X := by rw [hXe]; exact setF_up _
      rw [← hXe] at hX
      have HX := hide (hX.below HB23.out)
      have HXm := hide hXm
      have HXu := hide hXu
      have hsmall := allB_small hR
      have HRL := hide hsl
      obtain ⟨ra, rc, rfl⟩ := Kind.slice hsl
      have hmade : MadeQ r.head (R.take 0) f false := by unfold MadeQ; simp
      have HMade := hide hmade
      clear h0 hR hX hXm hXu hXe hsl hmade HB12 HB23
      go_wp2
      go_loopg [11, 42] R.length (fun g mb i wr => ∃ j : Nat, j + g = R.length ∧ i = .int .i64 j ∧ ∃ q : Bool, mb = .bool q ∧ Hid (MadeQ r.head (R.take j) f q) ∧ Hid (Below w3.heap.size w3 wr))
      case atStart => exact ⟨0, by omega, rfl, false, rfl, HMade, Below.refl _ _⟩
      case round =>
        clear HMade
        obtain ⟨j, hj, rfl, q, rfl, HQ, HBr⟩ := hrel
        have hBr13 := below_trans HB13.out HBr.out HB13.out.size
        have hrowr : wr.heap[w.heap.size]? = some (.cells #[.bool r.head.no, .string (bs r.head.name), .slice ta r.head.terms.length tc, .slice ba r.body.length bc] 43 (0, 0)) := by rw [hBr13.block _ hlt0]; exact HRb.out
        have hrowg : wr.heap[w.heap.size + 1]? = some (.cells #[.string f.1, .slice ua f.2.length uc] 54 (0, 0)) := by rw [hBr13.block _ hlt1]; exact HGb.out
        have HSr := hide (factV_below HS0.out hBr13)
        by_cases hlt : j < R.length
        · obtain ⟨l, hx⟩ : ∃ x, R[j]? = some x := ⟨_, List.getElem?_eq_getElem hlt⟩
          obtain ⟨b1, o1, _, rfl, hb1, ⟨lv, rfl, hlv⟩, hc⟩ := Kind.sl_at HRL.out hx
          have d0 : wr.cell? ⟨b1, o1 + j, none⟩ = some lv := by rw [HBr.out.cell (p := ⟨b1, o1 + j, none⟩) hb1]; simpa [slK] using hc 0 _ rfl
          have HLV := hide hlv
          obtain ⟨la, lc, rfl⟩ := Kind.slice hlv
          have r0 : wr.cell? ⟨w.heap.size, 0, none⟩ = some (.bool r.head.no) := by rw [cell_of_row _ _ _ _ _ _ hrowr]; rfl
          have r1 : wr.cell? ⟨w.heap.size, 0 + 1, none⟩ = some (.string (bs r.head.name)) := by rw [cell_of_row _ _ _ _ _ _ hrowr]; rfl
          have r2 : wr.cell? ⟨w.heap.size, 0 + 2, none⟩ = some (.slice ta r.head.terms.length tc) := by rw [cell_of_row _ _ _ _ _ _ hrowr]; rfl
          have HFc := hide (fillC r.head (.slice ta r.head.terms.length tc) (.slice la l.length lc) l wr (Kind.sl_below HT0.out hBr13) (Kind.sl_below HLV.out HBr.out))
          have htm := take_made (a := r.head) hx f
          have HHx := hide (List.mem_of_getElem? hx)
          have HRowG := hide hrowg
          have HBr13 := hide hBr13
          unfold filled at HFc
          have hwlt : w.heap.size + 1 < wr.heap.size := (Array.getElem?_eq_some_iff.1 hrowg).1
          clear hc hx hlv hrowr hrowg hBr13
          rw [← HNM.out] at r1 HFc
          rw [← HNO.out] at r0 HFc
          cases hfl : fillB r.head l with
          | none =>
            rw [hfl] at HFc htm
            have HQ' : Hid (MadeQ r.head (R.take (j + 1)) f q) := by
              show MadeQ _ _ _ _
              have hq := HQ.out; unfold MadeQ at hq ⊢; rw [htm, hq]; simp
            clear hfl htm HQ HHx HRowG
            go_wp2_with fail
            refine HFc.out.mono ?_
            rintro e w4 ⟨f3, rfl, hfv, hL4⟩
            obtain ⟨s, rfl, hs⟩ := hfv
            obtain ⟨sA', sC', rfl⟩ := sliceStr hs
            simp only [Option.isSome_none]
            have HL4 : Hid (Later wr w4) := hL4
            clear hs hL4 HFc d0 r0 r1 r2
            cases q
            · go_wp2
              go_roundg (R.length - (j + 1))
              case measure => omega
              case rel => exact ⟨j + 1, by omega, by go_num, false, rfl, HQ', below_trans HBr.out (HL4.out.alloc _).below HBr.out.size⟩
            · go_wp2
              go_roundg (R.length - (j + 1))
              case measure => omega
              case rel => exact ⟨j + 1, by omega, by go_num, true, rfl, HQ', below_trans HBr.out (HL4.out.alloc _).below HBr.out.size⟩
          | some g =>
            rw [hfl] at HFc htm
            have hgX : g ∈ X := (HXm.out g).2 ⟨l, HHx.out, hfl⟩
            have HGX := hide hgX
            have HTM := hide htm
            clear hfl htm hgX HHx
            go_wp2_with fail
            refine HFc.out.mono ?_
            rintro e w4 ⟨f3, rfl, hfv, hL4⟩
            simp only [Option.isSome_some, Option.getD_some] at hfv ⊢
            have hfv' := hfv
            obtain ⟨s, rfl, hs⟩ := hfv
            obtain ⟨sA', sC', rfl⟩ := sliceStr hs
            obtain ⟨w5, hw5⟩ : ∃ w5, w5 = w4.alloc (.cells #[.string g.1, .slice sA' g.2.length sC'] 54) := ⟨_, rfl⟩
            have hL5 : Later w4 w5 := by rw [hw5]; exact (Later.refl _).alloc _
            have hrow5 : w5.heap[w4.heap.size]? = some (.cells #[.string g.1, .slice sA' g.2.length sC'] 54 (0, 0)) := by rw [hw5]; exact heap_alloc_new w4 _
            have hL45 := hL4.trans hL5
            have hrowg5 : w5.heap[w.heap.size + 1]? = some (.cells #[.string f.1, .slice ua f.2.length uc] 54 (0, 0)) := by rw [hL45.block hwlt]; exact HRowG.out
            have HG5 := hide (hfv'.later hL5)
            have HF5 := hide (HSr.out.later hL45)
            have HB5 := hide (below_trans HBr.out hL45.below HBr.out.size)
            have g0 : w5.cell? ⟨w4.heap.size, 0, none⟩ = some (.string g.1) := by rw [cell_of_row _ _ _ _ _ _ hrow5]; rfl
            have g1 : w5.cell? ⟨w4.heap.size, 0 + 1, none⟩ = some (.slice sA' g.2.length sC') := by rw [cell_of_row _ _ _ _ _ _ hrow5]; rfl
            have f0 : w5.cell? ⟨w.heap.size + 1, 0, none⟩ = some (.string f.1) := by rw [cell_of_row _ _ _ _ _ _ hrowg5]; rfl
            have f1 : w5.cell? ⟨w.heap.size + 1, 0 + 1, none⟩ = some (.slice ua f.2.length uc) := by rw [cell_of_row _ _ _ _ _ _ hrowg5]; rfl
            have HX5 := hide (HX.out.below HB5.out)
            have HIn : Hid (∀ w', Later w5 w' → Calls Tryz.prog 31 #[.slice a2 n2 c2, .agg #[.string g.1, .slice sA' g.2.length sC']] w' fun e w'' => e = .returned (.bool true) ∧ Later w' w'') := fun w' hL => by
              have := inC (.slice a2 n2 c2) _ X g w' (HX5.out.later hL) (HG5.out.later hL) HXu.out
              rw [in_eq, inB_iff.2 HGX.out] at this
              exact this
            have HW5 := hide hw5
            have hw4lt : w4.heap.size < w5.heap.size := (Array.getElem?_eq_some_iff.1 hrow5).1
            have HRow5 := hide hrow5
            clear hs hL4 hL5 hL45 hrow5 hrowg5 hw5 hfv' HFc d0 r0 r1 r2 HGX HSr HRowG HBr13
            cases q
            · have HCm := hide (compareF _ _ f g w5 HF5.out HG5.out)
              rw [HW5.out] at f0 f1
              by_cases hfg : f = g
              · have HQ' : Hid (MadeQ r.head (R.take (j + 1)) f true) := by
                  show MadeQ _ _ _ _
                  unfold MadeQ; rw [HTM.out, hfg]; simp
                have hc0 : cmpF f g = 0 := by rw [hfg]; exact three_cmpF.refl _
                rw [hc0] at HCm
                clear hfg hc0 HTM HQ
                go_wp2_with fail
                rw [← HW5.out]
                refine HCm.out.mono ?_
                rintro e w6 ⟨rfl, hL6⟩
                have k0 : w6.cell? ⟨w4.heap.size, 0, none⟩ = some (.string g.1) := by rw [hL6.cell (p := ⟨w4.heap.size, 0, none⟩) hw4lt]; exact g0
                have k1 : w6.cell? ⟨w4.heap.size, 0 + 1, none⟩ = some (.slice sA' g.2.length sC') := by rw [hL6.cell (p := ⟨w4.heap.size, 0 + 1, none⟩) hw4lt]; exact g1
                have HIn6 := hide (HIn.out w6 hL6)
                have HB6 := hide (below_trans HB5.out hL6.below HB5.out.size)
                clear hL6 HCm g0 g1 f0 f1
                go_wp2_with fail
                refine HIn6.out.mono ?_
                rintro e w7 ⟨rfl, hL7⟩
                have HB7 := hide (below_trans HB6.out hL7.below HB6.out.size)
                clear hL7 HIn6 k0 k1
                go_wp2
                go_roundg (R.length - (j + 1))
                case measure => omega
                case rel => exact ⟨j + 1, by omega, by go_num, true, rfl, HQ', HB7⟩
              · have HQ' : Hid (MadeQ r.head (R.take (j + 1)) f false) := by
                  show MadeQ _ _ _ _
                  have hq := HQ.out; unfold MadeQ at hq ⊢; rw [HTM.out, ← hq]
                  simp only [Bool.false_eq_true, false_or, Option.some.injEq, false_iff]
                  exact fun e => hfg e.symm
                have hc0 : cmpF f g ≠ 0 := fun e => hfg (three_cmpF.zero _ _ e)
                have hc1 : (cmpF f g == 0) = false := by simpa using hc0
                generalize cmpF f g = cz at *
                clear hfg hc0 HTM HQ
                go_wp2_with fail
                rw [← HW5.out]
                refine HCm.out.mono ?_
                rintro e w6 ⟨rfl, hL6⟩
                have k0 : w6.cell? ⟨w4.heap.size, 0, none⟩ = some (.string g.1) := by rw [hL6.cell (p := ⟨w4.heap.size, 0, none⟩) hw4lt]; exact g0
                have k1 : w6.cell? ⟨w4.heap.size, 0 + 1, none⟩ = some (.slice sA' g.2.length sC') := by rw [hL6.cell (p := ⟨w4.heap.size, 0 + 1, none⟩) hw4lt]; exact g1
                have HIn6 := hide (HIn.out w6 hL6)
                have HB6 := hide (below_trans HB5.out hL6.below HB5.out.size)
                clear hL6 HCm g0 g1 f0 f1
                go_wp2_with fail
                refine HIn6.out.mono ?_
                rintro e w7 ⟨rfl, hL7⟩
                have HB7 := hide (below_trans HB6.out hL7.below HB6.out.size)
                clear hL7 HIn6 k0 k1
                go_wp2
                go_roundg (R.length - (j + 1))
                case measure => omega
                case rel => exact ⟨j + 1, by omega, by go_num, false, rfl, HQ', HB7⟩
            · have HQ' : Hid (MadeQ r.head (R.take (j + 1)) f true) := by
                show MadeQ _ _ _ _
                have hq := HQ.out; unfold MadeQ at hq ⊢; rw [HTM.out, ← hq]; simp
              have HIn6 := hide (HIn.out w5 (Later.refl _))
              clear HTM HQ f0 f1
              go_wp2_with fail
              rw [← HW5.out]
              refine HIn6.out.mono ?_
              rintro e w7 ⟨rfl, hL7⟩
              have HB7 := hide (below_trans HB5.out hL7.below HB5.out.size)
              clear hL7 HIn6 g0 g1
              go_wp2
              go_roundg (R.length - (j + 1))
              case measure => omega
              case rel => exact ⟨j + 1, by omega, by go_num, true, rfl, HQ', HB7⟩
        · have hjR : R.take j = R := List.take_of_length_le (by omega)
          have hIn := inC (.slice a2 n2 c2) _ X f wr (HX.out.below HBr.out) HSr.out HXu.out
          have hq : inB X f = q := by
            have h1 := HQ.out
            unfold MadeQ at h1
            rw [hjR, ← HXm.out f] at h1
            cases q
            · cases e : inB X f with
              | false => rfl
              | true => exact absurd (h1.2 (inB_iff.1 e)) (by simp)
            · exact inB_iff.2 (h1.1 rfl)
          rw [in_eq, hq] at hIn
          have HIn := hide hIn
          have f0 : wr.cell? ⟨w.heap.size + 1, 0, none⟩ = some (.string f.1) := by rw [cell_of_row _ _ _ _ _ _ hrowg]; rfl
          have f1 : wr.cell? ⟨w.heap.size + 1, 0 + 1, none⟩ = some (.slice ua f.2.length uc) := by rw [cell_of_row _ _ _ _ _ _ hrowg]; rfl
          have HBz := hide (below_trans HBw.out HBr.out HBw.out.size)
          clear hjR hIn hq hrowr hrowg hBr13 HQ HSr
          cases q
          · go_wp2_with fail
            refine HIn.out.mono ?_
            rintro e w6 ⟨rfl, hL6⟩
            have HB6 := hide (below_trans HBz.out hL6.below HBz.out.size)
            clear hL6 HIn f0 f1
            go_wp2
            go_ret
            exact ⟨rfl, HB6.out⟩
          · go_wp2_with fail
            refine HIn.out.mono ?_
            rintro e w6 ⟨rfl, hL6⟩
            have HB6 := hide (below_trans HBz.out hL6.below HBz.out.size)
            clear hL6 HIn f0 f1
            go_wp2
            go_ret
            exact ⟨rfl, HB6.out⟩
  · rw [if_pos h0] at hT2 hT3
    obtain ⟨h2v, h2e⟩ := hT2
    obtain ⟨rfl, h3e⟩ := hT3
    rw [← h3e] at h2e h0
    subst h2e
    have hne : (er != 0) = true := by simpa using h0
    have hee : (er == er) = true := by simp
    clear h0 h2v h3e
    go_wp2
    go_ret
    exact ⟨rfl, HBw.out⟩

end Go.Proofs.YtbohggoeebhdmaaGreatDoor

/- Programs among a call's arguments, opened, with what the bound on all that comes in says of their text. -/
namespace Go.Proofs.YtbohggoeebhdmaaGreatDoor
open Go.RowKit Go.Sort Go.ChangeShapes Go.WideShapes Go.ChangeAt Go.Deep

variable {H : Type} {enc : TypeId × Value → H} {W : World}

/-- How a type's values are opened, beside their data. -/
def OpensR {α : Type} (enc : TypeId × Value → H) (W : World) (ty : TypeId) (K : Kind α) (ok : α → DataW H → Prop) : Prop :=
  ∀ n cs x, DataW.trod enc Tryz.prog W 0 (fun _ => true) true n ty cs = some x → Sized ty x.1 → ∃ a, K.is Anyw W cs a ∧ ok a x.1

set_option maxRecDepth 100000 in
theorem openSlR {α : Type} {K : Kind α} {T ty : TypeId} {ok : α → DataW H → Prop} (hT : Tryz.prog.underlying T = some (.slice ty)) (hc : Tryz.prog.cellsOf ty = K.size) (hby : 16 ≤ Tryz.prog.bytesOf ty) (hsz : 0 < K.size) (E : OpensR enc W ty K ok)
    {n : Nat} {v : Value} {x : DataW H × List MemPlace} (hf : DataW.trod enc Tryz.prog W 0 (fun _ => true) true n T [v] = some x) (hw : Sized T x.1) : ∃ l ds, K.sl Anyw W v l ∧ l.length = ds.length ∧ Rows.uptoBulkAll ds + 1 ≤ Rows.uptoBulk x.1 ∧ ∀ (i : Nat) a d, l[i]? = some a → ds[i]? = some d → ok a d := by
  rcases open_slice hT hf with ⟨hcs, hx0⟩ | ⟨a, len, cap, m, k, D, Pl, hcs, _, hl, hm, hmm, hx, hel⟩
  · simp only [List.cons.injEq, and_true] at hcs
    exact ⟨[], [], by rw [hcs]; exact K.sl_nil _ _ _ _, rfl, by rw [hx0]; simp [Rows.uptoBulk, Rows.uptoBulkAll], fun i a d h => by simp at h⟩
  · simp only [List.cons.injEq, and_true] at hcs
    simp only [if_true] at hmm
    subst hmm
    rw [hc] at hel
    have hd : x.1 = .slice ((List.range len).map D) ((List.range (m - len)).map fun j => D (len + j)) := by rw [hx]
    have hw2 : (decide ((len + (m - len)) * Tryz.prog.bytesOf ty ≤ reachBytes) && ((DataW.weightsAll Tryz.prog ty ((List.range len).map D)).all (· ≤ reachBytes) && (DataW.weightsAll Tryz.prog ty ((List.range (m - len)).map fun j => D (len + j))).all (· ≤ reachBytes))) = true := by
      have := hw
      unfold Sized at this
      rw [hd, DataW.weights, hT] at this
      simpa using this
    simp only [Bool.and_eq_true] at hw2
    have hlen : len ≤ 8796093022208 := by
      have h1 : (len + (m - len)) * Tryz.prog.bytesOf ty ≤ reachBytes := of_decide_eq_true hw2.1
      have h2 : len * 16 ≤ (len + (m - len)) * Tryz.prog.bytesOf ty := Nat.mul_le_mul (by omega) hby
      unfold reachBytes at h1
      omega
    have each : ∀ i : Fin len, ∃ z : α, ∃ cs', W.cells? 0 (a.add (i.1 * K.size)) K.size = some cs' ∧ K.is Anyw W cs' z ∧ ok z (D i.1) := fun i => by
      obtain ⟨cs', k1, k2⟩ := hel i.1 (by omega)
      obtain ⟨z, hz, hk⟩ := E _ _ _ k2 (sized_all hw2.2.1 _ (List.mem_map.2 ⟨i.1, List.mem_range.2 i.2, rfl⟩))
      exact ⟨z, cs', k1, hz, hk⟩
    refine ⟨List.ofFn fun i => Classical.choose (each i), (List.range len).map D, ⟨⟨by simpa using hlen, ?_⟩, some a, m, by rw [hcs]; simp, fun hne => ?_⟩, by simp, by rw [hd]; simp only [Rows.uptoBulk]; omega, fun i z d hz hdz => ?_⟩
    · rw [hcs]; show len ≤ m; omega
    rotate_left
    · have hi' : i < len := by simpa using (List.getElem?_eq_some_iff.1 hz).1
      rw [List.getElem?_ofFn, dif_pos hi'] at hz
      injection hz with hz
      subst hz
      rw [List.getElem?_map, List.getElem?_range hi'] at hdz
      simp only [Option.map_some, Option.some.injEq] at hdz
      subst hdz
      obtain ⟨_, _, _, hok⟩ := Classical.choose_spec (each ⟨i, hi'⟩)
      exact hok
    have h0 : 0 < len := by
      refine Nat.pos_of_ne_zero fun e => hne ?_
      subst e; rfl
    have first : ∀ i : Fin len, ∀ cs', W.cells? 0 (a.add (i.1 * K.size)) K.size = some cs' → ∀ j u, cs'[j]? = some u → W.cell? ((a.add (i.1 * K.size)).add j) = some u := fun i cs' k1 j u hu => by
      obtain ⟨h1, _, hcell⟩ := World.cells?_some k1
      have hj : j < cs'.length := (List.getElem?_eq_some_iff.1 hu).1
      have := hcell j (by omega)
      rw [this]; exact hu
    have hplain : ∃ b off, a = ⟨b, off, none⟩ := by
      obtain ⟨cs', k0, k1, _⟩ := Classical.choose_spec (each ⟨0, h0⟩)
      have hl := K.len k1
      have hu : cs'[0]? = some (cs'[0]'(by omega)) := List.getElem?_eq_getElem (by omega)
      have := first ⟨0, h0⟩ cs' k0 0 _ hu
      exact addr_plainP (W := W) (v := cs'[0]'(by omega)) (by simpa [Addr.add] using this)
    obtain ⟨b, off, rfl⟩ := hplain
    have hlt : b < W.heap.size := by
      obtain ⟨cs', k0, k1, _⟩ := Classical.choose_spec (each ⟨0, h0⟩)
      have hl := K.len k1
      have hu : cs'[0]? = some (cs'[0]'(by omega)) := List.getElem?_eq_getElem (by omega)
      have := first ⟨0, h0⟩ cs' k0 0 _ hu
      rw [Addr.add_lit, Addr.add_lit] at this
      exact World.block_lt_of_cell? W _ this
    refine ⟨b, off, rfl, trivial, hlt, fun i z hi => ?_⟩
    have hi' : i < len := by simpa using (List.getElem?_eq_some_iff.1 hi).1
    rw [List.getElem?_ofFn, dif_pos hi'] at hi
    injection hi with hi
    subst hi
    obtain ⟨cs', k0, k1, _⟩ := Classical.choose_spec (each ⟨i, hi'⟩)
    refine ⟨cs', k1, fun j u hu => ?_⟩
    have := first ⟨i, hi'⟩ cs' k0 j u hu
    rw [Addr.add_lit, Addr.add_lit] at this
    exact this

theorem sum_bulk {α : Type} {μ : α → Nat} : ∀ (l : List α) (ds : List (DataW H)), l.length = ds.length → (∀ (i : Nat) a d, l[i]? = some a → ds[i]? = some d → μ a ≤ Rows.uptoBulk d) → (l.map μ).sum ≤ Rows.uptoBulkAll ds
  | [], [], _, _ => by simp [Rows.uptoBulkAll]
  | a :: l, d :: ds, h, hk => by
    have h1 := sum_bulk l ds (by simpa using h) (fun i a d ha hd => hk (i + 1) a d (by simpa using ha) (by simpa using hd))
    have h2 := hk 0 a d rfl rfl
    simp only [List.map_cons, List.sum_cons, Rows.uptoBulkAll]
    omega
  | [], _ :: _, h, _ => by simp at h
  | _ :: _, [], h, _ => by simp at h

def muT (t : TermD) : Nat := t.2.length + 1
def muA (a : AtomD) : Nat := a.name.length + 3 + (a.terms.map muT).sum
def muR (r : RuleD) : Nat := muA r.head + (r.body.map muA).sum

set_option maxRecDepth 100000 in
theorem opensTermR : OpensR enc W 101 termK (fun t d => muT t ≤ Rows.uptoBulk d) := by
  intro n cs x h _
  obtain ⟨y0, y1, m, hx, hl, h0, h1⟩ := trod_struct2 Tryz.underlying101 h
  rw [cellsTerm] at hl
  match cs, hl with
  | [c0, c1], _ =>
    have e0 : Tryz.prog.cellsOf 4 = 1 := cellsBool
    have e1 : Tryz.prog.cellsOf 9 = 1 := cellsStrP
    simp only [e0, e1, List.drop_zero, List.drop_succ_cons, List.take_succ_cons, List.take_zero] at h0 h1
    obtain ⟨b, hb, hy0⟩ := DataW.trod_bool Tryz.underlying4 h0
    obtain ⟨s, hs, hy1, hsz⟩ := DataW.trod_string Tryz.underlying9 h1
    simp only [List.cons.injEq, and_true] at hb hs
    refine ⟨(b, raw s), by show [c0, c1] = _; rw [hb, hs, bs_raw], ?_⟩
    rw [hx, hy0, hy1]
    simp only [Rows.uptoBulk, Rows.uptoBulkAll, muT]
    show (raw s).length + 1 ≤ _
    unfold raw
    omega

set_option maxRecDepth 100000 in
theorem opensAtomR : OpensR enc W 40 atomK (fun a d => muA a ≤ Rows.uptoBulk d) := by
  intro n cs x h hw
  obtain ⟨y0, y1, y2, m, hx, hl, h0, h1, h2⟩ := trod_struct3 Tryz.underlying40 h
  rw [cellsAtom] at hl
  match cs, hl with
  | [c0, c1, c2], _ =>
    have e0 : Tryz.prog.cellsOf 4 = 1 := cellsBool
    have e1 : Tryz.prog.cellsOf 9 = 1 := cellsStrP
    have e2 : Tryz.prog.cellsOf 38 = 1 := cellsTerms
    simp only [e0, e1, e2, List.drop_zero, List.drop_succ_cons, List.take_succ_cons, List.take_zero] at h0 h1 h2
    obtain ⟨b, hb, hy0⟩ := DataW.trod_bool Tryz.underlying4 h0
    obtain ⟨s, hs, hy1, hsz⟩ := DataW.trod_string Tryz.underlying9 h1
    simp only [List.cons.injEq, and_true] at hb hs
    have hw2 : Sized 38 y2.1 := by
      unfold Sized at hw ⊢
      rw [hx, DataW.weights, Tryz.underlying40] at hw
      simp only [List.map_cons, List.map_nil, DataW.weightsEach, List.all_append, Bool.and_eq_true] at hw
      exact hw.2.2.1
    obtain ⟨l, ds, hl, hld, hbk, hlk⟩ := openSlR Tryz.underlying38 cellsTerm (by rw [bytesTerm]; decide) (by decide) opensTermR h2 hw2
    have hsum := sum_bulk l ds hld hlk
    refine ⟨⟨b, raw s, l⟩, ⟨c2, by show [c0, c1, c2] = _; rw [hb, hs, bs_raw], hl⟩, ?_⟩
    rw [hx, hy0, hy1]
    simp only [Rows.uptoBulk, Rows.uptoBulkAll, muA]
    show (raw s).length + 3 + _ ≤ _
    unfold raw
    omega

set_option maxRecDepth 100000 in
theorem opensRuleR : OpensR enc W 43 ruleK (fun r d => muR r ≤ Rows.uptoBulk d) := by
  intro n cs x h hw
  obtain ⟨y0, y1, m, hx, hl, h0, h1⟩ := trod_struct2 Tryz.underlying43 h
  rw [cellsRule] at hl
  match cs, hl with
  | [c0, c1, c2, c3], _ =>
    have e0 : Tryz.prog.cellsOf 40 = 3 := cellsAtom
    have e1 : Tryz.prog.cellsOf 41 = 1 := cellsAtoms
    simp only [e0, e1, List.drop_zero, List.drop_succ_cons, List.take_succ_cons, List.take_zero] at h0 h1
    have hws : Sized 40 y0.1 ∧ Sized 41 y1.1 := by
      unfold Sized at hw ⊢
      rw [hx, DataW.weights, Tryz.underlying43] at hw
      simp only [List.map_cons, List.map_nil, DataW.weightsEach, List.all_append, Bool.and_eq_true] at hw
      exact ⟨hw.1, hw.2.1⟩
    obtain ⟨a, ⟨v, ev, hv⟩, hak⟩ := opensAtomR _ _ _ h0 hws.1
    obtain ⟨l, ds, hl, hld, hbk, hlk⟩ := openSlR Tryz.underlying41 cellsAtom (by rw [bytesAtom]; decide) (by decide) opensAtomR h1 hws.2
    have hsum := sum_bulk l ds hld hlk
    simp only [List.cons.injEq, and_true] at ev
    refine ⟨⟨a, l⟩, ⟨v, c3, by show [c0, c1, c2, c3] = _; rw [ev.1, ev.2.1, ev.2.2], hv, hl⟩, ?_⟩
    rw [hx]
    simp only [Rows.uptoBulk, Rows.uptoBulkAll, muR]
    omega

set_option maxRecDepth 100000 in
theorem openRulesR {b0 : Nat} {v : Value} {d : DataW H} {p : List MemPlace} (hv : Value.okWide Tryz.prog W .any b0 23 v) (h : DataW.Trod enc Tryz.prog W 0 (fun _ => true) true 23 v d p) (hw : Sized 23 d) : ∃ l, ruleK.sl Anyw W v l ∧ (l.map muR).sum ≤ Rows.uptoBulk d := by
  obtain ⟨a0, len0, cap0, rfl⟩ := okWide_slice Tryz.underlying23 hv
  obtain ⟨fuel, hf⟩ := h
  obtain ⟨l, ds, hl, hld, hbk, hlk⟩ := openSlR Tryz.underlying23 cellsRule (by rw [bytesRule]; decide) (by decide) opensRuleR (x := (d, p)) (by simpa [Value.cells] using hf) hw
  have hsum := sum_bulk l ds hld hlk
  exact ⟨l, hl, by have : Rows.uptoBulkAll ds + 1 ≤ Rows.uptoBulk d := hbk; omega⟩

end Go.Proofs.YtbohggoeebhdmaaGreatDoor

/- Maps from texts to texts: what variables stand for, in the reference. -/
namespace Go.Proofs.YtbohggoeebhdmaaGreatDoor
open Go.RowKit Go.Sort Go.Maps

/-- Block b holds what a list tells of variables. -/
def EnvM (w : World) (b n : Nat) (l : List BindD) : Prop :=
  ∃ D : DataW Unit, w.ownsMap Tryz.prog 9 (plainElem Tryz.prog 9) b n D ∧ ∀ s : Bs, Maps.has D (.string s) = (getB l (bs s)).isSome ∧ ∀ t, getB l (bs s) = some t → ∀ z, D.atKey (.string s) z = .lit (.string (raw t))

theorem EnvM.made (w : World) : EnvM (w.alloc (.map #[] 0)) w.heap.size 0 [] := ⟨.map [], World.ownsMap_made _ _ _ _, fun _ => ⟨rfl, fun t h => by cases h⟩⟩
theorem EnvM.lt {w : World} {b n : Nat} {l : List BindD} (h : EnvM w b n l) : b < w.heap.size := by obtain ⟨D, h, _⟩ := h; exact h.lt
theorem EnvM.block {w w' : World} {b n : Nat} {l : List BindD} (h : EnvM w b n l) (e : w'.heap[b]? = w.heap[b]?) : EnvM w' b n l := by obtain ⟨D, h, hf⟩ := h; exact ⟨D, owns_block h e, hf⟩
theorem EnvM.later {w w' : World} {b n : Nat} {l : List BindD} (h : EnvM w b n l) (k : Later w w') : EnvM w' b n l := h.block (k.block h.lt)
theorem EnvM.below {w w' : World} {b n : Nat} {l : List BindD} (h : EnvM w b n l) (k : Below w.heap.size w w') : EnvM w' b n l := h.block (k.block b h.lt)
theorem EnvM.mono {w : World} {b n m : Nat} {l : List BindD} (h : EnvM w b n l) (hn : n ≤ m) : EnvM w b m l := by obtain ⟨D, h, hf⟩ := h; exact ⟨D, h.mono hn, hf⟩
theorem EnvM.isMap {w : World} {b n : Nat} {l : List BindD} (h : EnvM w b n l) : ∃ es c, w.heap[b]? = some (.map es c) := by
  obtain ⟨D, ⟨es, c, hb, _⟩, _⟩ := h
  exact ⟨es, c, hb⟩

theorem zeroStrE (w : World) : (zeroValue 9).run Tryz.prog w = .ok (.string ByteArray.empty) w := by kernel_rfl

set_option maxRecDepth 100000 in
theorem EnvM.look {w : World} {b n : Nat} {l : List BindD} (h : EnvM w b n l) {s : Bs} (hs : s.length ≤ maxLen) : (Instr.lookup 118 (.map (some b)) (.string (bs s)) true).run Tryz.prog w = .ok (.tuple #[.string ((getB l (bs s)).getD ByteArray.empty), .bool (getB l (bs s)).isSome]) w := by
  obtain ⟨D, hown, hf⟩ := h
  obtain ⟨h1, h2⟩ := hf s
  obtain ⟨v, ps, hrun, hv⟩ := hown.look_ok (string_keyed Tryz.underlying9) Tryz.underlying118 (zeroStrE w) (plainElem_string Tryz.underlying9 (by simp)) (key_mk Tryz.underlying9 hs)
  obtain ⟨t, rfl, hz, _⟩ := plainElem_string_inv Tryz.underlying9 hv
  simp only [Prod.mk.injEq] at hz
  rw [hrun, h1]
  cases hg : getB l (bs s) with
  | none =>
    rw [hg] at h1
    have h3 := Maps.atKey_of_not_has (D := D) (k := .string s) h1 (.lit (.string (ByteArray.empty).data.toList))
    rw [h3] at hz
    have hz := hz.1
    injection hz with hz
    injection hz with hz
    have : t = ByteArray.empty := by apply raw_inj; exact hz.symm
    rw [this]; rfl
  | some x =>
    rw [h2 x hg] at hz
    have hz := hz.1
    injection hz with hz
    injection hz with hz
    have : t = x := by apply raw_inj; exact hz.symm
    rw [this]; rfl

set_option maxRecDepth 100000 in
theorem EnvM.store {w : World} {b n : Nat} {l : List BindD} (h : EnvM w b n l) (hn : n < maxLen) {s : Bs} (hs : s.length ≤ maxLen) (hg : getB l (bs s) = none) {x : ByteArray} (hx : x.size ≤ maxLen) :
    ∃ w', (Instr.mapUpdate 118 (.map (some b)) (.string (bs s)) (.string x)).run Tryz.prog w = .ok () w' ∧ EnvM w' b (n + 1) (l ++ [(bs s, x)]) ∧ w.grownBy w' (some b) := by
  obtain ⟨D, hown, hf⟩ := h
  obtain ⟨w', hrun, r1, r2⟩ := hown.update (string_keyed Tryz.underlying9) Tryz.underlying118 hn (key_mk Tryz.underlying9 hs) (plainElem_string Tryz.underlying9 hx)
  refine ⟨w', hrun, ⟨_, r1, fun t => ?_⟩, r2⟩
  have e1 : getB (l ++ [(bs s, x)]) (bs t) = if t = s then some x else getB l (bs t) := by
    rw [getB_append]
    by_cases e : t = s
    · subst e; rw [hg, if_pos rfl]; simp [getB]
    · rw [if_neg e]
      cases getB l (bs t) with
      | some y => rfl
      | none =>
        have : bs s ≠ bs t := fun h => e (bs_inj h).symm
        simp [getB, this]
  rw [e1]
  by_cases e : t = s
  · subst e
    rw [if_pos rfl]
    exact ⟨by rw [has_put_same hown.isMap (keyS _)]; rfl, fun y hy z => by cases hy; rw [atKey_put_same hown.isMap (keyS _)]; rfl⟩
  · rw [if_neg e]
    exact ⟨by rw [has_put_other (str_ne e), (hf t).1], fun y hy z => by rw [atKey_put_other (str_ne e)]; exact (hf t).2 y hy z⟩

end Go.Proofs.YtbohggoeebhdmaaGreatDoor

/- The reference's Try: an atom tried on a fact. -/
namespace Go.Proofs.YtbohggoeebhdmaaGreatDoor
open Go.RowKit Go.Sort Go.Maps

/-- What Try answers. -/
def TryT (w : World) (lo n : Nat) (e : Ending) : Option (List BindD) → Prop
  | none => e = .returned (.map none)
  | some l => ∃ b, e = .returned (.map (some b)) ∧ lo ≤ b ∧ EnvM w b n l

theorem tryGo_step {l : List BindD} {ts : List TermD} {xs : List ByteArray} {j : Nat} {t : TermD} {x : ByteArray} (ht : ts[j]? = some t) (hx : xs[j]? = some x) :
    meetGo l (ts.drop j) (xs.drop j) = match worthB l t with
      | none => meetGo (l ++ [(bs t.2, x)]) (ts.drop (j + 1)) (xs.drop (j + 1))
      | some s => if s = x then meetGo l (ts.drop (j + 1)) (xs.drop (j + 1)) else none := by
  have h1 : ts.drop j = t :: ts.drop (j + 1) := by
    obtain ⟨h, e⟩ := List.getElem?_eq_some_iff.1 ht
    rw [List.drop_eq_getElem_cons h, e]
  have h2 : xs.drop j = x :: xs.drop (j + 1) := by
    obtain ⟨h, e⟩ := List.getElem?_eq_some_iff.1 hx
    rw [List.drop_eq_getElem_cons h, e]
  rw [h1, h2]
  rfl

set_option maxRecDepth 100000 in
set_option maxHeartbeats 4000000 in
theorem rTry (a : AtomD) (f : FactB) (l : List BindD) (b n : Nat) (tv fv : Value) (w : World) (ht : termK.sl Anyw w tv a.terms) (hf : FactV w fv f) (he : EnvM w b n l) (h4 : a.terms.length ≤ 4) (hn : n ≤ 1000) (hts : ∀ t ∈ a.terms, t.2.length ≤ maxLen) (hfs : ∀ s ∈ f.2, s.size ≤ maxLen) :
    Calls Tryz.prog 82 #[.agg #[.bool a.no, .string (bs a.name), tv], fv, .map (some b)] w fun e w' => TryT w' w.heap.size (n + 4) e (meetB a f l) ∧ Below w.heap.size w w' := by
  obtain ⟨sf, rfl, hsf⟩ := hf
  obtain ⟨ta, tc, rfl⟩ := Kind.slice ht
  obtain ⟨fa, fc, rfl⟩ := sliceStr hsf
  obtain ⟨no, name, ts⟩ := a
  obtain ⟨fn, args⟩ := f
  dsimp only at *
  have hargs0 := hsf.1
  have HT := hide ht
  have HSF := hide hsf
  have HE := hide he
  have HTS := hide hts
  have HFS := hide hfs
  clear ht hsf he hts hfs
  obtain ⟨nm, hnm⟩ : ∃ nm, nm = bs name := ⟨_, rfl⟩
  rw [← hnm]
  by_cases hname : nm = fn
  · by_cases hlen : ts.length = args.length
    · have HM : Hid (meetB ⟨no, name, ts⟩ (fn, args) l = meetGo l (ts.drop 0) (args.drop 0)) := by
        show _ = _
        unfold meetB
        rw [if_pos ⟨by rw [← hnm]; exact hname, hlen⟩]
        rfl
      generalize meetB ⟨no, name, ts⟩ (fn, args) l = res at *
      clear hnm
      subst hname
      have hmm := @run_makeMap Tryz.prog
      obtain ⟨D0, hown, hD0⟩ := HE.out
      have hsz0 := hown.size_le
      have hbl := hown.lt
      obtain ⟨w2, hw2⟩ : ∃ w2, w2 = (w.alloc (.cells #[.bool no, .string nm, .slice ta ts.length tc] 40)).alloc (.cells #[.string nm, .slice fa args.length fc] 54) := ⟨_, rfl⟩
      have hL2 : Later w w2 := by rw [hw2]; exact ((Later.refl w).alloc _).alloc _
      have hs2 : w2.heap.size = w.heap.size + 2 := by rw [hw2]; simp
      have hown2 : (w2.alloc (.map #[] 0)).ownsMap Tryz.prog 9 (plainElem Tryz.prog 9) b n D0 := (owns_block hown (hL2.block hbl)).alloc _
      have hR0 : (w2.alloc (.map #[] 0)).heap[w.heap.size]? = some (.cells #[.bool no, .string nm, .slice ta ts.length tc] 40 (0, 0)) := by
        rw [hw2]; simp only [heap_at, World.size_alloc]
        repeat (first | rw [if_pos trivial] | rw [if_pos (by omega)] | rw [if_neg (by omega)])
      have hR1 : (w2.alloc (.map #[] 0)).heap[w.heap.size + 1]? = some (.cells #[.string nm, .slice fa args.length fc] 54 (0, 0)) := by
        rw [hw2]; simp only [heap_at, World.size_alloc]
        repeat (first | rw [if_pos trivial] | rw [if_pos (by omega)] | rw [if_neg (by omega)])
      have hMd : (w2.alloc (.map #[] 0)).ownsMap Tryz.prog 9 (plainElem Tryz.prog 9) (w.heap.size + 2) 0 (.map [] : DataW Unit) := by rw [← hs2]; exact World.ownsMap_made _ _ _ _
      have hL3 : Later w (w2.alloc (.map #[] 0)) := hL2.alloc _
      have e1 : (w2.alloc (.map #[] 0)).heap.size = w.heap.size + 3 := by simp [hs2]
      obtain ⟨w3, hw3⟩ : ∃ w3, w3 = w2.alloc (.map #[] 0) := ⟨_, rfl⟩
      rw [← hw3] at hown2 hR0 hR1 hMd hL3 e1
      rw [hw2] at hw3
      have HGet : Hid (∀ j, j < args.length → ∃ t, ts[j]? = some t) := fun j hj => ⟨_, List.getElem?_eq_getElem (by omega)⟩
      have h4a : args.length ≤ 4 := by omega
      have HDrop : Hid (ts.drop args.length = []) := List.drop_eq_nil_of_le (by omega)
      rw [hlen] at *
      have HW3 := hide hw3
      have HL3 := hide hL3.below
      have HOwn := hide hown
      have HOwn2 := hide hown2
      have HMd := hide hMd
      have HD0 := hide hD0
      have HR0 := hide hR0
      have HR1 := hide hR1
      clear hw2 hL2 hown hown2 hD0 hR0 hR1 hMd hL3 hw3 hs2
      have hKs := string_keyed (P := Tryz.prog) Tryz.underlying9
      go_enter Tryz.func82, Tryz.ntmps82
      go_wp2_with (first
        | (at_range; rw [← HW3.out]; refine wpList_range_own _ rfl _ 118 rfl 9 9 hKs Tryz.underlying118 _ b n _ rfl HOwn2.out ?_; intro w0 hrg0 hg0 hs0)
        | go_in)
      try go_frame
      rw [e1] at hrg0 hs0
      go_loopw [32] (fun _ wr => ∃ (left : Lit → Bool) (cnt : Nat) (Dout : DataW Unit), wr.ranges Tryz.prog 9 (plainElem Tryz.prog 9) b (w.heap.size + 3) n D0 left cnt ∧ cnt ≤ Maps.size D0 ∧
          wr.ownsMap Tryz.prog 9 (plainElem Tryz.prog 9) (w.heap.size + 2) (Maps.size D0 - cnt) Dout ∧ Agree Dout D0 left ∧ Below w.heap.size w wr ∧
          wr.heap[w.heap.size]? = some (.cells #[.bool no, .string nm, .slice ta args.length tc] 40 (0, 0)) ∧ wr.heap[w.heap.size + 1]? = some (.cells #[.string nm, .slice fa args.length fc] 54 (0, 0)) ∧ w.heap.size + 3 < wr.heap.size)
        (fun _ wr => wr.rangeLeft b (w.heap.size + 3))
      case atStart =>
        refine ⟨_, _, .map [], hrg0, Nat.le_refl _, (HMd.out.kept hg0 (by simp)).mono (Nat.zero_le _), agree_start D0, HL3.out.grown hg0 (by omega) (fun j hj => by cases hj), ?_, ?_, by omega⟩
        · rw [hg0.block _ (by omega) (by simp)]; exact HR0.out
        · rw [hg0.block _ (by omega) (by simp)]; exact HR1.out
      case round =>
        clear hrg0 hg0 hs0
        obtain ⟨left, cnt, Dout, hrg, hcs, hout, hA, hnx, hr0, hr1, hsz⟩ := hrel
        go_wp2_with (first
          | (at_next; refine wpList_next_ranges _ rfl _ rfl 9 hKs (plainElem Tryz.prog 9) encStr Value.string (fun key kl hk => by obtain ⟨x, hx, _⟩ := Maps.keyOf_str Tryz.underlying9 hk; exact ⟨x, hx⟩) (fun v y hv => by obtain ⟨c, rfl, _⟩ := plainElem_string_inv Tryz.underlying9 hv; exact ⟨c, rfl⟩) b (w.heap.size + 3) n _ _ _ rfl hrg ?_ ?_)
          | go_in)
        · intro hc0 hl0
          subst hc0
          have e := agree_end hA hl0 (hout.canon hKs) (HOwn.out.canon hKs)
          subst e
          have HEn : Hid (EnvM wr (w.heap.size + 2) (n + 0) l) := ⟨Dout, hout.mono (by omega), HD0.out⟩
          have HBn := hide hnx
          have HR0 := hide hr0
          have HR1 := hide hr1
          have c2 : wr.cell? ⟨w.heap.size, 2, none⟩ = some (.slice ta args.length tc) := by rw [cell_of_row _ _ _ _ _ _ hr0]; rfl
          clear hrg hcs hout hA hnx hr0 hr1 HOwn HOwn2 HMd HD0 hsz0 HE hbl HL3 HW3 e1
          have hltA : ((0 : Nat) : Int) ≤ (args.length : Int) := by omega
          go_wp2
          go_loopg [43] args.length (fun g i wr2 => ∃ j : Nat, j + g = args.length ∧ i = .int .i64 j ∧ ∃ lj, Hid (EnvM wr2 (w.heap.size + 2) (n + j) lj) ∧ Hid (res = meetGo lj (ts.drop j) (args.drop j)) ∧ Hid (Below w.heap.size w wr2) ∧
            Hid (wr2.heap[w.heap.size + 1]? = some (.cells #[.string nm, .slice fa args.length fc] 54 (0, 0))) ∧ w.heap.size + 3 < wr2.heap.size)
          case atStart => exact ⟨0, by omega, rfl, l, HEn, HM, HBn, HR1, hsz⟩
          case round =>
            clear HEn HBn HR0 HR1 HM c2 hsz
            rename_i wo
            obtain ⟨j, hj, rfl, lj, HEn, HM, HBn, HR1, hsz⟩ := hrel
            by_cases hlt : j < args.length
            · obtain ⟨t, htj⟩ := HGet.out j hlt
              obtain ⟨x, hxj⟩ : ∃ x, args[j]? = some x := ⟨_, List.getElem?_eq_getElem hlt⟩
              obtain ⟨b1, o1, _, rfl, hb1, rfl, hc⟩ := Kind.sl_at HT.out htj
              obtain ⟨_, a3, cap3, ea, hc3⟩ := HSF.out
              injection ea with e1' e2' e3'
              subst e1'
              subst e3'
              obtain ⟨b3, o3, rfl, hb3, hc3⟩ := hc3 (by intro e; rw [e] at hlt; simp at hlt)
              have d0 : wr.cell? ⟨b1, o1 + j * 2, none⟩ = some (.bool t.1) := by rw [HBn.out.cell (p := ⟨b1, o1 + j * 2, none⟩) hb1]; exact hc 0 _ rfl
              have d1 : wr.cell? ⟨b1, o1 + j * 2 + 1, none⟩ = some (.string (bs t.2)) := by rw [HBn.out.cell (p := ⟨b1, o1 + j * 2 + 1, none⟩) hb1]; exact hc 1 _ rfl
              have d3 : wr.cell? ⟨b3, o3 + j, none⟩ = some (.string x) := by
                rw [HBn.out.cell (p := ⟨b3, o3 + j, none⟩) hb3, hc3 j hlt, List.getD_eq_getElem?_getD, hxj]; rfl
              have f1 : wr.cell? ⟨w.heap.size + 1, 1, none⟩ = some (.slice (some ⟨b3, o3, none⟩) args.length fc) := by rw [cell_of_row _ _ _ _ _ _ HR1.out]; rfl
              have hstep := tryGo_step (l := lj) htj hxj
              have HTl := HTS.out t (List.mem_of_getElem? htj)
              have HXl := HFS.out x (List.mem_of_getElem? hxj)
              have hbr1 : b1 < wr.heap.size := by omega
              have hbr3 : b3 < wr.heap.size := by omega
              have hbr4 : w.heap.size + 1 < wr.heap.size := by omega
              obtain ⟨wt, hwt⟩ : ∃ wt, wt = wr.alloc (.cells #[.bool t.1, .string (bs t.2)] 101) := ⟨_, rfl⟩
              have hLt : Later wr wt := by rw [hwt]; exact (Later.refl _).alloc _
              have hEt := HEn.out.later hLt
              have hBt : Below w.heap.size w wt := below_trans HBn.out hLt.below HBn.out.size
              have hRt := (hLt.block (Array.getElem?_eq_some_iff.1 HR1.out).1).trans HR1.out
              have hst : wt.heap.size = wr.heap.size + 1 := by rw [hwt]; simp
              clear hc hc3 htj hxj
              obtain ⟨t1, t2⟩ := t
              dsimp only at *
              cases t1
              · have hw : worthB lj (false, t2) = some (bs t2) := by simp [worthB]
                rw [hw] at hstep
                dsimp only at hstep
                by_cases hx : bs t2 = x
                · rw [if_pos hx, ← HM.out] at hstep
                  have HM' := hide hstep
                  have HE' := hide (hEt.mono (Nat.le_succ _))
                  have HB' := hide hBt
                  have HR' := hide hRt
                  rw [hwt] at HE' HB' HR'
                  rw [← hx] at d3
                  clear hstep hw hx hEt hBt hRt hwt hLt HEn HM HTl HXl
                  generalize bs t2 = tk at *
                  go_wp2
                  go_roundg (args.length - (j + 1))
                  case measure => omega
                  case rel => exact ⟨j + 1, by omega, by go_num, lj, HE', HM', HB', HR', by simp; omega⟩
                · rw [if_neg hx, ← HM.out] at hstep
                  have HB' := hide hBt
                  rw [hwt] at HB'
                  have hne : ((bs t2).toList == x.toList) = false := by rw [eq_list]; simp [hx]
                  have HN := hide hstep
                  clear hstep hw hEt hBt hRt hwt hLt HEn HTl HXl HM hx
                  generalize bs t2 = tk at *
                  go_wp2
                  go_ret
                  refine ⟨?_, HB'.out⟩
                  rw [HN.out]
                  exact rfl
              · have hlk := hEt.look (s := t2) HTl
                have hw : worthB lj (true, t2) = getB lj (bs t2) := by simp [worthB]
                rw [hw] at hstep
                cases hg : getB lj (bs t2) with
                | some y =>
                  rw [hg] at hstep hlk
                  dsimp only [Option.getD_some, Option.isSome_some] at hstep hlk
                  by_cases hx : y = x
                  · rw [if_pos hx, ← HM.out] at hstep
                    subst hx
                    have HM' := hide hstep
                    have HE' := hide (hEt.mono (Nat.le_succ _))
                    have HB' := hide hBt
                    have HR' := hide hRt
                    have HLk := hide hlk
                    rw [hwt] at HE' HB' HR' HLk
                    clear hstep hw hg hEt hBt hRt hwt hLt HEn HM HTl HXl hlk
                    generalize bs t2 = tk at *
                    go_wp2_with (at_lookup; refine wpList_run_lookup _ rfl _ _ _ _ rfl _ _ _ rfl rfl HLk.out ?_)
                    go_roundg (args.length - (j + 1))
                    case measure => omega
                    case rel => exact ⟨j + 1, by omega, by go_num, lj, HE', HM', HB', HR', by simp; omega⟩
                  · rw [if_neg hx, ← HM.out] at hstep
                    have HN := hide hstep
                    have HB' := hide hBt
                    have HLk := hide hlk
                    rw [hwt] at HB' HLk
                    have hne : (y.toList == x.toList) = false := by rw [eq_list]; simp [hx]
                    clear hstep hw hg hEt hBt hRt hwt hLt HEn HM HTl HXl hlk hx
                    generalize bs t2 = tk at *
                    go_wp2_with (at_lookup; refine wpList_run_lookup _ rfl _ _ _ _ rfl _ _ _ rfl rfl HLk.out ?_)
                    go_ret
                    refine ⟨?_, HB'.out⟩
                    rw [HN.out]
                    exact rfl
                | none =>
                  obtain ⟨w6, hup, hE6, hg6⟩ := hEt.store (by unfold maxLen; omega) HTl hg HXl
                  rw [hg] at hstep hlk
                  dsimp only [Option.getD_none, Option.isSome_none] at hstep hlk
                  rw [← HM.out] at hstep
                  have HM' := hide hstep
                  have HE' := hide hE6
                  have hB6 : Below w.heap.size w w6 := hBt.grown hg6 hBt.size (fun j hj => by cases hj; omega)
                  have hR6 : w6.heap[w.heap.size + 1]? = some (.cells #[.string nm, .slice (some ⟨b3, o3, none⟩) args.length fc] 54 (0, 0)) := by
                    rw [hg6.block _ (by omega) (fun e => by have := Option.some.inj e; omega)]; exact hRt
                  have hs6 : wt.heap.size ≤ w6.heap.size := hg6.size
                  have f6 : w6.cell? ⟨w.heap.size + 1, 1, none⟩ = some (.slice (some ⟨b3, o3, none⟩) args.length fc) := by rw [cell_of_row _ _ _ _ _ _ hR6]; rfl
                  have d6 : w6.cell? ⟨b3, o3 + j, none⟩ = some (.string x) := by
                    rw [hB6.cell (p := ⟨b3, o3 + j, none⟩) hb3, ← HBn.out.cell (p := ⟨b3, o3 + j, none⟩) hb3]; exact d3
                  have HB' := hide hB6
                  have HR' := hide hR6
                  have HLk := hide hlk
                  have HUp := hide hup
                  rw [hwt] at HLk HUp
                  have hsz6 : w.heap.size + 3 < w6.heap.size := by omega
                  clear hstep hw hg hEt hBt hRt hwt hLt HEn HM HTl HXl hlk hup hE6 hg6 hB6 hR6 hs6 hst
                  generalize bs t2 = tk at *
                  go_wp2_with (first
                    | (at_lookup; refine wpList_run_lookup _ rfl _ _ _ _ rfl _ _ _ rfl rfl HLk.out ?_)
                    | (at_mapUpdate; refine wpList_run_update _ rfl _ _ _ _ rfl _ _ _ _ rfl rfl rfl HUp.out ?_))
                  go_roundg (args.length - (j + 1))
                  case measure => omega
                  case rel => exact ⟨j + 1, by omega, by go_num, _, HE', HM', HB', HR', hsz6⟩
            · have hj' : j = args.length := by omega
              subst hj'
              have hm := HM.out
              rw [HDrop.out] at hm
              have HR : Hid (res = some lj) := hm
              have HE' := hide (HEn.out.mono (m := n + 4) (by omega))
              clear hm HM HEn
              go_wp2
              go_ret
              refine ⟨?_, HBn.out⟩
              rw [HR.out]
              exact ⟨_, rfl, by omega, HE'.out⟩
        · intro x c kl yd yp w4 cnt4 hkey hlk hv hat hrg4 hlt4 hg4 hs4 hen
          obtain ⟨x', ex, rfl, _⟩ := Maps.keyOf_str Tryz.underlying9 hkey
          obtain rfl : x = x' := encStr_inj ex
          clear ex
          have hout4 := hout.kept hg4 (by simp)
          go_wp2_with (first
            | (at_mapUpdate; refine wpList_mapUpdate_own _ rfl _ _ _ 118 rfl 9 9 hKs Tryz.underlying118 _ (w.heap.size + 2) _ _ rfl hout4 (by unfold maxLen; omega) _ _ _ rfl rfl hkey _ _ hv ?_; intro w5 hout5 hg5; go_frame)
            | go_in)
          have hrg5 := hrg4.kept hg5 (fun e => by have := Option.some.inj e; omega) (fun e => by have := Option.some.inj e; omega)
          go_roundw
          case rel =>
            refine ⟨_, cnt4, _, hrg5, by omega, hout5.mono (by omega), agree_step hA hout.isMap trivial hat,
              (hnx.grown hg4 hnx.size (fun j hj => by cases hj; omega)).grown hg5 (by have := hnx.size; omega) (fun j hj => by cases hj; omega), ?_, ?_, by have := hg5.size; omega⟩
            · rw [hg5.block _ (by omega) (fun e => by have := Option.some.inj e; omega), hg4.block _ (by omega) (fun e => by have := Option.some.inj e; omega)]; exact hr0
            · rw [hg5.block _ (by omega) (fun e => by have := Option.some.inj e; omega), hg4.block _ (by omega) (fun e => by have := Option.some.inj e; omega)]; exact hr1
          case measure => rw [hrg5.left_eq, hrg.left_eq]; exact hlt4
    · have HM : Hid (meetB ⟨no, name, ts⟩ (fn, args) l = none) := by
        show _ = _
        unfold meetB
        rw [if_neg (fun h => hlen h.2)]
      generalize meetB ⟨no, name, ts⟩ (fn, args) l = res at *
      clear hnm
      subst hname
      have hne : ((ts.length : Int) != (args.length : Int)) = true := by
        have : ¬ (ts.length : Int) = (args.length : Int) := by omega
        simpa using this
      clear hlen HE HTS HFS HT HSF
      go_enter Tryz.func82, Tryz.ntmps82
      go_wp2
      go_ret
      refine ⟨?_, ((by repeat (first | exact Later.refl _ | assumption | refine Later.drewN ?_ _ | refine Later.drew ?_ | refine Later.alloc ?_ _ | refine Later.grow ?_ _)) : Later _ _).below⟩
      rw [HM.out]
      exact rfl
  · have HM : Hid (meetB ⟨no, name, ts⟩ (fn, args) l = none) := by
      show _ = _
      unfold meetB
      rw [if_neg (fun h => hname (by rw [hnm]; exact h.1))]
    generalize meetB ⟨no, name, ts⟩ (fn, args) l = res at *
    clear hnm
    have hne : (nm.toList == fn.toList) = false := by rw [eq_list]; simp [hname]
    clear hname HE HTS HFS HT HSF
    go_enter Tryz.func82, Tryz.ntmps82
    go_wp2
    go_ret
    refine ⟨?_, ((by repeat (first | exact Later.refl _ | assumption | refine Later.drewN ?_ _ | refine Later.drew ?_ | refine Later.alloc ?_ _ | refine Later.grow ?_ _)) : Later _ _).below⟩
    rw [HM.out]
    exact rfl

end Go.Proofs.YtbohggoeebhdmaaGreatDoor
