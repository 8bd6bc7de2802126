/- Texts of this claim, one behind the other. -/
import Derived.Test.YtbohggoeebhdmaaGreatDoorJ25
import Derived.Test.YtbohggoeebhdmaaGreatDoorJ23
import Derived.Test.YtbohggoeebhdmaaGreatDoorJ18
import Derived.Test.YtbohggoeebhdmaaGreatDoorJ4
import Derived.ProofKit
import Derived.SliceStrings
import Derived.Deep.Slices
import Derived.Deep.Strs
import Derived.Lib.SmallJoins
import Derived.SizedLaws
import Derived.Test.YtbohggoeebhdmaaGreatDoorJ6
import Derived.Shelf.LaysM
import Derived.Test.YtbohggoeebhdmaaGreatDoorProg
/- The walk of NaiveTells. -/
namespace Go.Proofs.YtbohggoeebhdmaaGreatDoor
open Go.RowKit Go.Sort Go.Maps

/-- What is answered is facts, whatever is told. -/
theorem once_facts {w : World} {v : Value} {er : Int} {a : Int × List FactB} (h : OnceT w v er a) : Facts w v (if a.1 = 0 then a.2 else []) := by
  obtain ⟨_, h1, h2⟩ := h
  by_cases e : a.1 = 0
  · rw [if_pos e]; exact h2 e
  · rw [if_neg e, h1 e]; exact facts_nil w

set_option maxRecDepth 100000 in
set_option maxHeartbeats 2000000 in
theorem naiveTellsW (pv fv : Value) (p : List RuleD) (l : List FactB) (n : Int) (w : World) (hv : ruleK.sl Anyw w pv p) (hf : Facts w fv l) (hlg : ∀ r ∈ p, longR r) (hok : ∀ k, okF (l.getD k noFact)) :
    Calls Tryz.prog 3 #[pv, fv, .int .i64 n] w fun e w' => e = .returned (.bool true) ∧ Below w.heap.size w w' := by
  have HWp := hide (rWrongProgram p pv w hv hlg)
  obtain ⟨pa, pc, rfl⟩ := Kind.slice hv
  obtain ⟨fa, fc, rfl⟩ := sliceFacts hf
  have HV := hide hv
  have HF := hide hf
  have HLg := hide hlg
  have HOk := hide hok
  clear hv hf hlg hok
  obtain ⟨x, k, hxk⟩ : ∃ x k, wrongP p = (x, k) := ⟨_, _, rfl⟩
  rw [hxk] at HWp
  have HXK := hide hxk
  have hfe := errOf
  clear hxk
  go_enter Tryz.func3, Tryz.ntmps3
  go_wp2_with fail
  refine HWp.out.mono ?_
  rintro e w1 ⟨rfl, hB1⟩
  dsimp only
  have HB1 := hide hB1
  clear HWp hB1
  -- what comes behind the first look
  have key : Hid (∀ w4, Below w.heap.size w w4 → Calls Tryz.prog 12 #[.slice pa p.length pc, .slice fa l.length fc] w4 fun e w' => ∃ v' er, e = .returned (.tuple #[v', .int .i64 er]) ∧ OnceT w' v' er (allP p l) ∧ Below w4.heap.size w4 w') := fun w4 hB => naiveAllC p l _ _ w4 (Kind.sl_below HV.out hB) (HF.out.below hB)
  have keyR : Hid (∀ w4, Below w.heap.size w w4 → Calls Tryz.prog 13 #[.slice pa p.length pc, .slice fa l.length fc] w4 fun e w' => ∃ v' er, e = .returned (.tuple #[v', .int .i64 er]) ∧ OnceT w' v' er (allP p l) ∧ Below w4.heap.size w4 w') := fun w4 hB => rAll p l _ _ w4 (Kind.sl_below HV.out hB) (HF.out.below hB) HLg.out HOk.out
  have keyS : Hid (∀ w4, Below w.heap.size w w4 → Calls Tryz.prog 15 #[.slice pa p.length pc] w4 fun e w' => ∃ u, e = .returned (.tuple #[u, .agg #[.int .i64 (strataP p).2.1, .int .i64 ((strataP p).2.2 : Nat)]]) ∧ intK.sl (From w4.heap.size) w' u (strataP p).1 ∧ Below w4.heap.size w4 w') := fun w4 hB => rStrata p _ w4 (Kind.sl_below HV.out hB) HLg.out
  have keyF : Hid (RightP p → ∀ w4, Below w.heap.size w w4 → Calls Tryz.prog 11 #[.slice pa p.length pc, .slice fa l.length fc] w4 fun e w' => e = .returned (.agg #[.int .i64 (factsP p l).1, .int .i64 (factsP p l).2]) ∧ Below w4.heap.size w4 w') := fun hp w4 hB => rFacts p l _ _ w4 (Kind.sl_below HV.out hB) (HF.out.below hB) hp HOk.out
  have keyN : Hid (RightP p → ∀ w4, Below w.heap.size w w4 → Calls Tryz.prog 10 #[.slice pa p.length pc, .slice fa l.length fc] w4 fun e w' => e = .returned (.agg #[.int .i64 (factsP p l).1, .int .i64 (factsP p l).2]) ∧ Below w4.heap.size w4 w') := fun hp w4 hB => naiveFactsC p hp _ _ l w4 (Kind.sl_below HV.out hB) (HF.out.below hB)
  obtain ⟨fx, fe, hfx⟩ : ∃ fx fe, factsP p l = (fx, fe) := ⟨_, _, rfl⟩
  rw [hfx] at keyF keyN
  have HFX := hide hfx
  clear hfx
  have hnq := neqFault fx fe
  by_cases h0 : x = 0
  · subst h0
    have hp : RightP p := rightP_iff.1 (by rw [HXK.out])
    have HRP := hide hp
    have KF := hide (keyF.out hp)
    have KN := hide (keyN.out hp)
    clear hp keyF keyN HXK
    go_wp2_with fail
    refine (KN.out _ HB1.out).mono ?_
    rintro e w2 ⟨rfl, hB2⟩
    dsimp only
    have HB2 := hide (below_trans HB1.out hB2 HB1.out.size)
    clear hB2 HB1
    go_wp2_with fail
    refine (KF.out _ HB2.out).mono ?_
    rintro e w3 ⟨rfl, hB3⟩
    dsimp only
    have HB3 := hide (below_trans HB2.out hB3 HB2.out.size)
    clear hB3 HB2 KN
    go_wp2_with fail
    refine (key.out _ HB3.out).mono ?_
    rintro e w4 ⟨v4, er4, rfl, hT4, hB4⟩
    have HF4 := hide (once_facts hT4)
    obtain ⟨he4, _⟩ := hT4
    subst he4
    have HB4 := hide (below_trans HB3.out hB4 HB3.out.size)
    obtain ⟨a4, n4, c4, rfl⟩ : ∃ a n c, v4 = .slice a n c := by obtain ⟨a, c, e⟩ := sliceFacts HF4.out; exact ⟨a, _, c, e⟩
    clear hB4 HB3
    go_wp2_with fail
    refine (keyR.out _ HB4.out).mono ?_
    rintro e w5 ⟨v5, er5, rfl, hT5, hB5⟩
    have HF5 := hide (once_facts hT5)
    obtain ⟨he5, _⟩ := hT5
    subst he5
    have HB5 := hide (below_trans HB4.out hB5 HB4.out.size)
    have HF45 := hide (HF4.out.below hB5)
    obtain ⟨a5, n5, c5, rfl⟩ : ∃ a n c, v5 = .slice a n c := by obtain ⟨a, c, e⟩ := sliceFacts HF5.out; exact ⟨a, _, c, e⟩
    have HSm := hide (rSame (.slice a4 n4 c4) (.slice a5 n5 c5) _ w5 HF45.out HF5.out)
    generalize (allP p l).1 = ea at *
    have hee : (ea != ea) = false := by simp
    clear hB5 HB4 HF4 HF5 HF45
    go_wp2_with fail
    refine HSm.out.mono ?_
    rintro e w6 ⟨rfl, hL6⟩
    have HB6 := hide (below_trans HB5.out hL6.below HB5.out.size)
    clear hL6 HSm HB5 key keyR
    obtain ⟨ss, ex, es, hse⟩ : ∃ ss ex ea, strataP p = (ss, ex, ea) := ⟨_, _, _, rfl⟩
    have HSE := hide hse
    rw [hse] at keyS
    clear hse
    go_wp2_with fail
    refine (keyS.out _ HB6.out).mono ?_
    rintro e w7 ⟨u7, rfl, hu7, hB7⟩
    dsimp only at hu7 ⊢
    have HU7 := hide (Kind.sl_any hu7)
    obtain ⟨ua, uc, rfl⟩ := Kind.slice hu7
    have HB7 := hide (below_trans HB6.out hB7 HB6.out.size)
    clear hu7 hB7 keyS HB6
    by_cases h7 : ex = 0
    · subst h7
      obtain ⟨hw0, m, hms, hdm, hlm, hsm⟩ := strataP_ok HSE.out
      have hsm1 : ∀ s ∈ ss, s < 1000 := fun s hs => by
        rw [hms] at hs
        obtain ⟨r, hr, rfl⟩ := List.mem_map.1 hs
        have := lev_small hlm hsm r hr
        have := HRP.out.few
        omega
      have HSm1 := hide hsm1
      obtain ⟨w8, hw8⟩ : ∃ w8, w8 = w7.alloc (.cells #[.int .i64 0, .int .i64 (es : Nat)] 27) := ⟨_, rfl⟩
      have hL8 : Later w7 w8 := by rw [hw8]; exact (Later.refl _).alloc _
      have HB8 := hide (below_trans HB7.out hL8.below HB7.out.size)
      have HU8 := hide (Kind.sl_later HU7.out hL8)
      have HW8 := hide hw8
      clear hw0 hms hdm hlm hsm hsm1 hL8 hw8 HB7 HU7 HSE
      go_wp2_with fail
      rw [← HW8.out]
      refine (KF.out _ HB8.out).mono ?_
      rintro e w9 ⟨rfl, hB9⟩
      dsimp only
      have HB9 := hide (below_trans HB8.out hB9 HB8.out.size)
      have HU9 := hide (Kind.sl_below HU8.out hB9)
      clear hB9 HB8 HU8 HW8 KF
      by_cases h9 : fx = 0
      · subst h9
        have hG : GoodS p l := facts_good (by rw [HFX.out])
        have HG := hide hG
        have HCn := hide (countC ss (.slice ua ss.length uc) w9 HU9.out HSm1.out)
        clear hG HFX
        go_wp2_with fail
        refine HCn.out.mono ?_
        rintro e w10 ⟨rfl, hL10⟩
        have HB10 := hide (below_trans HB9.out hL10.below HB9.out.size)
        have HU10 := hide (Kind.sl_later HU9.out hL10)
        have HRc := hide (rCount ss (.slice ua ss.length uc) w10 HU10.out HSm1.out)
        generalize countP ss = cn at *
        have hcc : ((cn : Int) != (cn : Int)) = false := by simp
        clear hL10 HCn HB9 HU9
        go_wp2_with fail
        refine HRc.out.mono ?_
        rintro e w11 ⟨rfl, hw11⟩
        subst hw11
        have HOn := hide (onceC p ss n l (.slice pa p.length pc) (.slice ua ss.length uc) (.slice fa l.length fc) w11 (Kind.sl_below HV.out HB10.out) HU10.out (HF.out.below HB10.out) HRP.out.few HG.out.few (errW_right HRP.out HG.out) (short_right HRP.out HG.out) (fun f hf => right_short (HG.out.right f hf)))
        clear HRc
        go_wp2_with fail
        refine HOn.out.mono ?_
        rintro e w12 ⟨v12, er12, rfl, hT12, hB12⟩
        have HF12 := hide (once_facts hT12)
        obtain ⟨he12, _⟩ := hT12
        subst he12
        have HB12 := hide (below_trans HB10.out hB12 HB10.out.size)
        have HRO := hide (rOnce p ss n l (.slice pa p.length pc) (.slice ua ss.length uc) (.slice fa l.length fc) w12 (Kind.sl_below HV.out HB12.out) (Kind.sl_below HU10.out hB12) (HF.out.below HB12.out) HRP.out HG.out)
        obtain ⟨a12, n12, c12, rfl⟩ : ∃ a n c, v12 = .slice a n c := by obtain ⟨a, c, e⟩ := sliceFacts HF12.out; exact ⟨a, _, c, e⟩
        clear hB12 HOn HB10 HU10
        go_wp2_with fail
        refine HRO.out.mono ?_
        rintro e w13 ⟨v13, er13, rfl, hT13, hB13⟩
        have HF13 := hide (once_facts hT13)
        obtain ⟨he13, _⟩ := hT13
        subst he13
        have HB13 := hide (below_trans HB12.out hB13 HB12.out.size)
        have HF123 := hide (HF12.out.below hB13)
        obtain ⟨a13, n13, c13, rfl⟩ : ∃ a n c, v13 = .slice a n c := by obtain ⟨a, c, e⟩ := sliceFacts HF13.out; exact ⟨a, _, c, e⟩
        have HSm := hide (rSame (.slice a12 n12 c12) (.slice a13 n13 c13) _ w13 HF123.out HF13.out)
        generalize (onceP p ss n l).1 = eb at *
        have heb : (eb != eb) = false := by simp
        clear hB13 HRO HB12 HF12 HF13 HF123
        go_wp2_with fail
        refine HSm.out.mono ?_
        rintro e w14 ⟨rfl, hL14⟩
        have HB14 := hide (below_trans HB13.out hL14.below HB13.out.size)
        have h16 := HRP.out.few
        clear hL14 HSm HB13
        go_wp2
        go_loopg [96] p.length (fun g i wr => ∃ j : Nat, j + g = p.length ∧ i = .int .i64 j ∧ Hid (Below w.heap.size w wr))
        case atStart => exact ⟨0, by omega, rfl, HB14⟩
        case round =>
          clear HB14
          obtain ⟨j, hj, rfl, HBr⟩ := hrel
          by_cases hlt : j < p.length
          · obtain ⟨r, hr⟩ : ∃ x, p[j]? = some x := ⟨_, List.getElem?_eq_getElem hlt⟩
            have hrm : r ∈ p := List.mem_of_getElem? hr
            obtain ⟨b1, o1, _, rfl, hb1, ⟨tv, bv, rfl, htv, hbv⟩, hc⟩ := Kind.sl_at HV.out hr
            have d0 : wr.cell? ⟨b1, o1 + j * 4, none⟩ = some (.bool r.head.no) := by rw [HBr.out.cell (p := ⟨b1, o1 + j * 4, none⟩) hb1]; exact hc 0 _ rfl
            have d1 : wr.cell? ⟨b1, o1 + j * 4 + 1, none⟩ = some (.string (bs r.head.name)) := by rw [HBr.out.cell (p := ⟨b1, o1 + j * 4 + 1, none⟩) hb1]; exact hc 1 _ rfl
            have d2 : wr.cell? ⟨b1, o1 + j * 4 + 2, none⟩ = some tv := by rw [HBr.out.cell (p := ⟨b1, o1 + j * 4 + 2, none⟩) hb1]; exact hc 2 _ rfl
            have d3 : wr.cell? ⟨b1, o1 + j * 4 + 3, none⟩ = some bv := by rw [HBr.out.cell (p := ⟨b1, o1 + j * 4 + 3, none⟩) hb1]; exact hc 3 _ rfl
            obtain ⟨ta, tc, rfl⟩ := Kind.slice htv
            obtain ⟨ba, bc, rfl⟩ := Kind.slice hbv
            obtain ⟨wb, hwb⟩ : ∃ wb, wb = wr.alloc (.cells #[.bool r.head.no, .string (bs r.head.name), .slice ta r.head.terms.length tc, .slice ba r.body.length bc] 43) := ⟨_, rfl⟩
            have hLb : Later wr wb := by rw [hwb]; exact (Later.refl _).alloc _
            have hrb : wb.heap[wr.heap.size]? = some (.cells #[.bool r.head.no, .string (bs r.head.name), .slice ta r.head.terms.length tc, .slice ba r.body.length bc] 43 (0, 0)) := by rw [hwb]; exact heap_alloc_new wr _
            have hBb : Below w.heap.size w wb := below_trans HBr.out hLb.below HBr.out.size
            have HH := hide (headsC r (.slice ta r.head.terms.length tc) (.slice ba r.body.length bc) (.slice fa l.length fc) l wb (Kind.sl_below htv hBb) (Kind.sl_below hbv hBb) (HF.out.below hBb) (short_right HRP.out HG.out r hrm))
            have HRr : Hid (∀ w', Below w.heap.size w w' → Calls Tryz.prog 21 #[.agg #[.bool r.head.no, .string (bs r.head.name), .slice ta r.head.terms.length tc, .slice ba r.body.length bc], .slice fa l.length fc] w' fun e w'' => ∃ v' er, e = .returned (.tuple #[v', .int .i64 er]) ∧ HeadsR w'' v' er (headsP r l) ∧ Below w'.heap.size w' w'') := fun w' hB =>
              rHeads r _ _ _ l w' (Kind.sl_below htv hB) (Kind.sl_below hbv hB) (HF.out.below hB) (right_atoms HRP.out r hrm).1 (good_fault HG.out) (right_atoms HRP.out r hrm).2
            have h0 := errW_right HRP.out HG.out r hrm
            have HBb := hide hBb
            have HWb := hide hwb
            have HRb := hide hrb
            have hltb : wr.heap.size < wb.heap.size := (Array.getElem?_eq_some_iff.1 hrb).1
            clear hc hr htv hbv hLb hBb hwb hrb hrm
            generalize bs r.head.name = nm at *
            generalize hno : r.head.no = no at *
            clear hno
            go_wp2_with fail
            rw [← HWb.out]
            refine HH.out.mono ?_
            rintro e w15 ⟨v15, er15, rfl, hT15, hB15⟩
            unfold HeadsT at hT15
            rw [if_neg (by simp [h0])] at hT15
            have HB15 := hide (below_trans HBb.out hB15 HBb.out.size)
            have hr15 := (hB15.block _ hltb).trans HRb.out
            have k0 : w15.cell? ⟨wr.heap.size, 0, none⟩ = some (.bool no) := by rw [cell_of_row _ _ _ _ _ _ hr15]; rfl
            have k1 : w15.cell? ⟨wr.heap.size, 0 + 1, none⟩ = some (.string nm) := by rw [cell_of_row _ _ _ _ _ _ hr15]; rfl
            have k2 : w15.cell? ⟨wr.heap.size, 0 + 2, none⟩ = some (.slice ta r.head.terms.length tc) := by rw [cell_of_row _ _ _ _ _ _ hr15]; rfl
            have k3 : w15.cell? ⟨wr.heap.size, 0 + 3, none⟩ = some (.slice ba r.body.length bc) := by rw [cell_of_row _ _ _ _ _ _ hr15]; rfl
            have HR15 := hide (HRr.out w15 HB15.out)
            have HFS : Hid (∃ X, Facts w15 v15 X ∧ er15 = (match headsP r l with | none => 4 | some _ => 0) ∧ X = (headsP r l).getD []) := by
              cases hh : headsP r l with
              | none => rw [hh] at hT15; obtain ⟨rfl, rfl⟩ := hT15; exact ⟨[], facts_nil _, rfl, rfl⟩
              | some x => rw [hh] at hT15; obtain ⟨rfl, hx⟩ := hT15; exact ⟨x, hx, rfl, rfl⟩
            obtain ⟨X, hX, hex, hXe⟩ := HFS.out
            have HX := hide hX
            have HEX := hide hex
            have HXE := hide hXe
            obtain ⟨a15, n15, c15, rfl⟩ : ∃ a n c, v15 = .slice a n c := by obtain ⟨a, c, e⟩ := sliceFacts hX; exact ⟨a, _, c, e⟩
            clear hT15 hB15 hr15 HH HWb HRb HRr hX hex hXe HFS h0 d0 d1 d2 d3
            go_wp2_with fail
            refine HR15.out.mono ?_
            rintro e w16 ⟨v16, er16, rfl, hT16, hB16⟩
            have hY : Facts w16 v16 X ∧ er16 = er15 := by
              rw [HXE.out, HEX.out]
              cases hh : headsP r l with
              | none => rw [hh] at hT16; obtain ⟨rfl, rfl⟩ := hT16; exact ⟨facts_nil _, rfl⟩
              | some x => rw [hh] at hT16; obtain ⟨rfl, hx⟩ := hT16; exact ⟨hx, rfl⟩
            obtain ⟨hY, he⟩ := hY
            subst he
            have HB16 := hide (below_trans HB15.out hB16 HB15.out.size)
            have HSm := hide (rSame (.slice a15 n15 c15) v16 X w16 (HX.out.below hB16) hY)
            obtain ⟨a16, n16, c16, rfl⟩ : ∃ a n c, v16 = .slice a n c := by obtain ⟨a, c, e⟩ := sliceFacts hY; exact ⟨a, _, c, e⟩
            have heh : (er16 != er16) = false := by simp
            clear hT16 hB16 hY HR15 HX HEX HXE k0 k1 k2 k3 HB15
            go_wp2_with fail
            refine HSm.out.mono ?_
            rintro e w17 ⟨rfl, hL17⟩
            have HB17 := hide (below_trans HB16.out hL17.below HB16.out.size)
            clear hL17 HSm HB16
            go_wp2
            go_roundg (p.length - (j + 1))
            case measure => omega
            case rel => exact ⟨j + 1, by omega, by go_num, HB17⟩
          · go_wp2
            go_ret
            exact ⟨rfl, HBr.out⟩
      · have hne : (fx != 0) = true := by simpa using h9
        go_wp2
        go_ret
        exact ⟨rfl, HB9.out⟩
    · have hne : (ex != 0) = true := by simpa using h7
      have HB8 : Hid (Below w.heap.size w (w7.alloc (.cells #[.int .i64 ex, .int .i64 (es : Nat)] 27))) := below_trans HB7.out ((Later.refl _).alloc _).below HB7.out.size
      go_wp2
      go_ret
      exact ⟨rfl, HB8.out⟩
  · have hne : (x == 0) = false := by simpa using h0
    have hexn : (strataP p).2.1 ≠ 0 := fun h => h0 (by
      obtain ⟨hw0, _⟩ := strataP_ok (p := p) (l := (strataP p).1) (k := (strataP p).2.2) (by rw [← h])
      rw [HXK.out] at hw0
      exact hw0)
    have HEn := hide hexn
    clear hexn keyF keyN HXK HFX
    go_wp2_with fail
    refine (key.out _ HB1.out).mono ?_
    rintro e w4 ⟨v4, er4, rfl, hT4, hB4⟩
    have HF4 := hide (once_facts hT4)
    obtain ⟨he4, _⟩ := hT4
    subst he4
    have HB4 := hide (below_trans HB1.out hB4 HB1.out.size)
    obtain ⟨a4, n4, c4, rfl⟩ : ∃ a n c, v4 = .slice a n c := by obtain ⟨a, c, e⟩ := sliceFacts HF4.out; exact ⟨a, _, c, e⟩
    clear hB4 HB1
    go_wp2_with fail
    refine (keyR.out _ HB4.out).mono ?_
    rintro e w5 ⟨v5, er5, rfl, hT5, hB5⟩
    have HF5 := hide (once_facts hT5)
    obtain ⟨he5, _⟩ := hT5
    subst he5
    have HB5 := hide (below_trans HB4.out hB5 HB4.out.size)
    have HF45 := hide (HF4.out.below hB5)
    obtain ⟨a5, n5, c5, rfl⟩ : ∃ a n c, v5 = .slice a n c := by obtain ⟨a, c, e⟩ := sliceFacts HF5.out; exact ⟨a, _, c, e⟩
    have HSm := hide (rSame (.slice a4 n4 c4) (.slice a5 n5 c5) _ w5 HF45.out HF5.out)
    generalize (allP p l).1 = ea at *
    have hee : (ea != ea) = false := by simp
    clear hB5 HB4 HF4 HF5 HF45
    go_wp2_with fail
    refine HSm.out.mono ?_
    rintro e w6 ⟨rfl, hL6⟩
    have HB6 := hide (below_trans HB5.out hL6.below HB5.out.size)
    clear hL6 HSm HB5 key keyR
    obtain ⟨ss, ex, es, hse⟩ : ∃ ss ex ea, strataP p = (ss, ex, ea) := ⟨_, _, _, rfl⟩
    rw [hse] at keyS
    have h7 : ex ≠ 0 := by have := HEn.out; rw [hse] at this; exact this
    have hne7 : (ex != 0) = true := by simpa using h7
    clear hse HEn h7
    go_wp2_with fail
    refine (keyS.out _ HB6.out).mono ?_
    rintro e w7 ⟨u7, rfl, hu7, hB7⟩
    dsimp only at hu7 ⊢
    obtain ⟨ua, uc, rfl⟩ := Kind.slice hu7
    have HB7 := hide (below_trans HB6.out hB7 HB6.out.size)
    have HB8 : Hid (Below w.heap.size w (w7.alloc (.cells #[.int .i64 ex, .int .i64 (es : Nat)] 27))) := below_trans HB7.out ((Later.refl _).alloc _).below HB7.out.size
    clear hu7 hB7 keyS HB6
    go_wp2
    go_ret
    exact ⟨rfl, HB8.out⟩

end Go.Proofs.YtbohggoeebhdmaaGreatDoor

/- Programs among a call's arguments, opened: how they lie in memory, and that no list of theirs is longer than the form's reach, no text longer than Go's. -/
namespace Go.Proofs.YtbohggoeebhdmaaGreatDoor
open Go.RowKit Go.Sort Go.ChangeShapes Go.WideShapes Go.ChangeAt Go.Deep

variable {H : Type} {enc : TypeId × Value → H} {W : World}

theorem ownP : ownKnob Tryz.prog.godebug = none := by kernel_rfl
theorem laidOutP : laidOutB Tryz.prog = true := by kernel_rfl
theorem cellsStrP : Tryz.prog.cellsOf 9 = 1 := by kernel_rfl
theorem addr_plainP {a : Addr} {v : Value} (h : W.cell? (a.add 0) = some v) : ∃ b off, a = ⟨b, off, none⟩ := by
  obtain ⟨b, off, spot⟩ := a
  have hspot : spot = none := by simpa [Addr.add] using World.cell?_spot h
  subst hspot
  exact ⟨b, off, rfl⟩

/-- Each list within reach. -/
def Sized (t : TypeId) (d : DataW H) : Prop := (d.weights Tryz.prog t).all (· ≤ reachBytes) = true
/-- How a type's values are opened. -/
def Opens {α : Type} (enc : TypeId × Value → H) (W : World) (ty : TypeId) (K : Kind α) (ok : α → Prop) : Prop :=
  ∀ n cs x, DataW.trod enc Tryz.prog W 0 (fun _ => true) true n ty cs = some x → Sized ty x.1 → ∃ a, K.is Anyw W cs a ∧ ok a

theorem sized_all {e : TypeId} {l : List (DataW H)} (h : (DataW.weightsAll Tryz.prog e l).all (· ≤ reachBytes) = true) : ∀ d ∈ l, Sized e d := by
  induction l with
  | nil => intro d hd; cases hd
  | cons x r ih =>
    simp only [DataW.weightsAll, List.all_append, Bool.and_eq_true] at h
    intro d hd
    rcases List.mem_cons.1 hd with rfl | hd
    · exact h.1
    · exact ih h.2 d hd

set_option maxRecDepth 100000 in
theorem openSlB {α : Type} {K : Kind α} {T ty : TypeId} {ok : α → Prop} (hT : Tryz.prog.underlying T = some (.slice ty)) (hc : Tryz.prog.cellsOf ty = K.size) (hby : 16 ≤ Tryz.prog.bytesOf ty) (hsz : 0 < K.size) (E : Opens enc W ty K ok)
    {n : Nat} {v : Value} {x : DataW H × List MemPlace} (hf : DataW.trod enc Tryz.prog W 0 (fun _ => true) true n T [v] = some x) (hw : Sized T x.1) : ∃ l, K.sl Anyw W v l ∧ (∀ a ∈ l, ok a) ∧ l.length * Tryz.prog.bytesOf ty ≤ reachBytes := by
  rcases open_slice hT hf with ⟨hcs, _⟩ | ⟨a, len, cap, m, k, D, Pl, hcs, _, hl, hm, hmm, hx, hel⟩
  · simp only [List.cons.injEq, and_true] at hcs
    exact ⟨[], by rw [hcs]; exact K.sl_nil _ _ _ _, fun a ha => (by cases ha), by simp⟩
  · simp only [List.cons.injEq, and_true] at hcs
    simp only [if_true] at hmm
    subst hmm
    rw [hc] at hel
    have hd : x.1 = .slice ((List.range len).map D) ((List.range (m - len)).map fun j => D (len + j)) := by rw [hx]
    have hw2 : (decide ((len + (m - len)) * Tryz.prog.bytesOf ty ≤ reachBytes) && ((DataW.weightsAll Tryz.prog ty ((List.range len).map D)).all (· ≤ reachBytes) && (DataW.weightsAll Tryz.prog ty ((List.range (m - len)).map fun j => D (len + j))).all (· ≤ reachBytes))) = true := by
      have := hw
      unfold Sized at this
      rw [hd, DataW.weights, hT] at this
      simpa using this
    simp only [Bool.and_eq_true] at hw2
    have hlen : len ≤ 8796093022208 := by
      have h1 : (len + (m - len)) * Tryz.prog.bytesOf ty ≤ reachBytes := of_decide_eq_true hw2.1
      have h2 : len * 16 ≤ (len + (m - len)) * Tryz.prog.bytesOf ty := Nat.mul_le_mul (by omega) hby
      unfold reachBytes at h1
      omega
    have each : ∀ i : Fin len, ∃ z : α, ∃ cs', W.cells? 0 (a.add (i.1 * K.size)) K.size = some cs' ∧ K.is Anyw W cs' z ∧ ok z := fun i => by
      obtain ⟨cs', k1, k2⟩ := hel i.1 (by omega)
      obtain ⟨z, hz, hk⟩ := E _ _ _ k2 (sized_all hw2.2.1 _ (List.mem_map.2 ⟨i.1, List.mem_range.2 i.2, rfl⟩))
      exact ⟨z, cs', k1, hz, hk⟩
    refine ⟨List.ofFn fun i => Classical.choose (each i), ⟨⟨by simpa using hlen, ?_⟩, some a, m, by rw [hcs]; simp, fun hne => ?_⟩, fun z hz => ?_, ?_⟩
    · rw [hcs]; show len ≤ m; omega
    rotate_left
    rotate_left
    · have h1 : (len + (m - len)) * Tryz.prog.bytesOf ty ≤ reachBytes := of_decide_eq_true hw2.1
      rw [List.length_ofFn]
      exact Nat.le_trans (Nat.mul_le_mul_right _ (by omega)) h1
    rotate_left
    · rw [List.mem_ofFn] at hz
      obtain ⟨i, rfl⟩ := hz
      obtain ⟨_, _, _, hok⟩ := Classical.choose_spec (each i)
      exact hok
    have h0 : 0 < len := by
      refine Nat.pos_of_ne_zero fun e => hne ?_
      subst e; rfl
    have first : ∀ i : Fin len, ∀ cs', W.cells? 0 (a.add (i.1 * K.size)) K.size = some cs' → ∀ j u, cs'[j]? = some u → W.cell? ((a.add (i.1 * K.size)).add j) = some u := fun i cs' k1 j u hu => by
      obtain ⟨h1, _, hcell⟩ := World.cells?_some k1
      have hj : j < cs'.length := (List.getElem?_eq_some_iff.1 hu).1
      have := hcell j (by omega)
      rw [this]; exact hu
    have hplain : ∃ b off, a = ⟨b, off, none⟩ := by
      obtain ⟨cs', k0, k1, _⟩ := Classical.choose_spec (each ⟨0, h0⟩)
      have hl := K.len k1
      have hu : cs'[0]? = some (cs'[0]'(by omega)) := List.getElem?_eq_getElem (by omega)
      have := first ⟨0, h0⟩ cs' k0 0 _ hu
      exact addr_plainP (W := W) (v := cs'[0]'(by omega)) (by simpa [Addr.add] using this)
    obtain ⟨b, off, rfl⟩ := hplain
    have hlt : b < W.heap.size := by
      obtain ⟨cs', k0, k1, _⟩ := Classical.choose_spec (each ⟨0, h0⟩)
      have hl := K.len k1
      have hu : cs'[0]? = some (cs'[0]'(by omega)) := List.getElem?_eq_getElem (by omega)
      have := first ⟨0, h0⟩ cs' k0 0 _ hu
      rw [Addr.add_lit, Addr.add_lit] at this
      exact World.block_lt_of_cell? W _ this
    refine ⟨b, off, rfl, trivial, hlt, fun i z hi => ?_⟩
    have hi' : i < len := by simpa using (List.getElem?_eq_some_iff.1 hi).1
    rw [List.getElem?_ofFn, dif_pos hi'] at hi
    injection hi with hi
    subst hi
    obtain ⟨cs', k0, k1, _⟩ := Classical.choose_spec (each ⟨i, hi'⟩)
    refine ⟨cs', k1, fun j u hu => ?_⟩
    have := first ⟨i, hi'⟩ cs' k0 j u hu
    rw [Addr.add_lit, Addr.add_lit] at this
    exact this

theorem openSl {α : Type} {K : Kind α} {T ty : TypeId} {ok : α → Prop} (hT : Tryz.prog.underlying T = some (.slice ty)) (hc : Tryz.prog.cellsOf ty = K.size) (hby : 16 ≤ Tryz.prog.bytesOf ty) (hsz : 0 < K.size) (E : Opens enc W ty K ok)
    {n : Nat} {v : Value} {x : DataW H × List MemPlace} (hf : DataW.trod enc Tryz.prog W 0 (fun _ => true) true n T [v] = some x) (hw : Sized T x.1) : ∃ l, K.sl Anyw W v l ∧ ∀ a ∈ l, ok a := by
  obtain ⟨l, h1, h2, _⟩ := openSlB hT hc hby hsz E hf hw
  exact ⟨l, h1, h2⟩

/-- No text is longer than Go's. -/
def okT (t : TermD) : Prop := t.2.length ≤ maxLen
def okA (a : AtomD) : Prop := a.name.length ≤ maxLen ∧ ∀ t ∈ a.terms, okT t
def okR (r : RuleD) : Prop := okA r.head ∧ ∀ a ∈ r.body, okA a

theorem cellsTerm : Tryz.prog.cellsOf 101 = 2 := by kernel_rfl
theorem cellsTerms : Tryz.prog.cellsOf 38 = 1 := by kernel_rfl
theorem cellsAtom : Tryz.prog.cellsOf 40 = 3 := by kernel_rfl
theorem cellsAtoms : Tryz.prog.cellsOf 41 = 1 := by kernel_rfl
theorem cellsBool : Tryz.prog.cellsOf 4 = 1 := by kernel_rfl
theorem bytesTerm : Tryz.prog.bytesOf 101 = 24 := by kernel_rfl
theorem bytesAtom : Tryz.prog.bytesOf 40 = 48 := by kernel_rfl

theorem cellsRule : Tryz.prog.cellsOf 43 = 4 := by kernel_rfl
theorem bytesRule : Tryz.prog.bytesOf 43 = 72 := by kernel_rfl

set_option maxRecDepth 100000 in
theorem opensTerm : Opens enc W 101 termK okT := by
  intro n cs x h _
  obtain ⟨y0, y1, m, hx, hl, h0, h1⟩ := trod_struct2 Tryz.underlying101 h
  rw [cellsTerm] at hl
  match cs, hl with
  | [c0, c1], _ =>
    have e0 : Tryz.prog.cellsOf 4 = 1 := cellsBool
    have e1 : Tryz.prog.cellsOf 9 = 1 := cellsStrP
    simp only [e0, e1, List.drop_zero, List.drop_succ_cons, List.take_succ_cons, List.take_zero] at h0 h1
    obtain ⟨b, hb, _⟩ := DataW.trod_bool Tryz.underlying4 h0
    obtain ⟨s, hs, _, hsz⟩ := DataW.trod_string Tryz.underlying9 h1
    simp only [List.cons.injEq, and_true] at hb hs
    exact ⟨(b, raw s), by show [c0, c1] = _; rw [hb, hs, bs_raw], by show (raw s).length ≤ _; rw [length_raw]; exact hsz⟩

set_option maxRecDepth 100000 in
theorem opensAtom : Opens enc W 40 atomK okA := by
  intro n cs x h hw
  obtain ⟨y0, y1, y2, m, hx, hl, h0, h1, h2⟩ := trod_struct3 Tryz.underlying40 h
  rw [cellsAtom] at hl
  match cs, hl with
  | [c0, c1, c2], _ =>
    have e0 : Tryz.prog.cellsOf 4 = 1 := cellsBool
    have e1 : Tryz.prog.cellsOf 9 = 1 := cellsStrP
    have e2 : Tryz.prog.cellsOf 38 = 1 := cellsTerms
    simp only [e0, e1, e2, List.drop_zero, List.drop_succ_cons, List.take_succ_cons, List.take_zero] at h0 h1 h2
    obtain ⟨b, hb, _⟩ := DataW.trod_bool Tryz.underlying4 h0
    obtain ⟨s, hs, _, hsz⟩ := DataW.trod_string Tryz.underlying9 h1
    simp only [List.cons.injEq, and_true] at hb hs
    have hw2 : Sized 38 y2.1 := by
      unfold Sized at hw ⊢
      rw [hx, DataW.weights, Tryz.underlying40] at hw
      simp only [List.map_cons, List.map_nil, DataW.weightsEach, List.all_append, Bool.and_eq_true] at hw
      exact hw.2.2.1
    obtain ⟨l, hl, hlk⟩ := openSl Tryz.underlying38 cellsTerm (by rw [bytesTerm]; decide) (by decide) opensTerm h2 hw2
    exact ⟨⟨b, raw s, l⟩, ⟨c2, by show [c0, c1, c2] = _; rw [hb, hs, bs_raw], hl⟩, by show (raw s).length ≤ _; rw [length_raw]; exact hsz, hlk⟩

set_option maxRecDepth 100000 in
theorem opensRule : Opens enc W 43 ruleK okR := by
  intro n cs x h hw
  obtain ⟨y0, y1, m, hx, hl, h0, h1⟩ := trod_struct2 Tryz.underlying43 h
  rw [cellsRule] at hl
  match cs, hl with
  | [c0, c1, c2, c3], _ =>
    have e0 : Tryz.prog.cellsOf 40 = 3 := cellsAtom
    have e1 : Tryz.prog.cellsOf 41 = 1 := cellsAtoms
    simp only [e0, e1, List.drop_zero, List.drop_succ_cons, List.take_succ_cons, List.take_zero] at h0 h1
    have hws : Sized 40 y0.1 ∧ Sized 41 y1.1 := by
      unfold Sized at hw ⊢
      rw [hx, DataW.weights, Tryz.underlying43] at hw
      simp only [List.map_cons, List.map_nil, DataW.weightsEach, List.all_append, Bool.and_eq_true] at hw
      exact ⟨hw.1, hw.2.1⟩
    obtain ⟨a, ⟨v, ev, hv⟩, hak⟩ := opensAtom _ _ _ h0 hws.1
    obtain ⟨l, hl, hlk⟩ := openSl Tryz.underlying41 cellsAtom (by rw [bytesAtom]; decide) (by decide) opensAtom h1 hws.2
    simp only [List.cons.injEq, and_true] at ev
    exact ⟨⟨a, l⟩, ⟨v, c3, by show [c0, c1, c2, c3] = _; rw [ev.1, ev.2.1, ev.2.2], hv, hl⟩, hak, hlk⟩

set_option maxRecDepth 100000 in
theorem openRules {b0 : Nat} {v : Value} {d : DataW H} {p : List MemPlace} (hv : Value.okWide Tryz.prog W .any b0 23 v) (h : DataW.Trod enc Tryz.prog W 0 (fun _ => true) true 23 v d p) (hw : Sized 23 d) : ∃ l, ruleK.sl Anyw W v l ∧ ∀ r ∈ l, okR r := by
  obtain ⟨a0, len0, cap0, rfl⟩ := okWide_slice Tryz.underlying23 hv
  obtain ⟨fuel, hf⟩ := h
  exact openSl Tryz.underlying23 cellsRule (by rw [bytesRule]; decide) (by decide) opensRule (x := (d, p)) (by simpa [Value.cells] using hf) hw

/-- What the form's reach says of an argument. -/
theorem sized_at {ts : List TypeId} {ds : List (DataW H)} (h : (DataW.weightsEach Tryz.prog ts ds).all (· ≤ reachBytes) = true) {j : Nat} {t : TypeId} {d : DataW H} (ht : ts[j]? = some t) (hd : ds[j]? = some d) : Sized t d :=
  List.all_eq_true.2 fun k hk => List.all_eq_true.1 h _ (DataW.weights_mem_each ht hd k hk)

end Go.Proofs.YtbohggoeebhdmaaGreatDoor

/- Facts, atoms and texts among a call's arguments, opened, each list within the form's reach. -/
namespace Go.Proofs.YtbohggoeebhdmaaGreatDoor
open Go.RowKit Go.Sort Go.ChangeShapes Go.WideShapes Go.ChangeAt Go.Deep

variable {H : Type} {enc : TypeId × Value → H} {W : World}

/-- A fact lies in two cells. -/
def factK : Kind FactD where
  size := 2
  is := fun B w c f => ∃ s, c = [.string f.1, s] ∧ bsK.sl B w s f.2
  len := fun ⟨s, h, _⟩ => by subst h; rfl
  one := fun ⟨s, h, hs⟩ u hu => by
    subst h
    obtain ⟨a, cap, rfl⟩ := Kind.slice hs
    simp at hu; rcases hu with rfl | rfl <;> rfl
  kept := fun ⟨v, h, hs⟩ h1 h2 => ⟨v, h, Kind.sl_kept hs h1 h2⟩
  mono := fun ⟨v, h, hs⟩ h1 => ⟨v, h, Kind.sl_mono hs h1⟩

theorem sl_strs {B : Nat → Prop} {w : World} {v : Value} {l : List ByteArray} (h : bsK.sl B w v l) : Strs w v l := by
  obtain ⟨⟨h0, _⟩, a, cap, rfl, h1⟩ := h
  refine ⟨h0, a, cap, rfl, fun hne => ?_⟩
  obtain ⟨b, off, rfl, _, hb, hc⟩ := h1 hne
  refine ⟨b, off, rfl, hb, fun i hi => ?_⟩
  obtain ⟨c, rfl, c2⟩ := hc i _ (List.getElem?_eq_getElem hi)
  have := c2 0 _ rfl
  rw [List.getD_eq_getElem?_getD, List.getElem?_eq_getElem hi]
  simpa [bsK] using this

theorem sl_facts {B : Nat → Prop} {w : World} {v : Value} {l : List FactD} (h : factK.sl B w v l) (hl : l.length ≤ 3518437208883) : Facts w v l := by
  obtain ⟨_, a, cap, rfl, h1⟩ := h
  refine ⟨hl, a, cap, rfl, fun hne => ?_⟩
  obtain ⟨b, off, rfl, _, hb, hc⟩ := h1 hne
  refine ⟨b, off, rfl, hb, fun i hi => ?_⟩
  obtain ⟨c, ⟨s, rfl, hs⟩, c2⟩ := hc i _ (List.getElem?_eq_getElem hi)
  rw [List.getD_eq_getElem?_getD, List.getElem?_eq_getElem hi]
  exact ⟨by simpa [factK] using c2 0 _ rfl, s, by simpa [factK] using c2 1 _ rfl, sl_strs hs⟩

def okS (s : ByteArray) : Prop := s.size ≤ maxLen
def okFt (f : FactD) : Prop := okS f.1 ∧ ∀ s ∈ f.2, okS s

theorem cellsFactP : Tryz.prog.cellsOf 54 = 2 := by kernel_rfl
theorem cellsStrsP : Tryz.prog.cellsOf 52 = 1 := by kernel_rfl
theorem bytesFactP : Tryz.prog.bytesOf 54 = 40 := by kernel_rfl
theorem bytesStrP : Tryz.prog.bytesOf 9 = 16 := by kernel_rfl

set_option maxRecDepth 100000 in
theorem opensStr : Opens enc W 9 bsK okS := by
  intro n cs x h _
  obtain ⟨s, hs, _, hsz⟩ := DataW.trod_string Tryz.underlying9 h
  exact ⟨s, hs, hsz⟩

set_option maxRecDepth 100000 in
theorem opensFact : Opens enc W 54 factK okFt := by
  intro n cs x h hw
  obtain ⟨y0, y1, m, hx, hl, h0, h1⟩ := trod_struct2 Tryz.underlying54 h
  rw [cellsFactP] at hl
  match cs, hl with
  | [c0, c1], _ =>
    have e0 : Tryz.prog.cellsOf 9 = 1 := cellsStrP
    have e1 : Tryz.prog.cellsOf 52 = 1 := cellsStrsP
    simp only [e0, e1, List.drop_zero, List.drop_succ_cons, List.take_succ_cons, List.take_zero] at h0 h1
    obtain ⟨s, hs, _, hsz⟩ := DataW.trod_string Tryz.underlying9 h0
    simp only [List.cons.injEq, and_true] at hs
    have hw2 : Sized 52 y1.1 := by
      unfold Sized at hw ⊢
      rw [hx, DataW.weights, Tryz.underlying54] at hw
      simp only [List.map_cons, List.map_nil, DataW.weightsEach, List.all_append, Bool.and_eq_true] at hw
      exact hw.2.1
    obtain ⟨l, hl, hlk⟩ := openSl Tryz.underlying52 cellsStrP (by rw [bytesStrP]; decide) (by decide) opensStr h1 hw2
    exact ⟨(s, l), ⟨c1, by show [c0, c1] = _; rw [hs], hl⟩, hsz, hlk⟩

set_option maxRecDepth 100000 in
theorem openFactsS {b0 : Nat} {v : Value} {d : DataW H} {p : List MemPlace} (hv : Value.okWide Tryz.prog W .any b0 24 v) (h : DataW.Trod enc Tryz.prog W 0 (fun _ => true) true 24 v d p) (hw : Sized 24 d) : ∃ l, Facts W v l ∧ ∀ f ∈ l, okFt f := by
  obtain ⟨a0, len0, cap0, rfl⟩ := okWide_slice Tryz.underlying24 hv
  obtain ⟨fuel, hf⟩ := h
  obtain ⟨l, h1, h2, h3⟩ := openSlB Tryz.underlying24 cellsFactP (by rw [bytesFactP]; decide) (by decide) opensFact (x := (d, p)) (by simpa [Value.cells] using hf) hw
  rw [bytesFactP] at h3
  exact ⟨l, sl_facts h1 (by unfold reachBytes at h3; omega), h2⟩

set_option maxRecDepth 100000 in
theorem openAtoms {b0 : Nat} {v : Value} {d : DataW H} {p : List MemPlace} (hv : Value.okWide Tryz.prog W .any b0 41 v) (h : DataW.Trod enc Tryz.prog W 0 (fun _ => true) true 41 v d p) (hw : Sized 41 d) : ∃ l, atomK.sl Anyw W v l ∧ (∀ a ∈ l, okA a) ∧ l.length * 48 ≤ reachBytes := by
  obtain ⟨a0, len0, cap0, rfl⟩ := okWide_slice Tryz.underlying41 hv
  obtain ⟨fuel, hf⟩ := h
  obtain ⟨l, h1, h2, h3⟩ := openSlB Tryz.underlying41 cellsAtom (by rw [bytesAtom]; decide) (by decide) opensAtom (x := (d, p)) (by simpa [Value.cells] using hf) hw
  rw [bytesAtom] at h3
  exact ⟨l, h1, h2, h3⟩

set_option maxRecDepth 100000 in
theorem openStrsS {b0 : Nat} {v : Value} {d : DataW H} {p : List MemPlace} (hv : Value.okWide Tryz.prog W .any b0 52 v) (h : DataW.Trod enc Tryz.prog W 0 (fun _ => true) true 52 v d p) (hw : Sized 52 d) : ∃ l, Strs W v l ∧ ∀ s ∈ l, okS s := by
  obtain ⟨a0, len0, cap0, rfl⟩ := okWide_slice Tryz.underlying52 hv
  obtain ⟨fuel, hf⟩ := h
  obtain ⟨l, h1, h2, _⟩ := openSlB Tryz.underlying52 cellsStrP (by rw [bytesStrP]; decide) (by decide) opensStr (x := (d, p)) (by simpa [Value.cells] using hf) hw
  exact ⟨l, sl_strs h1, h2⟩

end Go.Proofs.YtbohggoeebhdmaaGreatDoor

/-
  DERIVED: THE SHELF's CONTRACTS AT THIS DUMP, IN PLAIN WORDS (tools/lay-plain.mjs out of 'TryzShpLay.lean', which tools/lay-shelf.mjs wrote): THE SAME DECLARATIONS UNDER THE SAME NAMES: 'import', 'namespace', 'open', 'def', 'theorem' AND NOTHING ELSE: no command of the shelf's: FOR A HAND-IN. Each laying: the table of numbers ('.._ren') and one theorem, a field a fact of the dump's own or the kernel's comparison; each contract: ONE APPLICATION.
-/
namespace Go.Proofs
open Go.Shelf
def Tryz.laysM145_ren : Go.Shelf.Ren := ⟨fun | 145 => 206 | 220 => 223 | 219 => 229 | 217 => 230 | 225 => 231 | 224 => 232 | 267 => 233 | 266 => 234 | 314 => 235 | n => n, fun | 9 => 9 | 4 => 4 | 59 => 242 | 3 => 3 | 5 => 5 | 46 => 174 | 146 => 261 | 51 => 202 | n => n, fun | 1 => 3 | n => n⟩
theorem Tryz.laysM145 : Go.Proofs.LaysM.n145 Tryz.prog Tryz.laysM145_ren := {
  mixed := by kernel_rfl
  f145 := Tryz.func206.trans (congrArg some (by kernel_rfl))
  f217 := Tryz.func230.trans (congrArg some (by kernel_rfl))
  f219 := Tryz.func229.trans (congrArg some (by kernel_rfl))
  f220 := Tryz.func223.trans (congrArg some (by kernel_rfl))
  f224 := Tryz.func232.trans (congrArg some (by kernel_rfl))
  f225 := Tryz.func231.trans (congrArg some (by kernel_rfl))
  f266 := Tryz.func234.trans (congrArg some (by kernel_rfl))
  f267 := Tryz.func233.trans (congrArg some (by kernel_rfl))
  f314 := Tryz.func235.trans (congrArg some (by kernel_rfl))
  t3 := Tryz.underlying3
  a3 := Tryz.isAgg3
  z3 := Tryz.sizeOf3
  v3 := Tryz.zeroValue3
  t4 := Tryz.underlying4
  a4 := Tryz.isAgg4
  z4 := Tryz.sizeOf4
  v4 := Tryz.zeroValue4
  t5 := Tryz.underlying5
  a5 := Tryz.isAgg5
  z5 := Tryz.sizeOf5
  v5 := Tryz.zeroValue5
  t9 := Tryz.underlying9
  a9 := Tryz.isAgg9
  z9 := Tryz.sizeOf9
  v9 := Tryz.zeroValue9
  t46 := Tryz.underlying174
  a46 := Tryz.isAgg174
  z46 := Tryz.sizeOf174
  v46 := Tryz.zeroValue174
  t51 := Tryz.underlying202
  a51 := Tryz.isAgg202
  z51 := Tryz.sizeOf202
  v51 := Tryz.zeroValue202
  t59 := Tryz.underlying242
  a59 := Tryz.isAgg242
  z59 := Tryz.sizeOf242
  v59 := Tryz.zeroValue242
  t146 := Tryz.underlying261
  a146 := Tryz.isAgg261
  z146 := Tryz.sizeOf261
  v146 := Tryz.zeroValue261
  g1 := by kernel_rfl
  i3 := by kernel_rfl
  i4 := by kernel_rfl
  i5 := by kernel_rfl
  i9 := by kernel_rfl
  i46 := by kernel_rfl
  i51 := by kernel_rfl
  i59 := by kernel_rfl
  i146 := by kernel_rfl
  m1 := by kernel_rfl
  s1_3 := fun w h => Go.Proofs.cell_of_shapedOpen_int (zero := #[.int .i64 0]) (t := 3) h (of_decide_eq_true (by kernel_rfl)) (by kernel_rfl) rfl (by kernel_rfl) (by kernel_rfl) Tryz.underlying3 }
end Go.Proofs
