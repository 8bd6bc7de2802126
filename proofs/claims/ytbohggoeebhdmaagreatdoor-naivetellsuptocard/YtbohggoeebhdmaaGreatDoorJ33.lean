/- Texts of this claim, one behind the other. -/
import Derived.Test.YtbohggoeebhdmaaGreatDoorRows
import Derived.WalkKit
import Derived.Laws.StructEq
import Derived.Test.YtbohggoeebhdmaaGreatDoorJ32
import Derived.Test.YtbohggoeebhdmaaGreatDoorJ31
import Derived.Test.YtbohggoeebhdmaaGreatDoorJ22
/- Two faults that are one are not apart. -/
namespace Go.Proofs.YtbohggoeebhdmaaGreatDoor

theorem neqFault (x y : Int) (w : World) : (binOp .neq 27 (.agg #[.int .i64 x, .int .i64 y]) (.agg #[.int .i64 x, .int .i64 y])).run Tryz.prog w = .ok (.bool false) w := by
  go_simp

end Go.Proofs.YtbohggoeebhdmaaGreatDoor

/- The walk of NaiveTells. -/
namespace Go.Proofs.YtbohggoeebhdmaaGreatDoor
open Go.RowKit Go.Sort Go.Maps

/-- What is answered is facts, whatever is told. -/
theorem once_facts {w : World} {v : Value} {er : Int} {a : Int × List FactB} (h : OnceT w v er a) : Facts w v (if a.1 = 0 then a.2 else []) := by
  obtain ⟨_, h1, h2⟩ := h
  by_cases e : a.1 = 0
  · rw [if_pos e]; exact h2 e
  · rw [if_neg e, h1 e]; exact facts_nil w

set_option maxRecDepth 100000 in
set_option maxHeartbeats 2000000 in
theorem naiveTellsW (pv fv : Value) (p : List RuleD) (l : List FactB) (n : Int) (w : World) (hv : ruleK.sl Anyw w pv p) (hf : Facts w fv l) (hlg : ∀ r ∈ p, longR r) (hok : ∀ k, okF (l.getD k noFact)) :
    Calls Tryz.prog 3 #[pv, fv, .int .i64 n] w fun e w' => e = .returned (.bool true) ∧ Below w.heap.size w w' := by
  have HWp := hide (rWrongProgram p pv w hv hlg)
  obtain ⟨pa, pc, rfl⟩ := Kind.slice hv
  obtain ⟨fa, fc, rfl⟩ := sliceFacts hf
  have HV := hide hv
  have HF := hide hf
  have HLg := hide hlg
  have HOk := hide hok
  clear hv hf hlg hok
  obtain ⟨x, k, hxk⟩ : ∃ x k, wrongP p = (x, k) := ⟨_, _, rfl⟩
  rw [hxk] at HWp
  have HXK := hide hxk
  have hfe := errOf
  clear hxk
  go_enter Tryz.func3, Tryz.ntmps3
  go_wp2_with fail
  refine HWp.out.mono ?_
  rintro e w1 ⟨rfl, hB1⟩
  dsimp only
  have HB1 := hide hB1
  clear HWp hB1
  -- what comes behind the first look
  have key : Hid (∀ w4, Below w.heap.size w w4 → Calls Tryz.prog 12 #[.slice pa p.length pc, .slice fa l.length fc] w4 fun e w' => ∃ v' er, e = .returned (.tuple #[v', .int .i64 er]) ∧ OnceT w' v' er (allP p l) ∧ Below w4.heap.size w4 w') := fun w4 hB => naiveAllC p l _ _ w4 (Kind.sl_below HV.out hB) (HF.out.below hB)
  have keyR : Hid (∀ w4, Below w.heap.size w w4 → Calls Tryz.prog 13 #[.slice pa p.length pc, .slice fa l.length fc] w4 fun e w' => ∃ v' er, e = .returned (.tuple #[v', .int .i64 er]) ∧ OnceT w' v' er (allP p l) ∧ Below w4.heap.size w4 w') := fun w4 hB => rAll p l _ _ w4 (Kind.sl_below HV.out hB) (HF.out.below hB) HLg.out HOk.out
  have keyS : Hid (∀ w4, Below w.heap.size w w4 → Calls Tryz.prog 15 #[.slice pa p.length pc] w4 fun e w' => ∃ u, e = .returned (.tuple #[u, .agg #[.int .i64 (strataP p).2.1, .int .i64 ((strataP p).2.2 : Nat)]]) ∧ intK.sl (From w4.heap.size) w' u (strataP p).1 ∧ Below w4.heap.size w4 w') := fun w4 hB => rStrata p _ w4 (Kind.sl_below HV.out hB) HLg.out
  have keyF : Hid (RightP p → ∀ w4, Below w.heap.size w w4 → Calls Tryz.prog 11 #[.slice pa p.length pc, .slice fa l.length fc] w4 fun e w' => e = .returned (.agg #[.int .i64 (factsP p l).1, .int .i64 (factsP p l).2]) ∧ Below w4.heap.size w4 w') := fun hp w4 hB => rFacts p l _ _ w4 (Kind.sl_below HV.out hB) (HF.out.below hB) hp HOk.out
  have keyN : Hid (RightP p → ∀ w4, Below w.heap.size w w4 → Calls Tryz.prog 10 #[.slice pa p.length pc, .slice fa l.length fc] w4 fun e w' => e = .returned (.agg #[.int .i64 (factsP p l).1, .int .i64 (factsP p l).2]) ∧ Below w4.heap.size w4 w') := fun hp w4 hB => naiveFactsC p hp _ _ l w4 (Kind.sl_below HV.out hB) (HF.out.below hB)
  obtain ⟨fx, fe, hfx⟩ : ∃ fx fe, factsP p l = (fx, fe) := ⟨_, _, rfl⟩
  rw [hfx] at keyF keyN
  have HFX := hide hfx
  clear hfx
  have hnq := neqFault fx fe
  by_cases h0 : x = 0
  · subst h0
    have hp : RightP p := rightP_iff.1 (by rw [HXK.out])
    have HRP := hide hp
    have KF := hide (keyF.out hp)
    have KN := hide (keyN.out hp)
    clear hp keyF keyN HXK
    go_wp2_with fail
    refine (KN.out _ HB1.out).mono ?_
    rintro e w2 ⟨rfl, hB2⟩
    dsimp only
    have HB2 := hide (below_trans HB1.out hB2 HB1.out.size)
    clear hB2 HB1
    go_wp2_with fail
    refine (KF.out _ HB2.out).mono ?_
    rintro e w3 ⟨rfl, hB3⟩
    dsimp only
    have HB3 := hide (below_trans HB2.out hB3 HB2.out.size)
    clear hB3 HB2 KN
    go_wp2_with fail
    refine (key.out _ HB3.out).mono ?_
    rintro e w4 ⟨v4, er4, rfl, hT4, hB4⟩
    have HF4 := hide (once_facts hT4)
    obtain ⟨he4, _⟩ := hT4
    subst he4
    have HB4 := hide (below_trans HB3.out hB4 HB3.out.size)
    obtain ⟨a4, n4, c4, rfl⟩ : ∃ a n c, v4 = .slice a n c := by obtain ⟨a, c, e⟩ := sliceFacts HF4.out; exact ⟨a, _, c, e⟩
    clear hB4 HB3
    go_wp2_with fail
    refine (keyR.out _ HB4.out).mono ?_
    rintro e w5 ⟨v5, er5, rfl, hT5, hB5⟩
    have HF5 := hide (once_facts hT5)
    obtain ⟨he5, _⟩ := hT5
    subst he5
    have HB5 := hide (below_trans HB4.out hB5 HB4.out.size)
    have HF45 := hide (HF4.out.below hB5)
    obtain ⟨a5, n5, c5, rfl⟩ : ∃ a n c, v5 = .slice a n c := by obtain ⟨a, c, e⟩ := sliceFacts HF5.out; exact ⟨a, _, c, e⟩
    have HSm := hide (rSame (.slice a4 n4 c4) (.slice a5 n5 c5) _ w5 HF45.out HF5.out)
    generalize (allP p l).1 = ea at *
    have hee : (ea != ea) = false := by simp
    clear hB5 HB4 HF4 HF5 HF45
    go_wp2_with fail
    refine HSm.out.mono ?_
    rintro e w6 ⟨rfl, hL6⟩
    have HB6 := hide (below_trans HB5.out hL6.below HB5.out.size)
    clear hL6 HSm HB5 key keyR
    obtain ⟨ss, ex, es, hse⟩ : ∃ ss ex ea, strataP p = (ss, ex, ea) := ⟨_, _, _, rfl⟩
    have HSE := hide hse
    rw [hse] at keyS
    clear hse
    go_wp2_with fail
    refine (keyS.out _ HB6.out).mono ?_
    rintro e w7 ⟨u7, rfl, hu7, hB7⟩
    dsimp only at hu7 ⊢
    have HU7 := hide (Kind.sl_any hu7)
    obtain ⟨ua, uc, rfl⟩ := Kind.slice hu7
    have HB7 := hide (below_trans HB6.out hB7 HB6.out.size)
    clear hu7 hB7 keyS HB6
    by_cases h7 : ex = 0
    · subst h7
      obtain ⟨hw0, m, hms, hdm, hlm, hsm⟩ := strataP_ok HSE.out
      have hsm1 : ∀ s ∈ ss, s < 1000 := fun s hs => by
        rw [hms] at hs
        obtain ⟨r, hr, rfl⟩ := List.mem_map.1 hs
        have := lev_small hlm hsm r hr
        have := HRP.out.few
        omega
      have HSm1 := hide hsm1
      obtain ⟨w8, hw8⟩ : ∃ w8, w8 = w7.alloc (.cells #[.int .i64 0, .int .i64 (es : Nat)] 27) := ⟨_, rfl⟩
      have hL8 : Later w7 w8 := by rw [hw8]; exact (Later.refl _).alloc _
      have HB8 := hide (below_trans HB7.out hL8.below HB7.out.size)
      have HU8 := hide (Kind.sl_later HU7.out hL8)
      have HW8 := hide hw8
      clear hw0 hms hdm hlm hsm hsm1 hL8 hw8 HB7 HU7 HSE
      go_wp2_with fail
      rw [← HW8.out]
      refine (KF.out _ HB8.out).mono ?_
      rintro e w9 ⟨rfl, hB9⟩
      dsimp only
      have HB9 := hide (below_trans HB8.out hB9 HB8.out.size)
      have HU9 := hide (Kind.sl_below HU8.out hB9)
      clear hB9 HB8 HU8 HW8 KF
      by_cases h9 : fx = 0
      · subst h9
        have hG : GoodS p l := facts_good (by rw [HFX.out])
        have HG := hide hG
        have HCn := hide (countC ss (.slice ua ss.length uc) w9 HU9.out HSm1.out)
        clear hG HFX
        go_wp2_with fail
        refine HCn.out.mono ?_
        rintro e w10 ⟨rfl, hL10⟩
        have HB10 := hide (below_trans HB9.out hL10.below HB9.out.size)
        have HU10 := hide (Kind.sl_later HU9.out hL10)
        have HRc := hide (rCount ss (.slice ua ss.length uc) w10 HU10.out HSm1.out)
        generalize countP ss = cn at *
        have hcc : ((cn : Int) != (cn : Int)) = false := by simp
        clear hL10 HCn HB9 HU9
        go_wp2_with fail
        refine HRc.out.mono ?_
        rintro e w11 ⟨rfl, hw11⟩
        subst hw11
        have HOn := hide (onceC p ss n l (.slice pa p.length pc) (.slice ua ss.length uc) (.slice fa l.length fc) w11 (Kind.sl_below HV.out HB10.out) HU10.out (HF.out.below HB10.out) HRP.out.few HG.out.few (errW_right HRP.out HG.out) (short_right HRP.out HG.out) (fun f hf => right_short (HG.out.right f hf)))
        clear HRc
        go_wp2_with fail
        refine HOn.out.mono ?_
        rintro e w12 ⟨v12, er12, rfl, hT12, hB12⟩
        have HF12 := hide (once_facts hT12)
        obtain ⟨he12, _⟩ := hT12
        subst he12
        have HB12 := hide (below_trans HB10.out hB12 HB10.out.size)
        have HRO := hide (rOnce p ss n l (.slice pa p.length pc) (.slice ua ss.length uc) (.slice fa l.length fc) w12 (Kind.sl_below HV.out HB12.out) (Kind.sl_below HU10.out hB12) (HF.out.below HB12.out) HRP.out HG.out)
        obtain ⟨a12, n12, c12, rfl⟩ : ∃ a n c, v12 = .slice a n c := by obtain ⟨a, c, e⟩ := sliceFacts HF12.out; exact ⟨a, _, c, e⟩
        clear hB12 HOn HB10 HU10
        go_wp2_with fail
        refine HRO.out.mono ?_
        rintro e w13 ⟨v13, er13, rfl, hT13, hB13⟩
        have HF13 := hide (once_facts hT13)
        obtain ⟨he13, _⟩ := hT13
        subst he13
        have HB13 := hide (below_trans HB12.out hB13 HB12.out.size)
        have HF123 := hide (HF12.out.below hB13)
        obtain ⟨a13, n13, c13, rfl⟩ : ∃ a n c, v13 = .slice a n c := by obtain ⟨a, c, e⟩ := sliceFacts HF13.out; exact ⟨a, _, c, e⟩
        have HSm := hide (rSame (.slice a12 n12 c12) (.slice a13 n13 c13) _ w13 HF123.out HF13.out)
        generalize (onceP p ss n l).1 = eb at *
        have heb : (eb != eb) = false := by simp
        clear hB13 HRO HB12 HF12 HF13 HF123
        go_wp2_with fail
        refine HSm.out.mono ?_
        rintro e w14 ⟨rfl, hL14⟩
        have HB14 := hide (below_trans HB13.out hL14.below HB13.out.size)
        have h16 := HRP.out.few
        clear hL14 HSm HB13
        go_wp2
        go_loopg [96] p.length (fun g i wr => ∃ j : Nat, j + g = p.length ∧ i = .int .i64 j ∧ Hid (Below w.heap.size w wr))
        case atStart => exact ⟨0, by omega, rfl, HB14⟩
        case round =>
          clear HB14
          obtain ⟨j, hj, rfl, HBr⟩ := hrel
          by_cases hlt : j < p.length
          · obtain ⟨r, hr⟩ : ∃ x, p[j]? = some x := ⟨_, List.getElem?_eq_getElem hlt⟩
            have hrm : r ∈ p := List.mem_of_getElem? hr
            obtain ⟨b1, o1, _, rfl, hb1, ⟨tv, bv, rfl, htv, hbv⟩, hc⟩ := Kind.sl_at HV.out hr
            have d0 : wr.cell? ⟨b1, o1 + j * 4, none⟩ = some (.bool r.head.no) := by rw [HBr.out.cell (p := ⟨b1, o1 + j * 4, none⟩) hb1]; exact hc 0 _ rfl
            have d1 : wr.cell? ⟨b1, o1 + j * 4 + 1, none⟩ = some (.string (bs r.head.name)) := by rw [HBr.out.cell (p := ⟨b1, o1 + j * 4 + 1, none⟩) hb1]; exact hc 1 _ rfl
            have d2 : wr.cell? ⟨b1, o1 + j * 4 + 2, none⟩ = some tv := by rw [HBr.out.cell (p := ⟨b1, o1 + j * 4 + 2, none⟩) hb1]; exact hc 2 _ rfl
            have d3 : wr.cell? ⟨b1, o1 + j * 4 + 3, none⟩ = some bv := by rw [HBr.out.cell (p := ⟨b1, o1 + j * 4 + 3, none⟩) hb1]; exact hc 3 _ rfl
            obtain ⟨ta, tc, rfl⟩ := Kind.slice htv
            obtain ⟨ba, bc, rfl⟩ := Kind.slice hbv
            obtain ⟨wb, hwb⟩ : ∃ wb, wb = wr.alloc (.cells #[.bool r.head.no, .string (bs r.head.name), .slice ta r.head.terms.length tc, .slice ba r.body.length bc] 43) := ⟨_, rfl⟩
            have hLb : Later wr wb := by rw [hwb]; exact (Later.refl _).alloc _
            have hrb : wb.heap[wr.heap.size]? = some (.cells #[.bool r.head.no, .string (bs r.head.name), .slice ta r.head.terms.length tc, .slice ba r.body.length bc] 43 (0, 0)) := by rw [hwb]; exact heap_alloc_new wr _
            have hBb : Below w.heap.size w wb := below_trans HBr.out hLb.below HBr.out.size
            have HH := hide (headsC r (.slice ta r.head.terms.length tc) (.slice ba r.body.length bc) (.slice fa l.length fc) l wb (Kind.sl_below htv hBb) (Kind.sl_below hbv hBb) (HF.out.below hBb) (short_right HRP.out HG.out r hrm))
            have HRr : Hid (∀ w', Below w.heap.size w w' → Calls Tryz.prog 21 #[.agg #[.bool r.head.no, .string (bs r.head.name), .slice ta r.head.terms.length tc, .slice ba r.body.length bc], .slice fa l.length fc] w' fun e w'' => ∃ v' er, e = .returned (.tuple #[v', .int .i64 er]) ∧ HeadsR w'' v' er (headsP r l) ∧ Below w'.heap.size w' w'') := fun w' hB =>
              rHeads r _ _ _ l w' (Kind.sl_below htv hB) (Kind.sl_below hbv hB) (HF.out.below hB) (right_atoms HRP.out r hrm).1 (good_fault HG.out) (right_atoms HRP.out r hrm).2
            have h0 := errW_right HRP.out HG.out r hrm
            have HBb := hide hBb
            have HWb := hide hwb
            have HRb := hide hrb
            have hltb : wr.heap.size < wb.heap.size := (Array.getElem?_eq_some_iff.1 hrb).1
            clear hc hr htv hbv hLb hBb hwb hrb hrm
            generalize bs r.head.name = nm at *
            generalize hno : r.head.no = no at *
            clear hno
            go_wp2_with fail
            rw [← HWb.out]
            refine HH.out.mono ?_
            rintro e w15 ⟨v15, er15, rfl, hT15, hB15⟩
            unfold HeadsT at hT15
            rw [if_neg (by simp [h0])] at hT15
            have HB15 := hide (below_trans HBb.out hB15 HBb.out.size)
            have hr15 := (hB15.block _ hltb).trans HRb.out
            have k0 : w15.cell? ⟨wr.heap.size, 0, none⟩ = some (.bool no) := by rw [cell_of_row _ _ _ _ _ _ hr15]; rfl
            have k1 : w15.cell? ⟨wr.heap.size, 0 + 1, none⟩ = some (.string nm) := by rw [cell_of_row _ _ _ _ _ _ hr15]; rfl
            have k2 : w15.cell? ⟨wr.heap.size, 0 + 2, none⟩ = some (.slice ta r.head.terms.length tc) := by rw [cell_of_row _ _ _ _ _ _ hr15]; rfl
            have k3 : w15.cell? ⟨wr.heap.size, 0 + 3, none⟩ = some (.slice ba r.body.length bc) := by rw [cell_of_row _ _ _ _ _ _ hr15]; rfl
            have HR15 := hide (HRr.out w15 HB15.out)
            have HFS : Hid (∃ X, Facts w15 v15 X ∧ er15 = (match headsP r l with | none => 4 | some _ => 0) ∧ X = (headsP r l).getD []) := by
              cases hh : headsP r l with
              | none => rw [hh] at hT15; obtain ⟨rfl, rfl⟩ := hT15; exact ⟨[], facts_nil _, rfl, rfl⟩
              | some x => rw [hh] at hT15; obtain ⟨rfl, hx⟩ := hT15; exact ⟨x, hx, rfl, rfl⟩
            obtain ⟨X, hX, hex, hXe⟩ := HFS.out
            have HX := hide hX
            have HEX := hide hex
            have HXE := hide hXe
            obtain ⟨a15, n15, c15, rfl⟩ : ∃ a n c, v15 = .slice a n c := by obtain ⟨a, c, e⟩ := sliceFacts hX; exact ⟨a, _, c, e⟩
            clear hT15 hB15 hr15 HH HWb HRb HRr hX hex hXe HFS h0 d0 d1 d2 d3
            go_wp2_with fail
            refine HR15.out.mono ?_
            rintro e w16 ⟨v16, er16, rfl, hT16, hB16⟩
            have hY : Facts w16 v16 X ∧ er16 = er15 := by
              rw [HXE.out, HEX.out]
              cases hh : headsP r l with
              | none => rw [hh] at hT16; obtain ⟨rfl, rfl⟩ := hT16; exact ⟨facts_nil _, rfl⟩
              | some x => rw [hh] at hT16; obtain ⟨rfl, hx⟩ := hT16; exact ⟨hx, rfl⟩
            obtain ⟨hY, he⟩ := hY
            subst he
            have HB16 := hide (below_trans HB15.out hB16 HB15.out.size)
            have HSm := hide (rSame (.slice a15 n15 c15) v16 X w16 (HX.out.below hB16) hY)
            obtain ⟨a16, n16, c16, rfl⟩ : ∃ a n c, v16 = .slice a n c := by obtain ⟨a, c, e⟩ := sliceFacts hY; exact ⟨a, _, c, e⟩
            have heh : (er16 != er16) = false := by simp
            clear hT16 hB16 hY HR15 HX HEX HXE k0 k1 k2 k3 HB15
            go_wp2_with fail
            refine HSm.out.mono ?_
            rintro e w17 ⟨rfl, hL17⟩
            have HB17 := hide (below_trans HB16.out hL17.below HB16.out.size)
            clear hL17 HSm HB16
            go_wp2
            go_roundg (p.length - (j + 1))
            case measure => omega
            case rel => exact ⟨j + 1, by omega, by go_num, HB17⟩
          · go_wp2
            go_ret
            exact ⟨rfl, HBr.out⟩
      · have hne : (fx != 0) = true := by simpa using h9
        go_wp2
        go_ret
        exact ⟨rfl, HB9.out⟩
    · have hne : (ex != 0) = true := by simpa using h7
      have HB8 : Hid (Below w.heap.size w (w7.alloc (.cells #[.int .i64 ex, .int .i64 (es : Nat)] 27))) := below_trans HB7.out ((Later.refl _).alloc _).below HB7.out.size
      go_wp2
      go_ret
      exact ⟨rfl, HB8.out⟩
  · have hne : (x == 0) = false := by simpa using h0
    have hexn : (strataP p).2.1 ≠ 0 := fun h => h0 (by
      obtain ⟨hw0, _⟩ := strataP_ok (p := p) (l := (strataP p).1) (k := (strataP p).2.2) (by rw [← h])
      rw [HXK.out] at hw0
      exact hw0)
    have HEn := hide hexn
    clear hexn keyF keyN HXK HFX
    go_wp2_with fail
    refine (key.out _ HB1.out).mono ?_
    rintro e w4 ⟨v4, er4, rfl, hT4, hB4⟩
    have HF4 := hide (once_facts hT4)
    obtain ⟨he4, _⟩ := hT4
    subst he4
    have HB4 := hide (below_trans HB1.out hB4 HB1.out.size)
    obtain ⟨a4, n4, c4, rfl⟩ : ∃ a n c, v4 = .slice a n c := by obtain ⟨a, c, e⟩ := sliceFacts HF4.out; exact ⟨a, _, c, e⟩
    clear hB4 HB1
    go_wp2_with fail
    refine (keyR.out _ HB4.out).mono ?_
    rintro e w5 ⟨v5, er5, rfl, hT5, hB5⟩
    have HF5 := hide (once_facts hT5)
    obtain ⟨he5, _⟩ := hT5
    subst he5
    have HB5 := hide (below_trans HB4.out hB5 HB4.out.size)
    have HF45 := hide (HF4.out.below hB5)
    obtain ⟨a5, n5, c5, rfl⟩ : ∃ a n c, v5 = .slice a n c := by obtain ⟨a, c, e⟩ := sliceFacts HF5.out; exact ⟨a, _, c, e⟩
    have HSm := hide (rSame (.slice a4 n4 c4) (.slice a5 n5 c5) _ w5 HF45.out HF5.out)
    generalize (allP p l).1 = ea at *
    have hee : (ea != ea) = false := by simp
    clear hB5 HB4 HF4 HF5 HF45
    go_wp2_with fail
    refine HSm.out.mono ?_
    rintro e w6 ⟨rfl, hL6⟩
    have HB6 := hide (below_trans HB5.out hL6.below HB5.out.size)
    clear hL6 HSm HB5 key keyR
    obtain ⟨ss, ex, es, hse⟩ : ∃ ss ex ea, strataP p = (ss, ex, ea) := ⟨_, _, _, rfl⟩
    rw [hse] at keyS
    have h7 : ex ≠ 0 := by have := HEn.out; rw [hse] at this; exact this
    have hne7 : (ex != 0) = true := by simpa using h7
    clear hse HEn h7
    go_wp2_with fail
    refine (keyS.out _ HB6.out).mono ?_
    rintro e w7 ⟨u7, rfl, hu7, hB7⟩
    dsimp only at hu7 ⊢
    obtain ⟨ua, uc, rfl⟩ := Kind.slice hu7
    have HB7 := hide (below_trans HB6.out hB7 HB6.out.size)
    have HB8 : Hid (Below w.heap.size w (w7.alloc (.cells #[.int .i64 ex, .int .i64 (es : Nat)] 27))) := below_trans HB7.out ((Later.refl _).alloc _).below HB7.out.size
    clear hu7 hB7 keyS HB6
    go_wp2
    go_ret
    exact ⟨rfl, HB8.out⟩

end Go.Proofs.YtbohggoeebhdmaaGreatDoor
