/- The walk of MatchSo. -/
import Derived.Test.YthogickpeldhlaaGreatMtM
namespace Go.Proofs.YthogickpeldhlaaGreat
open Go.RowKit Go.Sort

/-- What With tells, apart. -/
theorem WithT.cases {w : World} {v : Value} {er : Int} {body : List AtomD} {fs os : List FactD} {at_ : Int} (h : WithT w v er body fs at_ os) :
    (v = .slice none 0 0 ∧ er ≠ 0) ∨ (er = 0 ∧ errW body fs os = 0 ∧ ∃ R, allB (pickB fs at_ os) body = some R ∧ listK.sl Anyw w v R) := by
  unfold WithT at h
  split at h
  · rename_i h0
    exact Or.inl ⟨h.1, by rw [h.2]; exact h0⟩
  · rename_i h0
    split at h
    · exact Or.inl ⟨h.1, by rw [h.2]; decide⟩
    · rename_i R hR
      exact Or.inr ⟨h.1, Classical.byContradiction h0, R, hR, h.2⟩

/-- With each list that is told the body is so; lists rise. -/
theorem told_so {body : List AtomD} {fs : List FactD} (h : errW body fs [] = 0) {R : List (List BindD)} (hR : allB (pickB fs (-1) []) body = some R) :
    (∀ l ∈ R, ∀ a ∈ body, ∃ f, fillB a l = some f ∧ inB fs f = !a.no) ∧ R.Pairwise (fun a b => cmpBs a b < 0) ∧ Rises fs := by
  obtain ⟨h1, h2, _⟩ := errW_zero h
  have hc := covers_of h1
  obtain ⟨_, hr, _⟩ := set_right h2
  rw [pick_all'] at hR
  refine ⟨fun l hl => ?_, all_strict hc (fun _ => rises_nodup hr) hR, hr⟩
  have hf := (all_mem hc hR l).1 hl
  exact SoB_const.1 hf.2.2.2

set_option maxRecDepth 100000 in
set_option maxHeartbeats 4000000 in
theorem matchSoW (v fv : Value) (body : List AtomD) (fs : List FactD) (w : World) (m : Int) (hm : w.cell? ⟨0, 0, none⟩ = some (.int .i64 m)) (hv : atomK.sl Anyw w v body) (hf : Facts w fv fs) :
    Calls Tryz.prog 4 #[v, fv] w fun e w' => e = .returned (.bool true) ∧ Below w.heap.size w w' := by
  have HA := hide (alive4 w m hm)
  have HV := hide hv
  have HF := hide hf
  have HAll : Hid (∀ w1, Below w.heap.size w w1 → Calls Tryz.prog 8 #[v, fv] w1 fun e w' => ∃ v' er, e = .returned (.tuple #[v', .int .i64 er]) ∧ WithT w' v' er body fs (-1) [] ∧ Below w.heap.size w w') := fun w1 hB =>
    (allC body v fv fs w1 (Kind.sl_below hv hB) (hf.below hB)).mono fun e w' ⟨v', er, he, hT, hB2⟩ => ⟨v', er, he, hT, below_trans hB hB2 hB.size⟩
  obtain ⟨a, cap, rfl⟩ := Kind.slice hv
  obtain ⟨fa, fc, rfl⟩ := sliceFacts hf
  have hbl := hv.1.1
  clear hv hf hm
  go_enter Tryz.func4, Tryz.ntmps4
  go_wp2_with fail
  refine HA.out.mono ?_
  rintro e w1 ⟨rfl, hB1⟩
  have HA1 := hide (HAll.out w1 hB1)
  clear HA HAll hB1
  go_wp2_with fail
  refine HA1.out.mono ?_
  rintro e w2 ⟨v', er, rfl, hT, hB2⟩
  have HB2 := hide hB2
  rcases hT.cases with ⟨rfl, hne⟩ | ⟨rfl, h0, R, hR, hsl⟩
  · have hq : (er != 0) = true := by simpa using hne
    clear hT hne hB2 HA1
    go_wp2
    go_ret
    exact ⟨rfl, HB2.out⟩
  · obtain ⟨hso, hst, hri⟩ := told_so h0 hR
    have HSo := hide hso
    have HSt := hide hst
    have HRi := hide hri
    have HRL := hide hsl
    have HV2 := hide (Kind.sl_below HV.out hB2)
    have HF2 := hide (HF.out.below hB2)
    have hrl := hsl.1.1
    obtain ⟨ra, rc, rfl⟩ := Kind.slice hsl
    clear hT hB2 HA1 h0 hR hsl hso hst hri HV HF
    go_wp2
    go_loopg [28] R.length (fun g i wr => ∃ j : Nat, j + g = R.length ∧ i = .int .i64 j ∧ Hid (Later w2 wr))
    case atStart => exact ⟨0, by omega, rfl, Later.refl _⟩
    case round =>
      obtain ⟨j, hj, rfl, HL⟩ := hrel
      by_cases hlt : j < R.length
      · obtain ⟨l, hx⟩ : ∃ x, R[j]? = some x := ⟨_, List.getElem?_eq_getElem hlt⟩
        obtain ⟨b1, o1, _, rfl, hb1, ⟨lv, rfl, hlv⟩, hc⟩ := Kind.sl_at HRL.out hx
        have d0 : wr.cell? ⟨b1, o1 + j, none⟩ = some lv := by rw [HL.out.cell hb1]; simpa [slK] using hc 0 _ rfl
        have hbr : b1 < wr.heap.size := Nat.lt_of_lt_of_le hb1 HL.out.size
        have HLV := hide hlv
        obtain ⟨la, lc, rfl⟩ := Kind.slice hlv
        have HSl : Hid (∀ a ∈ body, ∃ f, fillB a l = some f ∧ inB fs f = !a.no) := HSo.out l (List.mem_of_getElem? hx)
        have HX := hide hx
        clear hc hx hlv
        go_wp2
        go_loopg [35] body.length (fun g i wr => ∃ k : Nat, k + g = body.length ∧ i = .int .i64 k ∧ Hid (Later w2 wr))
        case atStart => exact ⟨0, by omega, rfl, HL⟩
        case round =>
          clear d0 hbr HL
          obtain ⟨k, hk, rfl, HL⟩ := hrel
          by_cases hltk : k < body.length
          · obtain ⟨t, ht⟩ : ∃ x, body[k]? = some x := ⟨_, List.getElem?_eq_getElem hltk⟩
            obtain ⟨b2, o2, _, rfl, hb2, ⟨sv, rfl, hsv⟩, hc⟩ := Kind.sl_at HV2.out ht
            have d0 : wr.cell? ⟨b2, o2 + k * 3, none⟩ = some (.bool t.no) := by rw [HL.out.cell hb2]; exact hc 0 _ rfl
            have d1 : wr.cell? ⟨b2, o2 + k * 3 + 1, none⟩ = some (.string (bs t.name)) := by rw [HL.out.cell hb2]; exact hc 1 _ rfl
            have d2 : wr.cell? ⟨b2, o2 + k * 3 + 2, none⟩ = some sv := by rw [HL.out.cell hb2]; exact hc 2 _ rfl
            have hbr : b2 < wr.heap.size := Nat.lt_of_lt_of_le hb2 HL.out.size
            obtain ⟨sva, svc, rfl⟩ := Kind.slice hsv
            have hLt : Later w2 (wr.alloc (.cells #[.bool t.no, .string (bs t.name), .slice sva t.terms.length svc] 38)) := HL.out.alloc _
            have HFc := hide (fillC t _ (.slice la l.length lc) l (wr.alloc (.cells #[.bool t.no, .string (bs t.name), .slice sva t.terms.length svc] 38)) (Kind.sl_later hsv hLt) (Kind.sl_later HLV.out hLt))
            obtain ⟨f, hf, hin⟩ := HSl.out t (List.mem_of_getElem? ht)
            unfold filled at HFc
            rw [hf] at HFc
            simp only [Option.isSome_some, Option.getD_some] at HFc
            rw [← in_eq] at hin
            have HIN := hide hin
            have HLt := hide hLt
            clear hc ht hsv hf hin hLt
            generalize bs t.name = nm at *
            generalize t.no = tn at *
            go_wp2_with fail
            refine HFc.out.mono ?_
            rintro e w3 ⟨f3, rfl, hfv, hL3⟩
            have HFV := hide hfv
            obtain ⟨s, rfl, hs⟩ := hfv
            obtain ⟨sA', sC', rfl⟩ := sliceStr hs
            obtain ⟨fn, fargs⟩ := f
            dsimp only at *
            obtain ⟨wb, hwb⟩ : ∃ wb, wb = w3.alloc (.cells #[.string fn, .slice sA' fargs.length sC'] 41) := ⟨_, rfl⟩
            have hL3b : Later w3 wb := by rw [hwb]; exact (Later.refl _).alloc _
            have hLb : Later w2 wb := HLt.out.trans (hL3.trans hL3b)
            have hFb : FactV wb (.agg #[.string fn, .slice sA' fargs.length sC']) (fn, fargs) := HFV.out.later hL3b
            have z : wb.cell? ⟨w3.heap.size, 0, none⟩ = some (.string fn) ∧ wb.cell? ⟨w3.heap.size, 1, none⟩ = some (.slice sA' fargs.length sC') := by rw [hwb]; simp
            have hs3 : wr.heap.size < w3.heap.size := by have := hL3.size; simp at this; omega
            have zz : wb.cell? ⟨wr.heap.size, 0, none⟩ = some (.bool tn) := by rw [(hL3.trans hL3b).cell (by simp)]; simp
            have hsb : w3.heap.size < wb.heap.size := by rw [hwb]; simp
            have CELL : Hid (∀ w', Later wb w' → w'.cell? ⟨w3.heap.size, 0, none⟩ = some (.string fn) ∧ w'.cell? ⟨w3.heap.size, 1, none⟩ = some (.slice sA' fargs.length sC') ∧ w'.cell? ⟨wr.heap.size, 0, none⟩ = some (.bool tn)) := fun w' hL =>
              ⟨by rw [hL.cell hsb]; exact z.1, by rw [hL.cell hsb]; exact z.2, by rw [hL.cell (by show wr.heap.size < _; omega)]; exact zz⟩
            have HIn : Hid (∀ w', Later wb w' → Calls Tryz.prog 16 #[.slice fa fs.length fc, .agg #[.string fn, .slice sA' fargs.length sC']] w' fun e w4 => e = .returned (.bool (!tn)) ∧ Later w' w4) := fun w' hL => by
              have := inC _ _ fs (fn, fargs) w' (HF2.out.later (hLb.trans hL)) (hFb.later hL) HRi.out
              rwa [HIN.out] at this
            have HWB := hide hwb
            clear hs hL3 HFc hwb z zz hsb HFV hFb hL3b HIN
            go_wp2
            rw [← HWB.out]
            have htt : ((!tn) == tn) = false := by cases tn <;> rfl
            refine wp_region_held_drew (S := fun w' => Later wb w') (by kernel_rfl) (Later.refl _).drew (fun hHeld => ?_)
            refine take_at (i := 0) (d := some 45) (v := ?_) rfl rfl (by kernel_rfl) (by kernel_rfl) (by kernel_rfl) (fun _ _ _ h => h) (Or.inl ⟨by rfl, ?_⟩) hHeld ?_
            rotate_left
            · intro w hSw; (try dsimp only at hSw);  go_simp; try with_reducible rfl
            simp only [Act.put, List.setIfInBounds_toArray, List.set_cons_zero, List.set_cons_succ]
            refine take_at (i := 1) (d := some 46) (v := ?_) rfl rfl (by kernel_rfl) (by kernel_rfl) (by kernel_rfl) (fun _ _ _ h => h) (Or.inl ⟨by rfl, ?_⟩) hHeld ?_
            rotate_left
            · intro w hSw; (try dsimp only at hSw);  go_simp; try with_reducible rfl
            simp only [Act.put, List.setIfInBounds_toArray, List.set_cons_zero, List.set_cons_succ]
            refine take_at (i := 2) (d := some 47) (v := ?_) rfl rfl (by kernel_rfl) (by kernel_rfl) (by kernel_rfl) (fun _ _ _ h => h) (Or.inl ⟨by rfl, ?_⟩) hHeld ?_
            rotate_left
            · intro w hSw; (try dsimp only at hSw);  go_simp; try with_reducible rfl
            simp only [Act.put, List.setIfInBounds_toArray, List.set_cons_zero, List.set_cons_succ]
            refine take_at (i := 3) (d := some 48) (v := ?_) rfl rfl (by kernel_rfl) (by kernel_rfl) (by kernel_rfl) (fun _ _ _ h => h) (Or.inl ⟨by rfl, ?_⟩) hHeld ?_
            rotate_left
            · intro w hSw; (try dsimp only at hSw);  go_simp; try with_reducible rfl
            simp only [Act.put, List.setIfInBounds_toArray, List.set_cons_zero, List.set_cons_succ]
            refine take_at (i := 4) (d := some 49) (v := ?_) rfl rfl (by kernel_rfl) (by kernel_rfl) (by kernel_rfl) (fun _ _ _ h => h) (Or.inl ⟨by rfl, ?_⟩) hHeld ?_
            rotate_left
            · intro w hSw; (try dsimp only at hSw); obtain ⟨q0, q1, q2⟩ := CELL.out w hSw; go_simp; try with_reducible rfl
            simp only [Act.put, List.setIfInBounds_toArray, List.set_cons_zero, List.set_cons_succ]
            refine take_at (i := 6) (d := some 51) (v := ?_) rfl rfl (by kernel_rfl) (by kernel_rfl) (by kernel_rfl) (fun _ _ _ h => h) (Or.inl ⟨by rfl, ?_⟩) hHeld ?_
            rotate_left
            · intro w hSw; (try dsimp only at hSw);  go_simp; try with_reducible rfl
            simp only [Act.put, List.setIfInBounds_toArray, List.set_cons_zero, List.set_cons_succ]
            refine take_at (i := 7) (d := some 52) (v := ?_) rfl rfl (by kernel_rfl) (by kernel_rfl) (by kernel_rfl) (fun _ _ _ h => h) (Or.inl ⟨by rfl, ?_⟩) hHeld ?_
            rotate_left
            · intro w hSw; (try dsimp only at hSw); obtain ⟨q0, q1, q2⟩ := CELL.out w hSw; go_simp; try with_reducible rfl
            simp only [Act.put, List.setIfInBounds_toArray, List.set_cons_zero, List.set_cons_succ]
            refine wpAnyH_ready (rs := [5]) (by kernel_rfl) (by simp) ?_
            refine AllReadyH.cons rfl (fun K hK => ?_) AllReadyH.nil
            go_simp
            refine (HIn.out _ hHeld).mono ?_
            rintro e u1 ⟨rfl, hU1⟩
            dsimp only
            have hU1' : Later wb u1 := Later.trans hHeld hU1
            refine hK.out _ _ hU1' (fun hHeld => ?_)
            clear hK K
            refine take_at (i := 8) (d := some 53) (v := ?_) rfl rfl (by kernel_rfl) (by kernel_rfl) (by kernel_rfl) (fun _ _ _ h => h) (Or.inl ⟨by rfl, ?_⟩) hHeld ?_
            rotate_left
            · intro w hSw; (try dsimp only at hSw);  go_simp; try with_reducible rfl
            simp only [Act.put, List.setIfInBounds_toArray, List.set_cons_zero, List.set_cons_succ]
            refine take_at (i := 9) (d := some 54) (v := ?_) rfl rfl (by kernel_rfl) (by kernel_rfl) (by kernel_rfl) (fun _ _ _ h => h) (Or.inl ⟨by rfl, ?_⟩) hHeld ?_
            rotate_left
            · intro w hSw; (try dsimp only at hSw);  go_simp; try with_reducible rfl
            simp only [Act.put, List.setIfInBounds_toArray, List.set_cons_zero, List.set_cons_succ]
            refine wpAnyH_done (by kernel_rfl) ?_ _
            have HLu := hide (hLb.trans hU1')
            go_wp2
            go_roundg (body.length - (k + 1))
            case measure => omega
            case rel => exact ⟨k + 1, by omega, by go_num, HLu⟩
          · by_cases hj0 : j = 0
            · subst hj0
              go_wp2
              go_roundg (R.length - (0 + 1))
              case measure => omega
              case rel => exact ⟨0 + 1, by omega, by go_num, HL⟩
            · obtain ⟨i, rfl⟩ : ∃ i, j = i + 1 := ⟨j - 1, by omega⟩
              obtain ⟨l0, hx0⟩ : ∃ x, R[i]? = some x := ⟨_, List.getElem?_eq_getElem (by omega)⟩
              obtain ⟨b3, o3, _, e3, hb3, ⟨lv0, rfl, hlv0⟩, hc0⟩ := Kind.sl_at HRL.out hx0
              cases e3
              have d3 : wr.cell? ⟨b1, o1 + i, none⟩ = some lv0 := by rw [HL.out.cell hb3]; simpa [slK] using hc0 0 _ rfl
              have hbr3 : b1 < wr.heap.size := Nat.lt_of_lt_of_le hb3 HL.out.size
              have hls : lessBs l0 l = true := by
                have h1 := List.pairwise_iff_getElem.1 HSt.out i (i + 1) (by omega) hlt (by omega)
                have h2 := (List.getElem?_eq_some_iff.1 hx0).2
                have h3 := (List.getElem?_eq_some_iff.1 HX.out).2
                rw [h2, h3] at h1
                unfold lessBs
                exact decide_eq_true h1
              have HLB := hide (lessBinds lv0 (.slice la l.length lc) l0 l wr (Kind.sl_later hlv0 HL.out) (Kind.sl_later HLV.out HL.out))
              rw [hls] at HLB
              obtain ⟨la0, lc0, rfl⟩ := Kind.slice hlv0
              have hpos : (0 : Int) < ((i + 1 : Nat) : Int) := by omega
              have hsub : ((i + 1 : Nat) : Int) - 1 = (i : Int) := by omega
              have hsb : IntKind.i64.wrap (i : Int) = (i : Int) := by simp [IntKind.wrap, IntKind.bits, IntKind.signed]; omega
              clear hc0 hx0 hlv0 hls
              go_wp2_with fail
              refine HLB.out.mono ?_
              rintro e w4 ⟨rfl, hL4⟩
              have HL4 := hide (HL.out.trans hL4)
              clear hL4 HLB
              go_wp2
              go_roundg (R.length - (i + 1 + 1))
              case measure => omega
              case rel => exact ⟨i + 1 + 1, by omega, by go_num, HL4⟩
      · go_wp2
        go_ret
        exact ⟨rfl, below_trans HB2.out HL.out.below HB2.out.size⟩

end Go.Proofs.YthogickpeldhlaaGreat
