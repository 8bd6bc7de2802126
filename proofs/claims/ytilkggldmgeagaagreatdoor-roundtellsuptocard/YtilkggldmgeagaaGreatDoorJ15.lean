/- Texts of this claim, one behind the other. -/
import Derived.Test.YtilkggldmgeagaaGreatDoorJ12
import Derived.Test.YtilkggldmgeagaaGreatDoorJ13
import Derived.Test.YtilkggldmgeagaaGreatDoorJ14
import Derived.Shelf.Spec.SlicesGrow
import Derived.Test.YtilkggldmgeagaaGreatDoorProg
import Derived.Test.YtilkggldmgeagaaGreatDoorJ8
/- The walk of naive.Heads. -/
namespace Go.Proofs.YtilkggldmgeagaaGreatDoor
open Go.RowKit Go.Sort Go.Maps

theorem meetAll_small (pick : Nat → List FactB) : ∀ (ats : List AtomD) (n : Nat) (ls ms : List (List BindD)), ls.length ≤ 20000 → metGo pick n ats ls = some ms → ms.length ≤ 20000
  | [], _, ls, ms, h, e => by cases e; exact h
  | a :: ats, n, ls, ms, h, e => by
    unfold metGo at e
    split at e
    · exact meetAll_small pick ats _ ls ms h e
    · split at e
      · cases e
      · exact meetAll_small pick ats _ _ ms (by omega) e
theorem allB_small {pick : Nat → List FactB} {body : List AtomD} {R : List (List BindD)} (h : allB pick body = some R) : R.length ≤ 20000 := by
  unfold allB at h
  cases e : metGo pick 0 body [[]] with
  | none => rw [e] at h; cases h
  | some ms =>
    rw [e] at h
    cases h
    have := meetAll_small pick body 0 [[]] ms (by simp) e
    rw [(sortBy_perm _).length_eq, List.length_map]
    exact Nat.le_trans (List.length_filter_le _ _) this

theorem pickB_all (fs : List FactD) : pickB fs (-1) [] = fun _ => fs := by
  funext n
  unfold pickB
  rw [if_neg (by omega)]

def HeadsT (w : World) (v : Value) (er : Int) (r : RuleD) (fs : List FactB) : Prop :=
  if errW r.body fs [] ≠ 0 then v = .slice none 0 0 ∧ er = errW r.body fs [] else match headsP r fs with
    | none => v = .slice none 0 0 ∧ er = 4
    | some x => er = 0 ∧ Facts w v x

theorem one_fact {w : World} {g : Nat} {f : FactB} {s : Value} (h : w.heap[g]? = some (.cells #[.string f.1, s] 50 (0, 0))) (hs : Strs w s f.2) : Facts w (.slice (some ⟨g, 0, none⟩) 1 1) [f] := by
  refine ⟨by simp, _, 1, rfl, fun _ => ⟨g, 0, rfl, (Array.getElem?_eq_some_iff.1 h).1, fun i hi => ?_⟩⟩
  have : i = 0 := by simp at hi; omega
  subst this
  exact ⟨by rw [cell_of_row _ _ _ _ _ _ h]; rfl, s, by rw [cell_of_row _ _ _ _ _ _ h]; rfl, hs⟩

set_option maxHeartbeats 4000000 in
theorem headsC (r : RuleD) (tv bv fv : Value) (fs : List FactB) (w : World) (ht : termK.sl Anyw w tv r.head.terms) (hb : atomK.sl Anyw w bv r.body) (hf : Facts w fv fs)
    (hs : ∀ R, allB (fun _ => fs) r.body = some R → ∀ l ∈ R, ∀ f, fillB r.head l = some f → ShortF f) :
    Calls Tryz.prog 84 #[.agg #[.bool r.head.no, .string (bs r.head.name), tv, bv], fv] w fun e w' => ∃ v' er, e = .returned (.tuple #[v', .int .i64 er]) ∧ HeadsT w' v' er r fs ∧ Below w.heap.size w w' := by
  obtain ⟨ta, tc, rfl⟩ := Kind.slice ht
  obtain ⟨ba, bc, rfl⟩ := Kind.slice hb
  obtain ⟨fa, fc, rfl⟩ := sliceFacts hf
  obtain ⟨wb, hwb⟩ : ∃ wb, wb = w.alloc (.cells #[.bool r.head.no, .string (bs r.head.name), .slice ta r.head.terms.length tc, .slice ba r.body.length bc] 57) := ⟨_, rfl⟩
  have hLb : Later w wb := by rw [hwb]; exact (Later.refl w).alloc _
  have hrb : wb.heap[w.heap.size]? = some (.cells #[.bool r.head.no, .string (bs r.head.name), .slice ta r.head.terms.length tc, .slice ba r.body.length bc] 57 (0, 0)) := by rw [hwb]; exact heap_alloc_new w _
  have HA := hide (allC r.body (.slice ba r.body.length bc) (.slice fa fs.length fc) fs wb (Kind.sl_later hb hLb) (hf.later hLb))
  have HTm := hide (Kind.sl_later ht hLb)
  have HS := hide hs
  have HLb := hide hLb
  have HRb := hide hrb
  have c3 : wb.cell? ⟨w.heap.size, 3, none⟩ = some (.slice ba r.body.length bc) := by rw [cell_of_row _ _ _ _ _ _ hrb]; rfl
  have HWB := hide hwb
  clear ht hb hf hs hLb hrb
  go_enter Tryz.func84, Tryz.ntmps84
  rw [hwb] at c3
  clear hwb
  go_wp2_with fail
  rw [← HWB.out]
  clear c3
  refine HA.out.mono ?_
  rintro e w1 ⟨v1, er, rfl, hT, hB1⟩
  clear HA
  unfold WithT at hT
  rw [pickB_all] at hT
  have HB1 : Hid (Below w.heap.size w w1) := below_trans HLb.out.below hB1 HLb.out.size
  have hwlt : w.heap.size < wb.heap.size := (Array.getElem?_eq_some_iff.1 HRb.out).1
  have HR1 : Hid (w1.heap[w.heap.size]? = some (.cells #[.bool r.head.no, .string (bs r.head.name), .slice ta r.head.terms.length tc, .slice ba r.body.length bc] 57 (0, 0))) := by
    show _ = _; rw [hB1.block _ hwlt]; exact HRb.out
  have HT1 := hide (Kind.sl_below HTm.out hB1)
  clear hB1 HTm HRb HLb HWB hwlt
  by_cases h0 : errW r.body fs [] = 0
  · rw [if_neg (by simp [h0])] at hT
    cases hR : allB (fun _ => fs) r.body with
    | none =>
      rw [hR] at hT
      obtain ⟨rfl, rfl⟩ := hT
      have HH : Hid (∀ w', HeadsT w' (.slice none 0 0) 4 r fs) := fun w' => by unfold HeadsT headsP; rw [if_neg (by simp [h0]), hR]; exact ⟨rfl, rfl⟩
      clear h0 hR HS HR1 HT1
      go_wp2
      exact bodyPost_ret (v := .tuple #[.slice none 0 0, .int .i64 4]) (by simp [results, Tryz.results84, go_sem]) rfl ⟨_, 4, rfl, HH.out _, HB1.out⟩
    | some R =>
      rw [hR] at hT
      obtain ⟨rfl, hsl⟩ := hT
      have hsmall := allB_small hR
      have HSh := hide (HS.out R hR)
      have HH : Hid (∀ w' v', Facts w' v' (setF (R.filterMap fun l => fillB r.head l)) → HeadsT w' v' 0 r fs) := fun w' v' h => by unfold HeadsT headsP; rw [if_neg (by simp [h0]), hR]; exact ⟨rfl, h⟩
      have HRL := hide hsl
      obtain ⟨ra, rc, rfl⟩ := Kind.slice hsl
      clear h0 hR hsl HS
      have hmm := @run_makeMap Tryz.prog
      obtain ⟨w2, hw2⟩ : ∃ w2, w2 = w1.alloc (.map #[] 0) := ⟨_, rfl⟩
      have HK2 : Hid (KnN w2 w1.heap.size 0 ((R.take 0).filterMap fun l => fillB r.head l)) := by show KnN _ _ _ _; rw [hw2]; exact KnownM.made _ _ _
      have HB2 : Hid (Below w1.heap.size w1 w2) := by show Below _ _ _; rw [hw2]; exact ((Later.refl w1).alloc _).below
      have HW2 := hide hw2
      clear hw2
      go_wp2
      rw [← HW2.out]
      clear hmm HW2
      go_loopg [26] R.length (fun g i wr => ∃ j : Nat, j + g = R.length ∧ i = .int .i64 j ∧ Hid (KnN wr w1.heap.size j ((R.take j).filterMap fun l => fillB r.head l)) ∧ Hid (Below w1.heap.size w1 wr))
      case atStart => exact ⟨0, by omega, rfl, HK2, HB2⟩
      case round =>
        clear HK2 HB2
        obtain ⟨j, hj, rfl, HK, HBr⟩ := hrel
        by_cases hlt : j < R.length
        · obtain ⟨l, hx⟩ : ∃ x, R[j]? = some x := ⟨_, List.getElem?_eq_getElem hlt⟩
          obtain ⟨b1, o1, _, rfl, hb1, ⟨lv, rfl, hlv⟩, hc⟩ := Kind.sl_at HRL.out hx
          have d0 : wr.cell? ⟨b1, o1 + j, none⟩ = some lv := by rw [HBr.out.cell (p := ⟨b1, o1 + j, none⟩) hb1]; simpa [slK] using hc 0 _ rfl
          have HLV := hide hlv
          obtain ⟨la, lc, rfl⟩ := Kind.slice hlv
          have hbw : w.heap.size < w1.heap.size := (Array.getElem?_eq_some_iff.1 HR1.out).1
          have hrr : wr.heap[w.heap.size]? = some (.cells #[.bool r.head.no, .string (bs r.head.name), .slice ta r.head.terms.length tc, .slice ba r.body.length bc] 57 (0, 0)) := by rw [HBr.out.block _ hbw]; exact HR1.out
          have r0 : wr.cell? ⟨w.heap.size, 0, none⟩ = some (.bool r.head.no) := by rw [cell_of_row _ _ _ _ _ _ hrr]; rfl
          have r1 : wr.cell? ⟨w.heap.size, 0 + 1, none⟩ = some (.string (bs r.head.name)) := by rw [cell_of_row _ _ _ _ _ _ hrr]; rfl
          have r2 : wr.cell? ⟨w.heap.size, 0 + 2, none⟩ = some (.slice ta r.head.terms.length tc) := by rw [cell_of_row _ _ _ _ _ _ hrr]; rfl
          have HFc := hide (fillC r.head _ (.slice la l.length lc) l wr (Kind.sl_below HT1.out HBr.out) (Kind.sl_below HLV.out HBr.out))
          have htk : R.take (j + 1) = R.take j ++ [l] := by rw [List.take_add_one, hx]; rfl
          have hSl := HSh.out l (List.mem_of_getElem? hx)
          unfold filled at HFc
          clear hc hx hlv hrr
          cases hfl : fillB r.head l with
          | none =>
            rw [hfl] at HFc
            have HK' : Hid (KnN wr w1.heap.size (j + 1) ((R.take (j + 1)).filterMap fun l => fillB r.head l)) := by
              show KnN _ _ _ _
              rw [htk, List.filterMap_append]
              simp only [List.filterMap_cons, hfl, List.filterMap_nil, List.append_nil]
              exact HK.out.mono (Nat.le_succ _)
            clear hfl htk hSl
            generalize bs r.head.name = nm at *
            generalize r.head.no = no at *
            go_wp2_with fail
            refine HFc.out.mono ?_
            rintro e w3 ⟨f3, rfl, hfv, hL3⟩
            obtain ⟨s, rfl, hs⟩ := hfv
            obtain ⟨sA', sC', rfl⟩ := sliceStr hs
            simp only [Option.isSome_none]
            have HL3 : Hid (Later wr w3) := hL3
            clear hs hL3
            go_wp2
            go_roundg (R.length - (j + 1))
            case measure => omega
            case rel => exact ⟨j + 1, by omega, by go_num, HK'.out.later (HL3.out.alloc _), below_trans HBr.out (HL3.out.alloc _).below HBr.out.size⟩
          | some f =>
            rw [hfl] at HFc
            have hsf := hSl f hfl
            have hfm : (R.take (j + 1)).filterMap (fun l => fillB r.head l) = (R.take j).filterMap (fun l => fillB r.head l) ++ [f] := by
              rw [htk, List.filterMap_append]
              simp only [List.filterMap_cons, hfl, List.filterMap_nil]
            have HFM := hide hfm
            have HSF := hide hsf
            clear hfl htk hSl hfm hsf
            generalize bs r.head.name = nm at *
            generalize r.head.no = no at *
            go_wp2_with fail
            refine HFc.out.mono ?_
            rintro e w3 ⟨f3, rfl, hfv, hL3⟩
            simp only [Option.isSome_some, Option.getD_some] at hfv ⊢
            obtain ⟨s, rfl, hs⟩ := hfv
            obtain ⟨sA', sC', rfl⟩ := sliceStr hs
            obtain ⟨fn, fargs⟩ := f
            dsimp only at *
            obtain ⟨w4, hw4⟩ : ∃ w4, w4 = (w3.alloc (.cells #[.string fn, .slice sA' fargs.length sC'] 50)).alloc (.cells #[.string fn, .slice sA' fargs.length sC'] 50) := ⟨_, rfl⟩
            have hL4 : Later w3 w4 := by rw [hw4]; exact ((Later.refl _).alloc _).alloc _
            have hr4 : w4.heap[w3.heap.size + 1]? = some (.cells #[.string fn, .slice sA' fargs.length sC'] 50 (0, 0)) := by
              rw [hw4]; have := heap_alloc_new (w3.alloc (.cells #[.string fn, .slice sA' fargs.length sC'] 50)) (.cells #[.string fn, .slice sA' fargs.length sC'] 50); simpa using this
            have HAd := hide (knownAdd w1.heap.size j _ (.slice (some ⟨w3.heap.size + 1, 0, none⟩) 1 1) [(fn, fargs)] w4 (HK.out.later (hL3.trans hL4)) (one_fact (f := (fn, fargs)) hr4 (hs.later hL4)) (fun g hg => by simp only [List.mem_singleton] at hg; subst hg; exact HSF.out) (by simp; omega))
            have HL4 : Hid (Later wr w4) := hL3.trans hL4
            have HW4 := hide hw4
            clear hs hL3 hL4 hr4 hw4 HFc
            go_wp2_with fail
            rw [← HW4.out]
            refine HAd.out.mono ?_
            rintro e w5 ⟨⟨u5, rfl⟩, hK5, hT5⟩
            have HK5 : Hid (KnN w5 w1.heap.size (j + 1) ((R.take (j + 1)).filterMap fun l => fillB r.head l)) := by show KnN _ _ _ _; rw [HFM.out]; exact hK5
            have hs4 : w1.heap.size ≤ w4.heap.size := Nat.le_trans HBr.out.size HL4.out.size
            have HB5 : Hid (Below w1.heap.size w1 w5) := (below_trans HBr.out HL4.out.below HBr.out.size).trans (hT5.below (Nat.le_refl _) hs4)
            clear hK5 hT5 HAd HW4
            go_wp2
            go_roundg (R.length - (j + 1))
            case measure => omega
            case rel => exact ⟨j + 1, by omega, by go_num, HK5, HB5⟩
        · have hj' : j = R.length := by omega
          subst hj'
          rw [List.take_length] at HK
          have HF := hide (knownSet _ _ _ wr HK.out (by omega))
          go_wp2_with fail
          refine HF.out.mono ?_
          rintro e w6 ⟨v6, rfl, hF6, hB6⟩
          have HT6 := hide (HH.out _ _ hF6)
          have HB6 : Hid (Below w.heap.size w w6) := below_trans (below_trans HB1.out HBr.out HB1.out.size) hB6 (Nat.le_trans HB1.out.size HBr.out.size)
          obtain ⟨a6, c6, rfl⟩ := sliceFacts hF6
          clear hF6 hB6
          go_wp2
          exact bodyPost_ret (v := .tuple #[.slice a6 (setF (R.filterMap fun l => fillB r.head l)).length c6, .int .i64 0]) (by simp [results, Tryz.results84, go_sem]) rfl ⟨_, 0, rfl, HT6.out, HB6.out⟩
  · rw [if_pos h0] at hT
    obtain ⟨rfl, rfl⟩ := hT
    have HH : Hid (∀ w', HeadsT w' (.slice none 0 0) (errW r.body fs []) r fs) := fun w' => by unfold HeadsT; rw [if_pos h0]; exact ⟨rfl, rfl⟩
    clear HS HR1 HT1
    generalize errW r.body fs [] = er at *
    go_wp2
    exact bodyPost_ret (v := .tuple #[.slice none 0 0, .int .i64 er]) (by simp [results, Tryz.results84, go_sem]) rfl ⟨_, er, rfl, HH.out _, HB1.out⟩

end Go.Proofs.YtilkggldmgeagaaGreatDoor

/-
  DERIVED: THE SHELF's CONTRACTS AT THIS DUMP, IN PLAIN WORDS (tools/lay-plain.mjs out of 'TryzGrowLay.lean', which tools/lay-shelf.mjs wrote): THE SAME DECLARATIONS UNDER THE SAME NAMES: 'import', 'namespace', 'open', 'def', 'theorem' AND NOTHING ELSE: no command of the shelf's: FOR A HAND-IN. Each laying: the table of numbers ('.._ren') and one theorem, a field a fact of the dump's own or the kernel's comparison; each contract: ONE APPLICATION.
-/
namespace Go.Proofs
open Go.Shelf
def Tryz.growFacts_ren : Go.Shelf.Ren := ⟨fun | 4 => 90 | n => n, fun | 22 => 24 | 25 => 50 | 3 => 3 | 4 => 4 | 9 => 9 | 20 => 20 | 0 => 0 | n => n, fun | n => n⟩
theorem Tryz.growFacts : Go.Proofs.Lays8.n4 Tryz.prog Tryz.growFacts_ren := {
  mixed := by kernel_rfl
  f4 := ⟨Tryz.f90.name, by decide, Tryz.func90.trans (congrArg some (by kernel_rfl))⟩
  t0 := Tryz.underlying0
  a0 := Tryz.isAgg0
  z0 := Tryz.sizeOf0
  v0 := Tryz.zeroValue0
  t3 := Tryz.underlying3
  a3 := Tryz.isAgg3
  z3 := Tryz.sizeOf3
  v3 := Tryz.zeroValue3
  t4 := Tryz.underlying4
  a4 := Tryz.isAgg4
  z4 := Tryz.sizeOf4
  v4 := Tryz.zeroValue4
  t9 := Tryz.underlying9
  a9 := Tryz.isAgg9
  z9 := Tryz.sizeOf9
  v9 := Tryz.zeroValue9
  t20 := Tryz.underlying20
  a20 := Tryz.isAgg20
  z20 := Tryz.sizeOf20
  v20 := Tryz.zeroValue20
  t22 := Tryz.underlying24
  a22 := Tryz.isAgg24
  z22 := Tryz.sizeOf24
  v22 := Tryz.zeroValue24 }
end Go.Proofs

/- The walks of slices.Grow, slices.Concat at two lists of facts, fact.Join. -/
namespace Go.Proofs.YtilkggldmgeagaaGreatDoor
open Go.RowKit Go.Sort Go.Shelf

theorem growC (w0 w : World) (hL : Later w0 w) (n : Nat) (hn : n ≤ 3518437208883) : Calls Tryz.prog 90 #[.slice none 0 0, .int .i64 n] w fun e w' =>
    ∃ v', e = .returned v' ∧ RowF w' w0.heap.size v' [] ∧ Later w w' ∧ ∀ k, v'.ownBlock = some k → w.heap.size ≤ k := by
  by_cases h0 : n = 0
  · subst h0
    exact (Any8.slices_Grow_room Tryz.growFacts none 0 0 0 w (Nat.le_refl _) (by omega) (by omega) (Nat.le_refl _)).mono fun e w' ⟨he, hw⟩ =>
      ⟨_, he, by rw [hw]; exact ⟨[], World.ownsRow_nil w _ _ _, fun i hi => by simp at hi⟩, by rw [hw]; exact Later.refl _, fun k hk => by simp [Value.ownBlock] at hk⟩
  · obtain ⟨i, i1, i2, i3, i4⟩ := infoFact
    refine (Any8.slices_Grow_grow Tryz.growFacts i _ i1 i2 (by omega) none 0 0 n [] w (Nat.le_refl _) (by omega) (by rw [i4]; omega) (by omega) (by simp) (fun _ => rfl) (fun a h => by cases h)).mono fun e w' ⟨he, hw⟩ => ⟨_, he, ?_, ?_, fun k hk => ?_⟩
    · rw [hw]
      have hge := grownCap_ge w (0 + n) 0 (Tryz.growFacts_ren.t 25)
      have hcm := grownCap_le_maxLen w (0 + n) 0 (Tryz.growFacts_ren.t 25) (by simp only [maxLen]; omega)
      refine ⟨[], World.ownsRow_made (base := w0.heap.size) (e := 50) (size := 2) w.drew _ _ hL.size hcm ?_, fun i hi => by simp at hi⟩
      simp only [Array.size_append, List.size_toArray, size_zeroCells]
      show 0 + (0 + n - 0) * 2 + (grownCap w (0 + n) 0 (Tryz.growFacts_ren.t 25) - (0 + n)) * 2 = _
      omega
    · rw [hw]; exact (Later.refl w).drew.alloc _
    · simp [Value.ownBlock] at hk; omega

set_option maxHeartbeats 1000000 in
theorem concat (w0 w : World) (hL : Later w0 w) (c cp : Nat) (va vb : Value) (la lb : List FactD) (ha : Facts w0 va la) (hb : Facts w0 vb lb) (hn : la.length + lb.length ≤ 3518437208883) (hc0 : w.cell? ⟨c, 0, none⟩ = some va) (hc1 : w.cell? ⟨c, 1, none⟩ = some vb) (hcb : c < w.heap.size) :
    Calls Tryz.prog 66 #[.slice (some ⟨c, 0, none⟩) 2 cp] w fun e w' => ∃ v', e = .returned v' ∧ RowF w' w0.heap.size v' (la ++ lb) ∧ Later w0 w' := by
  have HA := hide ha
  have HB := hide hb
  obtain ⟨a1, c1, rfl⟩ := sliceFacts ha
  obtain ⟨a2, c2, rfl⟩ := sliceFacts hb
  clear ha hb
  have s1 : ¬ ((la.length : Int) < 0) := by omega
  have s2 : ¬ ((la.length : Int) + (lb.length : Int) < 0) := by omega
  go_enter Tryz.func66, Tryz.ntmps66
  go_wp2
  refine wp_loop_rounds 3 ?_
  rw [rounds_succ]
  go_wp2
  rw [rounds_succ]
  go_wp2
  rw [rounds_succ]
  go_wp2_with fail
  rw [show ((la.length : Int) + (lb.length : Int)) = ((la.length + lb.length : Nat) : Int) by omega]
  refine (growC w0 w hL (la.length + lb.length) hn).mono ?_
  rintro e w1 ⟨v1, rfl, hR1, hL1, hk1⟩
  obtain ⟨v2, w2, run2, hR2, hL2, hg2, hk2⟩ := hR1.append (hL.trans hL1) HA.out (by simp; omega)
  obtain ⟨v3, w3, run3, hR3, hL3, hg3, hk3⟩ := hR2.append hL2 HB.out (by simp; omega)
  rw [List.nil_append] at hR3
  have y0 : w1.cell? ⟨c, 0, none⟩ = some (.slice a1 la.length c1) := by rw [hL1.cell (p := ⟨c, 0, none⟩) hcb]; exact hc0
  have y1 : w1.cell? ⟨c, 1, none⟩ = some (.slice a2 lb.length c2) := by rw [hL1.cell (p := ⟨c, 1, none⟩) hcb]; exact hc1
  have y2 : w2.cell? ⟨c, 1, none⟩ = some (.slice a2 lb.length c2) := by
    rw [World.cell?_of_block (w := w1) (hg2.block c (Nat.lt_of_lt_of_le hcb hL1.size) (fun e => by have := hk1 c e.symm; omega))]; exact y1
  have R2 := hide run2
  have R3 := hide run3
  have HR := hide hR3
  clear run2 run3 hR1 hR2 hR3 hg2 hg3
  go_wp2
  refine wp_loop_rounds 3 ?_
  rw [rounds_succ]
  go_wp2_with (at_builtin; refine wpList_append_run rfl (.tmp 31) (.tmp 32) 24 rfl _ _ _ _ rfl rfl R2.out ?_)
  rw [rounds_succ]
  go_wp2_with (at_builtin; refine wpList_append_run rfl (.tmp 31) (.tmp 32) 24 rfl _ _ _ _ rfl rfl R3.out ?_)
  rw [rounds_succ]
  go_wp2
  go_ret
  exact ⟨v3, rfl, HR.out, hL3⟩

set_option maxHeartbeats 400000 in
theorem joinC (va vb : Value) (la lb : List FactD) (w : World) (ha : Facts w va la) (hb : Facts w vb lb) (hn : la.length + lb.length ≤ 3518437208883) :
    Calls Tryz.prog 48 #[va, vb] w fun e w' => ∃ v' s, e = .returned v' ∧ SetOf s (la ++ lb) ∧ OwnF w' w.heap.size v' s ∧ Later w w' := by
  have HA := hide ha
  have HB := hide hb
  obtain ⟨a1, c1, rfl⟩ := sliceFacts ha
  obtain ⟨a2, c2, rfl⟩ := sliceFacts hb
  clear ha hb
  go_enter Tryz.func48, Tryz.ntmps48
  go_wp2_with fail
  refine (concat w _ (by repeat (first | exact Later.refl _ | assumption | refine Later.drewN ?_ _ | refine Later.drew ?_ | refine Later.alloc ?_ _ | refine Later.grow ?_ _)) w.heap.size 2 _ _ la lb HA.out HB.out hn (by simp) (by simp) (by simp)).mono ?_
  rintro e w1 ⟨v1, rfl, hR, hL⟩
  have hr0 := rise w1 w.heap.size v1 (la ++ lb) hR (by simpa using hn)
  obtain ⟨a3, c3, rfl⟩ := ownsSlice hR.choose_spec.1
  rw [List.length_append] at hr0
  have hr := hide hr0
  clear hR hr0
  go_wp2_with fail
  refine hr.out.mono ?_
  rintro e w2 ⟨v2, s, rfl, hs, hO, hW⟩
  have HS := hide hs
  have HO := hide hO
  clear hs hO
  go_wp2
  go_ret
  exact ⟨v2, s, rfl, HS.out, HO.out.base hL.size, hW.later hL (Nat.le_refl _)⟩

end Go.Proofs.YtilkggldmgeagaaGreatDoor

/- What is new of what was new: the document's answer of chapter 6, plain, and what its laws want of it. Nothing of the program. -/
namespace Go.Proofs.YtilkggldmgeagaaGreatDoor

structure RunD where
  known : List FactB
  fresh : List FactB
  level : Int
  rounds : Int
  done : Bool

def noRun : RunD := ⟨[], [], 0, 0, false⟩

def atGo (K N : List FactB) (r : RuleD) : Nat → List AtomD → List FactB → Option (List FactB)
  | _, [], acc => some acc
  | k, a :: l, acc => if a.no then atGo K N r (k + 1) l acc else
    match allB (pickB K k N) r.body with
    | none => none
    | some R => atGo K N r (k + 1) l (acc ++ R.filterMap fun e => fillB r.head e)

def askP (K N : List FactB) (r : RuleD) (acc : List FactB) : Option (List FactB) := if r.body.all (·.no) then
    match headsP r K with
    | none => none
    | some x => some (acc ++ x)
  else atGo K N r 0 r.body acc

def makesGo (K N : List FactB) (st : Int) : List RuleD → List Nat → List FactB → Option (List FactB)
  | [], _, acc => some acc
  | _ :: _, [], acc => some acc
  | r :: p, s :: ss, acc => if (s : Int) = st then
      match askP K N r acc with
      | none => none
      | some acc' => makesGo K N st p ss acc'
    else makesGo K N st p ss acc

def newOf (K acc : List FactB) : List FactB := setF (acc.filter fun f => !inB K f)

def nextP (p : List RuleD) (ss : List Nat) (r : RunD) : Int × RunD := if r.rounds = 1000 then (5, noRun) else
  match makesGo r.known r.fresh r.level p ss [] with
  | none => (4, noRun)
  | some acc => if 200 < (setF (r.known ++ acc)).length then (5, noRun) else
    if newOf r.known acc = [] then (0, ⟨setF (r.known ++ acc), setF (r.known ++ acc), r.level + 1, r.rounds + 1, decide (r.level + 1 = countP ss)⟩)
    else (0, ⟨setF (r.known ++ acc), newOf r.known acc, r.level, r.rounds + 1, false⟩)

def stepsP (p : List RuleD) (ss : List Nat) : Nat → RunD → Int × RunD
  | 0, r => (0, r)
  | n + 1, r => if r.done then (0, r) else if (nextP p ss r).1 ≠ 0 then ((nextP p ss r).1, noRun) else stepsP p ss n (nextP p ss r).2

theorem mem_newOf {K acc : List FactB} {f : FactB} : f ∈ newOf K acc ↔ f ∈ acc ∧ f ∉ K := by
  unfold newOf
  rw [mem_setF, List.mem_filter]
  constructor
  · rintro ⟨h1, h2⟩
    exact ⟨h1, fun h => by rw [inB_iff.2 h] at h2; cases h2⟩
  · rintro ⟨h1, h2⟩
    refine ⟨h1, ?_⟩
    cases h : inB K f
    · rfl
    · exact absurd (inB_iff.1 h) h2

def Makes (K N : List FactB) (r : RuleD) (f : FactB) : Prop := (r.body.all (·.no) = true ∧ ∃ env, FitsB (fun _ => K) r.body env ∧ fillB r.head env = some f) ∨
  (¬ r.body.all (·.no) = true ∧ ∃ i a env, r.body[i]? = some a ∧ a.no = false ∧ FitsB (pickB K (i : Nat) N) r.body env ∧ fillB r.head env = some f)

theorem at_mem {K N : List FactB} {r : RuleD} : ∀ {l : List AtomD} {k : Nat} {acc S : List FactB}, atGo K N r k l acc = some S → ∀ f, f ∈ S ↔ f ∈ acc ∨ ∃ i a, l[i]? = some a ∧ a.no = false ∧ ∃ R, allB (pickB K ((k + i : Nat) : Int) N) r.body = some R ∧ ∃ e ∈ R, fillB r.head e = some f
  | [], k, acc, S, h, f => by
    simp only [atGo, Option.some.injEq] at h
    subst h
    refine ⟨Or.inl, fun h => h.elim id ?_⟩
    rintro ⟨i, a, h, _⟩
    simp at h
  | a :: l, k, acc, S, h, f => by
    unfold atGo at h
    split at h
    · rename_i hn
      rw [at_mem h f]
      constructor
      · rintro (h | ⟨i, b, h1, h2, h3⟩)
        · exact Or.inl h
        · exact Or.inr ⟨i + 1, b, by simpa using h1, h2, by rw [show k + (i + 1) = k + 1 + i by omega]; exact h3⟩
      · rintro (h | ⟨i, b, h1, h2, h3⟩)
        · exact Or.inl h
        · cases i with
          | zero => simp at h1; subst h1; rw [hn] at h2; cases h2
          | succ i => exact Or.inr ⟨i, b, by simpa using h1, h2, by rw [show k + 1 + i = k + (i + 1) by omega]; exact h3⟩
    · rename_i hn
      split at h
      · cases h
      · rename_i R hR
        rw [at_mem h f, List.mem_append]
        constructor
        · rintro ((h | h) | ⟨i, b, h1, h2, h3⟩)
          · exact Or.inl h
          · obtain ⟨e, he, hf⟩ := List.mem_filterMap.1 h
            exact Or.inr ⟨0, a, rfl, by simpa using hn, R, hR, e, he, hf⟩
          · exact Or.inr ⟨i + 1, b, by simpa using h1, h2, by rw [show k + (i + 1) = k + 1 + i by omega]; exact h3⟩
        · rintro (h | ⟨i, b, h1, h2, h3⟩)
          · exact Or.inl (Or.inl h)
          · cases i with
            | zero =>
              obtain ⟨R', hR', e, he, hf⟩ := h3
              have : R = R' := Option.some.inj (hR.symm.trans hR')
              subst this
              exact Or.inl (Or.inr (List.mem_filterMap.2 ⟨e, he, hf⟩))
            | succ i => exact Or.inr ⟨i, b, by simpa using h1, h2, by rw [show k + 1 + i = k + (i + 1) by omega]; exact h3⟩

theorem at_some {K N : List FactB} {r : RuleD} : ∀ {l : List AtomD} {k : Nat} {acc S : List FactB}, atGo K N r k l acc = some S → ∀ i a, l[i]? = some a → a.no = false → ∃ R, allB (pickB K ((k + i : Nat) : Int) N) r.body = some R
  | [], k, acc, S, h, i, a, hi, _ => by simp at hi
  | a :: l, k, acc, S, h, i, b, hi, hb => by
    unfold atGo at h
    split at h
    · rename_i hn
      cases i with
      | zero => simp at hi; subst hi; rw [hn] at hb; cases hb
      | succ i => rw [show k + (i + 1) = k + 1 + i by omega]; exact at_some h i b (by simpa using hi) hb
    · split at h
      · cases h
      · rename_i R hR
        cases i with
        | zero => exact ⟨R, hR⟩
        | succ i => rw [show k + (i + 1) = k + 1 + i by omega]; exact at_some h i b (by simpa using hi) hb

theorem ask_mem {K N : List FactB} {r : RuleD} (hr : RightR r) {acc S : List FactB} (h : askP K N r acc = some S) (f : FactB) : f ∈ S ↔ f ∈ acc ∨ Makes K N r f := by
  have hc := covers_right hr
  unfold askP at h
  split at h
  · rename_i hno
    split at h
    · cases h
    · rename_i x hx
      simp only [Option.some.injEq] at h
      subst h
      rw [List.mem_append, heads_mem hc hx]
      constructor
      · rintro (h | h)
        · exact Or.inl h
        · exact Or.inr (Or.inl ⟨hno, h⟩)
      · rintro (h | ⟨_, h⟩ | ⟨h, _⟩)
        · exact Or.inl h
        · exact Or.inr h
        · exact absurd hno h
  · rename_i hno
    rw [at_mem h f]
    constructor
    · rintro (h1 | ⟨i, a, h1, h2, R, h3, e, h4, h5⟩)
      · exact Or.inl h1
      · rw [Nat.zero_add] at h3
        exact Or.inr (Or.inr ⟨hno, i, a, e, h1, h2, (all_mem hc h3 e).1 h4, h5⟩)
    · rintro (h1 | ⟨h1, _⟩ | ⟨_, i, a, e, h1, h2, h3, h4⟩)
      · exact Or.inl h1
      · exact absurd h1 hno
      · obtain ⟨R, hR⟩ := at_some h i a h1 h2
        refine Or.inr ⟨i, a, h1, h2, R, hR, e, (all_mem hc hR e).2 ?_, h4⟩
        rw [Nat.zero_add]; exact h3

theorem makes_mem {K N : List FactB} {st : Int} (σ : RuleD → Nat) : ∀ {p : List RuleD} {acc S : List FactB}, (∀ r ∈ p, RightR r) → makesGo K N st p (p.map σ) acc = some S → ∀ f, f ∈ S ↔ f ∈ acc ∨ ∃ r ∈ p, (σ r : Int) = st ∧ Makes K N r f
  | [], acc, S, _, h, f => by
    simp only [makesGo, Option.some.injEq] at h
    subst h
    simp
  | r :: p, acc, S, hp, h, f => by
    simp only [makesGo, List.map_cons] at h
    split at h
    · rename_i hs
      split at h
      · cases h
      · rename_i acc' ha
        rw [makes_mem σ (fun q hq => hp q (by simp [hq])) h f, ask_mem (hp r (by simp)) ha]
        simp only [List.mem_cons, exists_eq_or_imp]
        constructor
        · rintro ((h | h) | h)
          · exact Or.inl h
          · exact Or.inr (Or.inl ⟨hs, h⟩)
          · exact Or.inr (Or.inr h)
        · rintro (h | ⟨_, h⟩ | h)
          · exact Or.inl (Or.inl h)
          · exact Or.inl (Or.inr h)
          · exact Or.inr h
    · rename_i hs
      rw [makes_mem σ (fun q hq => hp q (by simp [hq])) h f]
      simp only [List.mem_cons, exists_eq_or_imp]
      constructor
      · rintro (h | h)
        · exact Or.inl h
        · exact Or.inr (Or.inr h)
      · rintro (h | ⟨h, _⟩ | h)
        · exact Or.inl h
        · exact absurd h hs
        · exact Or.inr h

theorem fits_wide {K N : List FactB} {body : List AtomD} {env : List BindD} (hs : ∀ f ∈ N, f ∈ K) {i : Nat} {a : AtomD} (hi : body[i]? = some a) (ha : a.no = false) (h : FitsB (pickB K (i : Nat) N) body env) : FitsB (fun _ => K) body env := by
  refine ⟨h.1, h.2.1, h.2.2.1, fun j b hj => ?_⟩
  obtain ⟨f, hf, hb⟩ := h.2.2.2 j b hj
  refine ⟨f, hf, ?_⟩
  unfold pickB at hb
  split at hb
  · rename_i e
    have e : j = i := by omega
    subst e
    rw [hi] at hj
    cases hj
    rw [ha] at hb ⊢
    exact inB_iff.2 (hs f (inB_iff.1 hb))
  · exact hb

theorem makes_fits {K N : List FactB} {r : RuleD} {f : FactB} (hs : ∀ f ∈ N, f ∈ K) (h : Makes K N r f) : ∃ env, FitsB (fun _ => K) r.body env ∧ fillB r.head env = some f := by
  rcases h with ⟨_, h⟩ | ⟨_, i, a, env, h1, h2, h3, h4⟩
  · exact h
  · exact ⟨env, fits_wide hs h1 h2 h3, h4⟩

def Semi (K N : List FactB) (r : RuleD) : Prop := ∀ env f, FitsB (fun _ => K) r.body env → fillB r.head env = some f → f ∈ K ∨ Makes K N r f

structure RightN (p : List RuleD) (c : Nat) (r : RunD) : Prop where
  good : GoodS p r.known
  up : Up r.fresh
  sub : ∀ f ∈ r.fresh, f ∈ r.known
  lev : 0 ≤ r.level ∧ r.level ≤ c
  rnd : 0 ≤ r.rounds ∧ r.rounds ≤ 1000
  done : r.done = decide (r.level = c)

theorem makes_good {p : List RuleD} (hp : RightP p) (σ : RuleD → Nat) {K N : List FactB} {st : Int} (hK : GoodS p K) (hN : ∀ f ∈ N, f ∈ K) {M : List FactB} (h : makesGo K N st p (p.map σ) [] = some M) : ∀ f ∈ M, RightF f ∧ fitF p f = true := fun f hf => by
  rcases (makes_mem σ hp.rules h f).1 hf with h1 | ⟨r, hr, _, hm⟩
  · cases h1
  · obtain ⟨env, he, hh⟩ := makes_fits hN hm
    obtain ⟨a, b, c⟩ := head_right (hp.rules r hr) hK.right he hh
    exact ⟨a, head_fit hp hr b c⟩

theorem known_good {p : List RuleD} {K M : List FactB} (hK : GoodS p K) (hM : ∀ f ∈ M, RightF f ∧ fitF p f = true) (hl : (setF (K ++ M)).length ≤ 200) : GoodS p (setF (K ++ M)) := by
  have key : ∀ f ∈ setF (K ++ M), RightF f ∧ fitF p f = true := fun f hf => by
    rcases List.mem_append.1 (mem_setF.1 hf) with h | h
    · exact ⟨hK.right f h, hK.fit f h⟩
    · exact hM f h
  exact ⟨setF_up _, fun f hf => (key f hf).1, hl, fun f hf => (key f hf).2⟩

theorem new_nil {K M : List FactB} (hK : Up K) : newOf K M = [] ↔ setF (K ++ M) = K := by
  constructor
  · intro h
    refine (setF_of hK fun f => ?_).symm
    rw [List.mem_append]
    refine ⟨Or.inl, fun h1 => h1.elim id fun h1 => Classical.byContradiction fun hn => ?_⟩
    have := mem_newOf.2 ⟨h1, hn⟩
    rw [h] at this
    cases this
  · intro h
    refine List.eq_nil_iff_forall_not_mem.2 fun f hf => ?_
    obtain ⟨h1, h2⟩ := mem_newOf.1 hf
    exact h2 (h ▸ mem_setF.2 (List.mem_append.2 (Or.inr h1)))

theorem next_ok {p : List RuleD} {ss : List Nat} {r x : RunD} (h : nextP p ss r = (0, x)) : r.rounds ≠ 1000 ∧ ∃ M, makesGo r.known r.fresh r.level p ss [] = some M ∧ (setF (r.known ++ M)).length ≤ 200 ∧
    ((newOf r.known M = [] ∧ x = ⟨setF (r.known ++ M), setF (r.known ++ M), r.level + 1, r.rounds + 1, decide (r.level + 1 = countP ss)⟩) ∨ (newOf r.known M ≠ [] ∧ x = ⟨setF (r.known ++ M), newOf r.known M, r.level, r.rounds + 1, false⟩)) := by
  unfold nextP at h
  split at h
  · simp at h
  · rename_i hr
    split at h
    · simp at h
    · rename_i M hM
      split at h
      · simp at h
      · rename_i hl
        split at h
        · rename_i hn
          simp only [Prod.mk.injEq, true_and] at h
          exact ⟨hr, M, hM, by omega, Or.inl ⟨hn, h.symm⟩⟩
        · rename_i hn
          simp only [Prod.mk.injEq, true_and] at h
          exact ⟨hr, M, hM, by omega, Or.inr ⟨hn, h.symm⟩⟩

theorem next_err {p : List RuleD} {ss : List Nat} {r : RunD} : (nextP p ss r).1 = 0 ∨ nextP p ss r = (4, noRun) ∨ nextP p ss r = (5, noRun) := by
  unfold nextP
  split
  · exact Or.inr (Or.inr rfl)
  · split
    · exact Or.inr (Or.inl rfl)
    · split
      · exact Or.inr (Or.inr rfl)
      · split <;> exact Or.inl rfl

theorem next_right {p : List RuleD} (hp : RightP p) (σ : RuleD → Nat) {r x : RunD} (hr : RightN p (countP (p.map σ)) r) (hd : r.done = false) (h : nextP p (p.map σ) r = (0, x)) :
    RightN p (countP (p.map σ)) x ∧ (∀ f ∈ r.known, f ∈ x.known) ∧ x.rounds = r.rounds + 1 ∧ ((x.level = r.level ∧ r.known.length < x.known.length) ∨ (x.level = r.level + 1 ∧ x.known = r.known)) := by
  obtain ⟨h0, M, hM, hl, hx⟩ := next_ok h
  have hg := known_good hr.good (makes_good hp σ hr.good hr.sub hM) hl
  have hsub : ∀ f ∈ r.known, f ∈ setF (r.known ++ M) := fun f hf => mem_setF.2 (List.mem_append.2 (Or.inl hf))
  have hdn := hr.done
  rw [hd] at hdn
  have hdn : r.level ≠ countP (p.map σ) := by simpa using hdn.symm
  have hlev := hr.lev
  have hrnd := hr.rnd
  rcases hx with ⟨hn, rfl⟩ | ⟨hn, rfl⟩
  · refine ⟨⟨hg, setF_up _, fun _ h => h, ⟨?_, ?_⟩, ⟨?_, ?_⟩, rfl⟩, hsub, rfl, Or.inr ⟨rfl, (new_nil hr.good.up).1 hn⟩⟩ <;> dsimp only <;> omega
  · refine ⟨⟨hg, setF_up _, fun f hf => mem_setF.2 (List.mem_append.2 (Or.inr (mem_newOf.1 hf).1)), ⟨?_, ?_⟩, ⟨?_, ?_⟩, ?_⟩, hsub, rfl, Or.inl ⟨rfl, ?_⟩⟩
    · dsimp only; omega
    · dsimp only; omega
    · dsimp only; omega
    · dsimp only; omega
    · simp [hdn]
    · have h1 := up_le hr.good.up hsub
      refine Classical.byContradiction fun h2 => hn ((new_nil hr.good.up).2 (up_same hr.good.up (setF_up _) hsub (by dsimp only at h2; omega)).symm)


theorem steps_done {p : List RuleD} {ss : List Nat} {r : RunD} (h : r.done = true) : ∀ n, stepsP p ss n r = (0, r)
  | 0 => rfl
  | n + 1 => by unfold stepsP; rw [if_pos h]

theorem steps_next {p : List RuleD} {ss : List Nat} {r : RunD} (h : r.done = false) (n : Nat) : stepsP p ss (n + 1) r = if (nextP p ss r).1 ≠ 0 then ((nextP p ss r).1, noRun) else stepsP p ss n (nextP p ss r).2 := by
  rw [stepsP, if_neg (by simp [h])]

theorem steps_right {p : List RuleD} (hp : RightP p) (σ : RuleD → Nat) : ∀ (n : Nat) {r x : RunD}, RightN p (countP (p.map σ)) r → stepsP p (p.map σ) n r = (0, x) → RightN p (countP (p.map σ)) x
  | 0, r, x, hr, h => by simp [stepsP] at h; subst h; exact hr
  | n + 1, r, x, hr, h => by
    unfold stepsP at h
    split at h
    · simp at h; subst h; exact hr
    · rename_i hd
      split at h
      · rename_i he; simp at h; exact absurd h.1 he
      · rename_i he
        have hn : nextP p (p.map σ) r = (0, (nextP p (p.map σ) r).2) := by rw [← Classical.byContradiction fun h : ¬ (nextP p (p.map σ) r).1 = 0 => he h]
        exact steps_right hp σ n (next_right hp σ hr (by simpa using hd) hn).1 h

theorem steps_err {p : List RuleD} {ss : List Nat} : ∀ (n : Nat) (r : RunD), (stepsP p ss n r).1 = 0 ∨ stepsP p ss n r = (4, noRun) ∨ stepsP p ss n r = (5, noRun)
  | 0, r => Or.inl rfl
  | n + 1, r => by
    unfold stepsP
    split
    · exact Or.inl rfl
    · split
      · rename_i he
        rcases next_err (p := p) (ss := ss) (r := r) with h | h | h
        · exact absurd h he
        · rw [h]; exact Or.inr (Or.inl rfl)
        · rw [h]; exact Or.inr (Or.inr rfl)
      · exact steps_err n _

end Go.Proofs.YtilkggldmgeagaaGreatDoor
